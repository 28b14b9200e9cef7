/- Objects that are alike. -/
import Derived.Test.YtljnddcddclmeaaJ33
namespace Go.Proofs.Ytljnddcddclmeaa
open Go.RowKit
open Ob (Bs)

set_option maxRecDepth 100000 in
set_option maxHeartbeats 8000000 in
theorem alike_ov {w : World} {b o b' o' : Nat} {O : Ob.O} {sa ua va pa na ca sa' ua' va' pa' na' ca' : Option Addr} {sc uc vc pc nc cc sc' uc' vc' pc' nc' cc' : Nat} (hV : OV w b o O sa ua va pa na ca sc uc vc pc nc cc) (hV' : OV w b' o' O sa' ua' va' pa' na' ca' sc' uc' vc' pc' nc' cc') (hB : Bd O) :
    Calls Try.prog 10 #[.pointer (some ⟨b, o, none⟩), .pointer (some ⟨b', o', none⟩)] w fun e w' => e = .returned (.bool true) ∧ Below w.heap.size w w' := by
  have HK : Hid (∀ W, Below w.heap.size w W → W.cell? ⟨b, o, none⟩ = some (.string (bs O.name)) ∧ W.cell? ⟨b, o + 1, none⟩ = some (.slice sa O.syms.length sc) ∧ W.cell? ⟨b, o + 2, none⟩ = some (.slice ua O.uses.length uc) ∧ W.cell? ⟨b, o + 3, none⟩ = some (.slice va O.vars.length vc) ∧ W.cell? ⟨b, o + 5, none⟩ = some (.slice na O.names.length nc) ∧ W.cell? ⟨b', o', none⟩ = some (.string (bs O.name)) ∧ W.cell? ⟨b', o' + 1, none⟩ = some (.slice sa' O.syms.length sc') ∧ W.cell? ⟨b', o' + 2, none⟩ = some (.slice ua' O.uses.length uc') ∧ W.cell? ⟨b', o' + 3, none⟩ = some (.slice va' O.vars.length vc') ∧ W.cell? ⟨b', o' + 5, none⟩ = some (.slice na' O.names.length nc')) := fun W hW => ⟨(hV.below hW).c0, (hV.below hW).c1, (hV.below hW).c2, (hV.below hW).c3, (hV.below hW).c5, (hV'.below hW).c0, (hV'.below hW).c1, (hV'.below hW).c2, (hV'.below hW).c3, (hV'.below hW).c5⟩
  have HC0 : Hid (∀ W, Below w.heap.size w W → Calls Try.prog 29 #[.slice sa O.syms.length sc, .slice sa' O.syms.length sc'] W fun e w' => e = .returned (.bool true) ∧ Below W.heap.size W w') := fun W hW => eqSym (hV.below hW).s (hV'.below hW).s hB.sl
  have HC1 : Hid (∀ W, Below w.heap.size w W → Calls Try.prog 30 #[.slice ua O.uses.length uc, .slice ua' O.uses.length uc', .func (.func 31) #[] #[]] W fun e w' => e = .returned (.bool true) ∧ Below W.heap.size W w') := fun W hW => by
    obtain ⟨u1, a1, a2⟩ := (hV.below hW).u
    obtain ⟨u2, a3, a4⟩ := (hV'.below hW).u
    exact eqUses a1 a2 a3 a4 hB.ul (fun x hx => (hB.u x hx).2.1)
  have HC2 : Hid (∀ W, Below w.heap.size w W → Calls Try.prog 33 #[.slice va O.vars.length vc, .slice va' O.vars.length vc'] W fun e w' => e = .returned (.bool true) ∧ Below W.heap.size W w') := fun W hW => eqGl (hV.below hW).v (hV'.below hW).v hB.vl
  have HC3 : Hid (∀ W, Below w.heap.size w W → Calls Try.prog 32 #[.slice na O.names.length nc, .slice na' O.names.length nc'] W fun e w' => e = .returned (.bool true) ∧ Below W.heap.size W w') := fun W hW => eqStr (hV.below hW).n (hV'.below hW).n hB.nl
  have HK0 := Lib.hid (HK.out _ (below_drew w))
  have HB0 := Lib.hid (below_drew w)
  have hz1 := lt_of_cell hV.c0
  have hz2 := lt_of_cell hV'.c0
  clear hV hV' hB
  go_enter Try.func10, Try.ntmps10
  go_wp2_with fail
  go_region_held3 (fun W => W.cell? ⟨b, o, none⟩ = some (.string (bs O.name)) ∧ W.cell? ⟨b, o + 1, none⟩ = some (.slice sa O.syms.length sc) ∧ W.cell? ⟨b, o + 2, none⟩ = some (.slice ua O.uses.length uc) ∧ W.cell? ⟨b, o + 3, none⟩ = some (.slice va O.vars.length vc) ∧ W.cell? ⟨b, o + 5, none⟩ = some (.slice na O.names.length nc) ∧ W.cell? ⟨b', o', none⟩ = some (.string (bs O.name)) ∧ W.cell? ⟨b', o' + 1, none⟩ = some (.slice sa' O.syms.length sc') ∧ W.cell? ⟨b', o' + 2, none⟩ = some (.slice ua' O.uses.length uc') ∧ W.cell? ⟨b', o' + 3, none⟩ = some (.slice va' O.vars.length vc') ∧ W.cell? ⟨b', o' + 5, none⟩ = some (.slice na' O.names.length nc')) (with_reducible (first | exact HK4.out | exact HK3.out | exact HK2.out | exact HK1.out | exact HK0.out)) (first | (go_at_call 29; refine (HC0.out _ HB0.out).mono ?_; rintro e w1 ⟨rfl, hb1⟩; have HB1 : Hid (Below w.heap.size w w1) := HB0.out.trans (hb1.mono HB0.out.size); have HK1 := Lib.hid (HK.out _ HB1.out); clear hb1) | (go_at_call 30; refine (HC1.out _ HB1.out).mono ?_; rintro e w2 ⟨rfl, hb2⟩; have HB2 : Hid (Below w.heap.size w w2) := HB1.out.trans (hb2.mono HB1.out.size); have HK2 := Lib.hid (HK.out _ HB2.out); clear hb2) | (go_at_call 33; refine (HC2.out _ HB2.out).mono ?_; rintro e w3 ⟨rfl, hb3⟩; have HB3 : Hid (Below w.heap.size w w3) := HB2.out.trans (hb3.mono HB2.out.size); have HK3 := Lib.hid (HK.out _ HB3.out); clear hb3) | (go_at_call 32; refine (HC3.out _ HB3.out).mono ?_; rintro e w4 ⟨rfl, hb4⟩; have HB4 : Hid (Below w.heap.size w w4) := HB3.out.trans (hb4.mono HB3.out.size); have HK4 := Lib.hid (HK.out _ HB4.out); clear hb4))
  go_wp2_with fail
  go_ret
  exact ⟨rfl, HB4.out⟩
end Go.Proofs.Ytljnddcddclmeaa
