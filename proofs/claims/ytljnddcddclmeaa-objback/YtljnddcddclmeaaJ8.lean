/- Reading: what is used of others. -/
import Derived.Test.YtljnddcddclmeaaJ7
namespace Go.Proofs.Ytljnddcddclmeaa
open Go.RowKit
open Ob (Bs)

/- a row of cells, by the blocks that D tells -/
def Row (w : World) (D : Nat → Prop) (e size : Nat) (v : Value) (n : Nat) (cs : List Value) : Prop :=
  v = .slice none 0 0 ∧ n = 0 ∧ cs = [] ∨ ∃ g cap cur, v = .slice (some ⟨g, 0, none⟩) n cap ∧ D g ∧ w.heap[g]? = some (.cells cur e (0, 0)) ∧ n ≤ cap ∧ cap ≤ maxLen ∧ cur.size = cap * size ∧ cur.toList.take (n * size) = cs
theorem Row.mono {w w' : World} {D D' : Nat → Prop} (hw : ∀ b, D b → b < w.heap.size → w'.heap[b]? = w.heap[b]? ∧ D' b) {e size : Nat} {v : Value} {n : Nat} {cs : List Value} (h : Row w D e size v n cs) : Row w' D' e size v n cs := by
  rcases h with h | ⟨g, cap, cur, h1, h2, h3, h4⟩
  · exact Or.inl h
  · obtain ⟨e1, e2⟩ := hw g h2 (lt_blk h3)
    exact Or.inr ⟨g, cap, cur, h1, e2, e1.trans h3, h4⟩
theorem Row.of_owns {w : World} {base e size n : Nat} {v : Value} {cs : List Value} (h : w.ownsRow base e size v n cs) : Row w (fun b => base ≤ b ∧ v.ownBlock = some b) e size v n cs := by
  rcases h.2 with ⟨rfl, rfl⟩ | ⟨g, cap, cur, rfl, q1, q2, q3, q4, q5, q6⟩
  · exact Or.inl ⟨rfl, rfl, List.eq_nil_of_length_eq_zero (by simpa using h.1)⟩
  · exact Or.inr ⟨g, cap, cur, rfl, ⟨q1, rfl⟩, q2, q3, q4, q5, q6⟩
def RepU (w : World) (D : Nat → Prop) : List Ob.Us → List Value → Prop
  | [], cs => cs = []
  | u :: l, cs => ∃ (nv : Value) (cs' : List Value), cs = [.string (bs u.name), .string (bs u.need), nv] ++ cs' ∧ Row w D 9 1 nv u.names.length (cellsOf stC u.names) ∧ RepU w D l cs'
theorem RepU.mono {w w' : World} {D D' : Nat → Prop} (hw : ∀ b, D b → b < w.heap.size → w'.heap[b]? = w.heap[b]? ∧ D' b) : ∀ (l : List Ob.Us) (cs : List Value), RepU w D l cs → RepU w' D' l cs := by
  intro l
  induction l with
  | nil => intro cs h; exact h
  | cons c l ih =>
    intro cs h
    obtain ⟨nv, cs', h1, h2, h3⟩ := h
    exact ⟨nv, cs', h1, h2.mono hw, ih cs' h3⟩
theorem RepU.app {w : World} {D : Nat → Prop} : ∀ (l m : List Ob.Us) (cs us : List Value), RepU w D l cs → RepU w D m us → RepU w D (l ++ m) (cs ++ us) := by
  intro l
  induction l with
  | nil => intro m cs us h k; rw [show cs = [] from h]; exact k
  | cons c l ih =>
    intro m cs us h k
    obtain ⟨nv, cs', h1, h2, h3⟩ := h
    exact ⟨nv, cs' ++ us, by rw [h1, List.append_assoc], h2, ih m cs' us h3 k⟩
def VUs (B : Nat) (u : Ob.Us) (v : Value) (w : World) : Prop := ∃ (na : Option Addr) (nc : Nat), v = .agg #[.string (bs u.name), .string (bs u.need), .slice na u.names.length nc] ∧ w.ownsRow B 9 1 (.slice na u.names.length nc) u.names.length (cellsOf stC u.names)
theorem listStr_100 {w : World} {rb : Nat} {l : Bs} (h : Rst w rb l) :
    Calls Try.prog 69 #[.pointer (some ⟨rb, 0, none⟩), .int .i64 100, .func (.func 62) #[.pointer (some ⟨rb, 0, none⟩)] #[]] w fun e w' =>
      Rp rb w (fun xs v w' => w'.ownsRow w.heap.size 9 1 v xs.length (cellsOf stC xs)) (Ob.listR 100 Ob.txtR l) e w' := listStr_any h 100 (by omega)
set_option maxRecDepth 100000 in
set_option maxHeartbeats 400000 in
theorem use_any {w : World} {rb : Nat} {l : Bs} (h : Rst w rb l) :
    Calls Try.prog 66 #[.pointer (some ⟨rb, 0, none⟩)] w fun e w' => Rp rb w (VUs w.heap.size) (Ob.useR l) e w' := by
  have hrl := lt_of_cell h.c
  have hb0 : Below w.heap.size w (w.alloc (.cells #[.string ⟨#[]⟩, .string ⟨#[]⟩, .slice none 0 0] 61)) := (Below.refl _ _).alloc (Nat.le_refl _) _
  have hk0 : (w.alloc (.cells #[.string ⟨#[]⟩, .string ⟨#[]⟩, .slice none 0 0] 61)).heap[w.heap.size]? = some (.cells #[.string ⟨#[]⟩, .string ⟨#[]⟩, .slice none 0 0] 61 (0, 0)) := new_blk _ _
  have hR : Ob.useR l = (Ob.txtR l).bind fun x => (Ob.txtR x.2).bind fun y => (Ob.listR 100 Ob.txtR y.2).map fun z => (⟨x.1, y.1, z.1⟩, z.2) := rfl
  have HR := Lib.hid hR
  clear hR
  generalize Ob.useR l = resT at *
  have hmf : ∀ (fn : Fn) (first cap : Array Value) (w : World), (Instr.makeFunc fn first cap).run Try.prog w = .ok (.func fn first cap) w := fun _ _ _ _ => rfl
  go_enter Try.func66, Try.ntmps66
  go_wp2_with fail
  generalize w.alloc (.cells #[.string ⟨#[]⟩, .string ⟨#[]⟩, .slice none 0 0] 61) = w0 at *
  have HX0 : Hid (Ext rb w w0) := Ext.below hb0
  have HK0 := Lib.hid hk0
  have HC := Lib.hid (text_any (h.ext hb0))
  clear h hb0 hk0
  generalize Ob.txtR l = res at *
  refine HC.out.mono ?_
  intro e w1 hq
  rcases res with _ | ⟨x, r1⟩
  · obtain ⟨rfl, hx⟩ := hq
    unfold thrown
    go_wp2_with fail
    rw [HR.out]
    exact ⟨rfl, rfl, HX0.out.trans hx⟩
  · obtain ⟨v, rfl, rfl, hst, hx⟩ := hq
    have HX1 := Lib.hid (HX0.out.trans hx)
    have HK1 : Hid (w1.heap[w.heap.size]? = some (.cells #[.string ⟨#[]⟩, .string ⟨#[]⟩, .slice none 0 0] 61 (0, 0))) := (hx.block _ (lt_blk HK0.out) (by omega)).trans HK0.out
    have HC1 := Lib.hid (text_any hst)
    have HR1 : Hid (resT = (Ob.txtR r1).bind fun y => (Ob.listR 100 Ob.txtR y.2).map fun z => (⟨x, y.1, z.1⟩, z.2)) := HR
    clear hx hst HC HR HX0 HK0
    generalize Ob.txtR r1 = res at *
    go_wp2_with fail
    refine HC1.out.mono ?_
    intro e w2 hq
    rcases res with _ | ⟨y, r2⟩
    · obtain ⟨rfl, hx⟩ := hq
      unfold thrown
      go_wp2_with fail
      rw [HR1.out]
      exact ⟨rfl, rfl, HX1.out.trans hx⟩
    · obtain ⟨v, rfl, rfl, hst, hx⟩ := hq
      have HX2 := Lib.hid (HX1.out.trans hx)
      have HK2 : Hid (w2.heap[w.heap.size]? = some (.cells #[.string ⟨#[]⟩, .string ⟨#[]⟩, .slice none 0 0] 61 (0, 0))) := (hx.block _ (lt_blk HK1.out) (by omega)).trans HK1.out
      have HC2 := Lib.hid (listStr_100 hst)
      have HR2 : Hid (resT = (Ob.listR 100 Ob.txtR r2).map fun z => (⟨x, y, z.1⟩, z.2)) := HR1
      clear hx hst HC1 HR1 HX1 HK1
      generalize Ob.listR 100 Ob.txtR r2 = res at *
      go_wp2_with fail
      refine HC2.out.mono ?_
      intro e w3 hq
      rcases res with _ | ⟨z, r3⟩
      · obtain ⟨rfl, hx⟩ := hq
        unfold thrown
        go_wp2_with fail
        rw [HR2.out]
        exact ⟨rfl, rfl, HX2.out.trans hx⟩
      · obtain ⟨v, rfl, hv, hst, hx⟩ := hq
        obtain ⟨na, nc, rfl⟩ := owns_shape hv
        have HV := Lib.hid hv
        have hs02 := HX2.out.size
        have hs2s := lt_blk HK2.out
        clear hv
        have HX3 := Lib.hid (HX2.out.trans hx)
        have hk3 := (hx.block _ (lt_blk HK2.out) (by omega)).trans HK2.out
        have HST := Lib.hid hst
        have k0 : w3.cell? ⟨w.heap.size, 0, none⟩ = some (.string ⟨#[]⟩) := cell_blk hk3
        have k1 : w3.cell? ⟨w.heap.size, 1, none⟩ = some (.string ⟨#[]⟩) := cell_blk hk3
        have k2 : w3.cell? ⟨w.heap.size, 2, none⟩ = some (.slice none 0 0) := cell_blk hk3
        have kf : ∀ i, w3.frozen? ⟨w.heap.size, i, none⟩ = false := fun i => frozen_blk hk3
        have HK3 := Lib.hid hk3
        clear hx hst HC2 HX2 HK2 hk3
        go_wp2_with fail
        obtain ⟨hs1, hs2⟩ := set3_out (.string (bs x)) (.string (bs y)) (.slice na z.length nc) HK3.out
        have hown' : (((w3.setCell ⟨w.heap.size, 0, none⟩ (.string (bs x))).setCell ⟨w.heap.size, 1, none⟩ (.string (bs y))).setCell ⟨w.heap.size, 2, none⟩ (.slice na z.length nc)).ownsRow w.heap.size 9 1 (.slice na z.length nc) z.length (cellsOf stC z) := by
          rcases HV.out.2 with q | ⟨g, cap, cur, q0, q1, q2, q3⟩
          · exact ⟨HV.out.1, Or.inl q⟩
          · exact ⟨HV.out.1, Or.inr ⟨g, cap, cur, q0, by omega, (hs2.block g (lt_blk q2) (by omega)).trans q2, q3⟩⟩
        have hst' := HST.out.other hs2 (by omega)
        have hx' := HX3.out.new hs2 (Nat.le_refl _)
        generalize ((w3.setCell ⟨w.heap.size, 0, none⟩ (.string (bs x))).setCell ⟨w.heap.size, 1, none⟩ (.string (bs y))).setCell ⟨w.heap.size, 2, none⟩ (.slice na z.length nc) = wd at *
        have d0 : wd.cell? ⟨w.heap.size, 0, none⟩ = some (.string (bs x)) := cell_blk hs1
        have d1 : wd.cell? ⟨w.heap.size, 1, none⟩ = some (.string (bs y)) := cell_blk hs1
        have d2 : wd.cell? ⟨w.heap.size, 2, none⟩ = some (.slice na z.length nc) := cell_blk hs1
        refine bodyPost_ret (v := .agg #[.string (bs x), .string (bs y), .slice na z.length nc]) (by simp [results, Try.results66, go_sem, d0, d1, d2]) rfl ?_
        rw [HR2.out]
        exact ⟨_, rfl, ⟨na, nc, rfl, hown'⟩, hst', hx'⟩
end Go.Proofs.Ytljnddcddclmeaa
