import Derived.Test.YthkdefhngkangaaDoorKWW
import Derived.Test.YthkdefhngkangaaDoorKWP
import Derived.Test.YthkdefhngkangaaDoorKPB
/- A fact: how a module is written: parsed. -/
namespace Go.Proofs.YthkdefhngkangaaDoor
open Go.RowKit

/- what the program reads of its variables -/
structure Vars (B : Nat) (w : World) : Prop where
  mks : Mk w
  lv : Lv w
  tab : Tab B w
  m : 0 < B
  l : 2 < B
theorem Vars.on {B : Nat} {w w' : World} (h : Vars B w) (k : Below B w w') : Vars B w' := ⟨h.mks.below k h.m, h.lv.below k h.l, h.tab.on k, h.m, h.l⟩
theorem Vars.wr {B B' : Nat} {w : World} (h : Vars B w) (hB : B ≤ B') : Wr B' w := ⟨fun w' k => h.tab w' (k.mono hB), h.lv, Nat.lt_of_lt_of_le h.l hB⟩
theorem MB.up {w w' : World} {m : Tp.M} {ia ga pa ba : Option Addr} {ic gc pc bc : Nat} (h : MB w w.heap.size m ia ga pa ba ic gc pc bc) (k : Below w.heap.size w w') : MB w' w'.heap.size m ia ga pa ba ic gc pc bc := by
  have hk : ∀ b, b < w.heap.size → b < w.heap.size → w'.heap[b]? = w.heap[b]? ∧ b < w'.heap.size := fun b hi _ => ⟨k.block b hi, Nat.lt_of_lt_of_le hi k.size⟩
  obtain ⟨pcs, p1, p2⟩ := h.pr
  obtain ⟨bcs, b1, b2⟩ := h.bd
  exact ⟨h.im.mono hk, h.gl.mono hk, ⟨pcs, p1.mono hk _ _, p2.mono hk⟩, ⟨bcs, b1.mono' hk, b2.mono hk⟩⟩
set_option maxRecDepth 100000 in
set_option maxHeartbeats 2000000 in
theorem parsed_post {w : World} {B : Nat} (hv : Vars B w) (hB : B ≤ w.heap.size) : Calls Tryd.prog 7 #[] w fun e w' => e = .returned (.bool true) ∧ Below w.heap.size w w' := by
  have hp := parse_post w Tp.txt1 (by decide) hv.mks hv.lv
  have HP : Hid (Calls Tryd.prog 8 #[.string ⟨#[109, 111, 100, 117, 108, 101, 32, 109, 59, 105, 109, 112, 111, 114, 116, 32, 97, 59, 118, 97, 114, 32, 120, 42, 58, 97, 114, 114, 97, 121, 32, 51, 59, 112, 114, 111, 99, 32, 102, 42, 40, 112, 44, 113, 41, 59, 118, 97, 114, 32, 116, 59, 98, 101, 103, 105, 110, 32, 116, 58, 61, 112, 42, 40, 113, 43, 49, 41, 59, 105, 102, 32, 116, 32, 116, 104, 101, 110, 32, 114, 101, 116, 117, 114, 110, 32, 45, 116, 59, 101, 110, 100, 59, 101, 110, 100, 59, 98, 101, 103, 105, 110, 32, 120, 91, 48, 93, 58, 61, 97, 46, 103, 40, 49, 41, 45, 40, 50, 45, 51, 41, 59, 101, 110, 100, 46]⟩] w fun e w' => Below w.heap.size w w' ∧ ∃ v, e = .returned (.tuple #[v, .nilIface]) ∧ VM w.heap.size Tp.mod1 v w') := by
    refine hp.mono ?_
    rintro e w' ⟨h1, h2⟩
    unfold ParseP at h2
    rw [Tp.parse1] at h2
    exact ⟨h1, h2⟩
  have hwm := (Tp.parse_wm Tp.parse1).1
  clear hp
  have HV := Lib.hid hv
  clear hv
  go_enter Tryd.func7, Tryd.ntmps7
  go_wp2_with fail
  refine HP.out.mono ?_
  rintro e w1 ⟨h1, v1, rfl, hvm⟩
  obtain ⟨ia, ga, pa, ba, ic, gc, pc, bc, rfl, hmb⟩ := hvm.mb
  have hsz := h1.size
  have hal : ∀ ob, Below w1.heap.size w1 (w1.alloc ob) := fun ob => (Below.refl _ _).alloc (Nat.le_refl _) _
  have hv1 : ∀ ob, Vars B (w1.alloc ob) := fun ob => (HV.out.on (h1.mono hB)).on ((hal ob).mono (by omega))
  have hpr : ∀ ob, Calls Tryd.prog 9 #[.agg (mcells (bs Tp.mod1.name) (.slice ia Tp.mod1.imports.length ic) (.slice ga Tp.mod1.vars.length gc) (.slice pa Tp.mod1.procs.length pc) (.slice ba Tp.mod1.body.length bc))] (w1.alloc ob) fun e w' => e = .returned (.string (bs (Tp.print Tp.mod1))) ∧ Below (w1.alloc ob).heap.size (w1.alloc ob) w' := fun ob =>
    print_post hwm (hmb.up (hal ob)) ((hv1 ob).wr (by simp; omega)) (by rw [Tp.print1]; decide)
  rw [Tp.print1] at hpr
  have HPR : Hid (∀ ob, Calls Tryd.prog 9 #[.agg #[.string ⟨#[109]⟩, .slice ia 1 ic, .slice ga 1 gc, .slice pa 1 pc, .slice ba 1 bc]] (w1.alloc ob) fun e w' => e = .returned (.string ⟨#[109, 111, 100, 117, 108, 101, 32, 109, 59, 10, 105, 109, 112, 111, 114, 116, 32, 97, 59, 10, 118, 97, 114, 32, 120, 42, 58, 32, 97, 114, 114, 97, 121, 32, 51, 59, 10, 112, 114, 111, 99, 32, 102, 42, 40, 112, 44, 32, 113, 41, 59, 10, 118, 97, 114, 32, 116, 59, 10, 98, 101, 103, 105, 110, 10, 32, 32, 116, 32, 58, 61, 32, 112, 32, 42, 32, 40, 113, 32, 43, 32, 49, 41, 59, 10, 32, 32, 105, 102, 32, 116, 32, 116, 104, 101, 110, 10, 32, 32, 32, 32, 114, 101, 116, 117, 114, 110, 32, 45, 116, 59, 10, 32, 32, 101, 110, 100, 59, 10, 101, 110, 100, 59, 10, 98, 101, 103, 105, 110, 10, 32, 32, 120, 91, 48, 93, 32, 58, 61, 32, 97, 46, 103, 40, 49, 41, 32, 45, 32, 40, 50, 32, 45, 32, 51, 41, 59, 10, 101, 110, 100, 46, 10]⟩) ∧ Below (w1.alloc ob).heap.size (w1.alloc ob) w') := hpr
  have HB : Hid (Below w.heap.size w w1) := h1
  have HAL : Hid (∀ ob, Below w1.heap.size w1 (w1.alloc ob)) := hal
  show _
  have e0 : mcells (bs Tp.mod1.name) (.slice ia Tp.mod1.imports.length ic) (.slice ga Tp.mod1.vars.length gc) (.slice pa Tp.mod1.procs.length pc) (.slice ba Tp.mod1.body.length bc) = #[.string ⟨#[109]⟩, .slice ia 1 ic, .slice ga 1 gc, .slice pa 1 pc, .slice ba 1 bc] := rfl
  rw [e0]
  clear hpr hal hv1 hmb hvm h1 e0 hwm HP HV
  go_wp2_with (go_at_call 9; refine (HPR.out _).mono ?_; rintro e w2 ⟨rfl, h2⟩)
  have H2 := Lib.hid h2
  clear h2
  go_wp2_with fail
  go_ret
  exact ⟨rfl, HB.out.trans (((HAL.out _).trans (H2.out.mono (by simp))).mono hsz)⟩
end Go.Proofs.YthkdefhngkangaaDoor
