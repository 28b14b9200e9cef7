import Derived.Test.YtkpapioaijmidaaGreatDoorKEa
import Derived.Test.YtkpapioaijmidaaGreatDoorKEb
/- The law's own: the same expressions. -/
namespace Go.Proofs.YtkpapioaijmidaaGreatDoor
open Go.RowKit
open Tp (Tok hd tx at' stp X S G Pr)
theorem RepL.step' {w w' : World} {D : Nat → Prop} {l : List X} {vs : List Value} (h : RepL w D l vs) (k : Below w.heap.size w w') : RepL w' D l vs :=
  RepL.mono (fun b hb hl => ⟨k.block b hl, hb⟩) _ _ _ (Nat.le_refl _) h
theorem RepL.nth {w : World} {D : Nat → Prop} : ∀ (l : List X) (vs : List Value), RepL w D l vs → ∀ i (h : i < l.length), ∃ b, vs[i]? = some (.pointer (some ⟨b, 0, none⟩)) ∧ RepL w D [l[i]] [.pointer (some ⟨b, 0, none⟩)] := by
  intro l
  induction l with
  | nil => intro vs _ i h; simp at h
  | cons x l ih =>
    intro vs h i hi
    obtain ⟨code, pos, n, m, nm, op, le, ri, ar⟩ := x
    rw [RepL] at h
    obtain ⟨b, av, ls, rs, gs, vs', h1, h2, h3, h4, h5, h6, h7, h8, h9, h10⟩ := h
    subst h1
    cases i with
    | zero =>
      refine ⟨b, rfl, ?_⟩
      show RepL w D [⟨code, pos, n, m, nm, op, le, ri, ar⟩] _
      rw [RepL]
      exact ⟨b, av, ls, rs, gs, [], rfl, h2, h3, h4, h5, h6, h7, h8, h9, by rw [RepL]⟩
    | succ i =>
      obtain ⟨b', q1, q2⟩ := ih vs' h10 i (by simpa using hi)
      exact ⟨b', by simpa using q1, by simpa using q2⟩
/- the arguments' slice -/
def ArgsAt (w : World) (D : Nat → Prop) (av : Value) (gs : List Value) : Prop := gs = [] ∧ av = .slice none 0 0 ∨ ∃ g cap cur, av = .slice (some ⟨g, 0, none⟩) gs.length cap ∧ D g ∧ w.heap[g]? = some (.cells cur 83 (0, 0)) ∧ gs.length ≤ cap ∧ cap ≤ maxLen ∧ cur.size = cap ∧ cur.toList.take gs.length = gs
theorem ArgsAt.shape {w : World} {D : Nat → Prop} {av : Value} {gs : List Value} (h : ArgsAt w D av gs) : gs.length ≤ 9223372036854775807 ∧ ∃ a c, av = .slice a gs.length c ∧ ∀ i v, gs[i]? = some v → ∃ g : Nat, a = some ⟨g, 0, none⟩ ∧ g < w.heap.size ∧ w.cell? ⟨g, i, none⟩ = some v := by
  rcases h with ⟨rfl, rfl⟩ | ⟨g, cap, cur, rfl, h1, h2, h3, h4, h5, h6⟩
  · exact ⟨by simp, none, 0, rfl, fun i v h => by simp at h⟩
  · refine ⟨by unfold maxLen at h4; omega, _, _, rfl, fun i v hv => ⟨g, rfl, lt_blk h2, ?_⟩⟩
    have hi : i < gs.length := by rw [List.getElem?_eq_some_iff] at hv; exact hv.1
    rw [cell_blk h2, ← Array.getElem?_toList, ← hv]
    conv => rhs; rw [← h6]
    rw [List.getElem?_take_of_lt hi]
set_option maxRecDepth 100000 in
set_option maxHeartbeats 400000 in
theorem sameExpr_nil (w : World) : Calls Tryz.prog 49 #[.pointer none, .pointer none] w fun e w' => e = .returned (.bool true) ∧ ∃ m, w' = w.drewN m := by
  go_enter Tryz.func49, Tryz.ntmps49
  go_wp2_with fail
  go_ret
  exact ⟨rfl, 0, rfl⟩
theorem PQ1 : Tryz.prog.follows .mixedOrders = true := by kernel_rfl
set_option maxRecDepth 100000 in
set_option maxHeartbeats 4000000 in
theorem sameExpr_one {w : World} {b b2 : Nat} {code pos n : Int} {md nm op : ByteArray} {pl pr pl2 pr2 aa a2 : Option Addr} {an ac c2 : Nat}
    (h1 : w.heap[b]? = some (.cells #[.int .i64 code, .int .i64 pos, .int .i64 n, .string md, .string nm, .string op, .pointer pl, .pointer pr, .slice aa an ac] 115 (0, 0)))
    (h2 : w.heap[b2]? = some (.cells #[.int .i64 code, .int .i64 pos, .int .i64 n, .string md, .string nm, .string op, .pointer pl2, .pointer pr2, .slice a2 an c2] 115 (0, 0)))
    (han : an ≤ 9223372036854775807)
    (hL : ∀ k, Calls Tryz.prog 49 #[.pointer pl, .pointer pl2] (w.drewN k) fun e w' => e = .returned (.bool true) ∧ ∃ m, w' = (w.drewN k).drewN m)
    (hR : ∀ k, Calls Tryz.prog 49 #[.pointer pr, .pointer pr2] (w.drewN k) fun e w' => e = .returned (.bool true) ∧ ∃ m, w' = (w.drewN k).drewN m)
    (hG : ∀ i, i < an → ∃ (g g2 : Nat) (v u : Option Addr), aa = some ⟨g, 0, none⟩ ∧ a2 = some ⟨g2, 0, none⟩ ∧ w.cell? ⟨g, i, none⟩ = some (.pointer v) ∧ w.cell? ⟨g2, i, none⟩ = some (.pointer u) ∧ ∀ k, Calls Tryz.prog 49 #[.pointer v, .pointer u] (w.drewN k) fun e w' => e = .returned (.bool true) ∧ ∃ m, w' = (w.drewN k).drewN m) :
    Calls Tryz.prog 49 #[.pointer (some ⟨b, 0, none⟩), .pointer (some ⟨b2, 0, none⟩)] w fun e w' => e = .returned (.bool true) ∧ ∃ m, w' = w.drewN m := by
  have hn' : (an : Int) ≤ 9223372036854775807 := by omega
  have HL := Lib.hid hL
  have HR := Lib.hid hR
  have HG := Lib.hid hG
  have e0 : w.cell? ⟨b, 0, none⟩ = some (.int .i64 code) := cell_blk h1
  have e1 : w.cell? ⟨b, 1, none⟩ = some (.int .i64 pos) := cell_blk h1
  have e2 : w.cell? ⟨b, 2, none⟩ = some (.int .i64 n) := cell_blk h1
  have e3 : w.cell? ⟨b, 3, none⟩ = some (.string md) := cell_blk h1
  have e4 : w.cell? ⟨b, 4, none⟩ = some (.string nm) := cell_blk h1
  have e5 : w.cell? ⟨b, 5, none⟩ = some (.string op) := cell_blk h1
  have e6 : w.cell? ⟨b, 6, none⟩ = some (.pointer pl) := cell_blk h1
  have e7 : w.cell? ⟨b, 7, none⟩ = some (.pointer pr) := cell_blk h1
  have e8 : w.cell? ⟨b, 8, none⟩ = some (.slice aa an ac) := cell_blk h1
  have d0 : w.cell? ⟨b2, 0, none⟩ = some (.int .i64 code) := cell_blk h2
  have d1 : w.cell? ⟨b2, 1, none⟩ = some (.int .i64 pos) := cell_blk h2
  have d2 : w.cell? ⟨b2, 2, none⟩ = some (.int .i64 n) := cell_blk h2
  have d3 : w.cell? ⟨b2, 3, none⟩ = some (.string md) := cell_blk h2
  have d4 : w.cell? ⟨b2, 4, none⟩ = some (.string nm) := cell_blk h2
  have d5 : w.cell? ⟨b2, 5, none⟩ = some (.string op) := cell_blk h2
  have d6 : w.cell? ⟨b2, 6, none⟩ = some (.pointer pl2) := cell_blk h2
  have d7 : w.cell? ⟨b2, 7, none⟩ = some (.pointer pr2) := cell_blk h2
  have d8 : w.cell? ⟨b2, 8, none⟩ = some (.slice a2 an c2) := cell_blk h2
  have hl1 := lt_blk h1
  have hl2 := lt_blk h2
  have HK8 := Lib.hid e8
  have HK8' := Lib.hid d8
  clear h1 h2 hL hR hG
  go_enter Tryz.func49, Tryz.ntmps49
  go_wp2_with fail
  refine wp_region_quiet_lit ?q1 ?q2 ?_
  case q1 => exact PQ1
  case q2 =>
    refine lexB_parts [17, 17, 17, 17, 17, 16] (by kernel_rfl) (by kernel_rfl) ⟨?_, ?_, ?_, ?_, ?_, ?_, (show Region.lexFrom _ _ 0 _ _ = true from ?_)⟩
    all_goals (as_aux_lemma => kernel_rfl)
  simp only [List.append_eq, List.cons_append, List.nil_append]
  iterate 101 (go_big_quiet_step (first | (go_at_call 49; with_reducible exact Calls.quiet_of (HL.out _)) | (go_at_call 49; with_reducible exact Calls.quiet_of (HR.out _))))
  refine wpQuiet_nil ?_
  intro _ hw'
  obtain ⟨nz, hw''⟩ := hw'
  subst hw''
  have c8 : (w.drewN nz).cell? ⟨b, 8, none⟩ = some (.slice aa an ac) := (drewN_cell w nz _).trans HK8.out
  have hl8 : b < (w.drewN nz).heap.size := lt_of_cell c8
  clear e0 e1 e2 e3 e4 e5 e6 e7 e8 d0 d1 d2 d3 d4 d5 d6 d7 d8 hl1 hl2 HL HR
  go_wp2_with fail
  clear c8 hl8
  go_loopg [5] an (fun k vi wr => ∃ i n : Nat, i ≤ an ∧ k = an - i ∧ vi = .int .i64 (i : Int) ∧ wr = w.drewN n)
  case atStart => exact ⟨0, nz, by omega, by omega, rfl, rfl⟩
  case round =>
    obtain ⟨i, n, hid, hk, rfl, hwr⟩ := hrel
    have k8 : (w.drewN n).cell? ⟨b, 8, none⟩ = some (.slice aa an ac) := (drewN_cell w n _).trans HK8.out
    have k8' : (w.drewN n).cell? ⟨b2, 8, none⟩ = some (.slice a2 an c2) := (drewN_cell w n _).trans HK8'.out
    rw [← hwr] at k8 k8'
    have hlb : b < wr.heap.size := lt_of_cell k8
    have hlb2 : b2 < wr.heap.size := lt_of_cell k8'
    have HWR := Lib.hid hwr
    clear hwr
    by_cases hlt : i < an
    · have hlt' : (i : Int) < (an : Int) := by omega
      obtain ⟨g, g2, v, u, rfl, rfl, c1, c2', hC⟩ := HG.out i hlt
      have e0 : wr.cell? ⟨g, i, none⟩ = some (.pointer v) := by rw [HWR.out]; exact (drewN_cell w n _).trans c1
      have d0 : wr.cell? ⟨g2, i, none⟩ = some (.pointer u) := by rw [HWR.out]; exact (drewN_cell w n _).trans c2'
      have HC : Hid (∀ k, Calls Tryz.prog 49 #[.pointer v, .pointer u] (wr.drewN k) fun e w' => e = .returned (.bool true) ∧ ∃ m, w' = (wr.drewN k).drewN m) := fun k => by rw [HWR.out, World.drewN_drewN]; exact hC _
      have hz1 : g < wr.heap.size := lt_of_cell e0
      have hz2 : g2 < wr.heap.size := lt_of_cell d0
      clear c1 c2' hC
      go_wp2_with fail
      go_quiet ((go_at_call 49; exact Calls.quiet_of (HC.out _)))
      have HW2 : Hid (wr.drewN nq = w.drewN (n + nq)) := by show _ = _; rw [HWR.out, World.drewN_drewN]
      go_wp2_with fail
      go_roundg (an - (i + 1))
      case measure => omega
      case rel => exact ⟨i + 1, n + nq, by omega, rfl, by go_num, HW2.out⟩
    · have hlt' : ¬ (i : Int) < (an : Int) := by omega
      go_wp2_with fail
      go_ret
      exact ⟨rfl, n, HWR.out⟩
theorem RepL.headP {w : World} {D : Nat → Prop} {l : List X} {vs : List Value} (h : RepL w D l vs) : ∃ a, vs.headD (.pointer none) = .pointer a := by
  cases l with
  | nil => rw [RepL] at h; subst h; exact ⟨none, rfl⟩
  | cons x l =>
    obtain ⟨code, pos, n, m, nm, op, le, ri, ar⟩ := x
    rw [RepL] at h
    obtain ⟨b, av, ls, rs, gs, vs', h1, _⟩ := h
    subst h1
    exact ⟨_, rfl⟩
theorem size_one : ∀ (l : List X) (i : Nat) (h : i < l.length), SizeOf.sizeOf [l[i]] ≤ SizeOf.sizeOf l := by
  intro l
  induction l with
  | nil => intro i h; simp at h
  | cons x l ih =>
    intro i h
    cases i with
    | zero =>
      have : 1 ≤ SizeOf.sizeOf l := by cases l <;> simp only [List.nil.sizeOf_spec, List.cons.sizeOf_spec] <;> omega
      simp only [List.getElem_cons_zero, List.cons.sizeOf_spec, List.nil.sizeOf_spec]
      omega
    | succ i =>
      have := ih i (by simpa using h)
      simp only [List.getElem_cons_succ, List.cons.sizeOf_spec] at this ⊢
      omega
theorem sameExpr_all : ∀ (N : Nat) (l : List X) (w : World) (D D2 : Nat → Prop) (vs us : List Value), SizeOf.sizeOf l ≤ N → RepL w D l vs → RepL w D2 l us →
    Calls Tryz.prog 49 #[vs.headD (.pointer none), us.headD (.pointer none)] w fun e w' => e = .returned (.bool true) ∧ ∃ m, w' = w.drewN m := by
  intro N
  induction N with
  | zero => intro l w D D2 vs us hl; cases l <;> simp at hl <;> omega
  | succ N ih =>
    intro l w D D2 vs us hl h k
    cases l with
    | nil =>
      rw [RepL] at h k
      subst h k
      exact sameExpr_nil w
    | cons x xs =>
      obtain ⟨code, pos, n, md, nm, op, le, ri, ar⟩ := x
      rw [RepL] at h k
      obtain ⟨b, av, ls, rs, gs, vs', h1, h2, h3, h4, h5, h6, h7, h8, h9, h10⟩ := h
      obtain ⟨b', av', ls', rs', gs', us', k1, k2, k3, k4, k5, k6, k7, k8, k9, k10⟩ := k
      subst h1 k1
      have hgl := RepL.len _ _ h8
      have kgl := RepL.len _ _ k8
      obtain ⟨hga, aa, ac, rfl, hgc⟩ := ArgsAt.shape (show ArgsAt w D av gs from h9)
      obtain ⟨_, a2, c2, rfl, kgc⟩ := ArgsAt.shape (show ArgsAt w D2 av' gs' from k9)
      rw [hgl] at hga h3
      rw [kgl] at k3
      obtain ⟨pl, epl⟩ := RepL.headP h4
      obtain ⟨pr, epr⟩ := RepL.headP h6
      obtain ⟨pl2, epl2⟩ := RepL.headP k4
      obtain ⟨pr2, epr2⟩ := RepL.headP k6
      rw [epl, epr] at h3
      rw [epl2, epr2] at k3
      have hsz : SizeOf.sizeOf le ≤ N ∧ SizeOf.sizeOf ri ≤ N ∧ SizeOf.sizeOf ar ≤ N := by
        simp only [List.cons.sizeOf_spec, X.mk.sizeOf_spec] at hl
        omega
      refine sameExpr_one h3 k3 hga (fun q => epl ▸ epl2 ▸ ih le _ D D2 ls ls' hsz.1 (h4.step' (below_drewN (Below.refl _ w) q)) (k4.step' (below_drewN (Below.refl _ w) q))) (fun q => epr ▸ epr2 ▸ ih ri _ D D2 rs rs' hsz.2.1 (h6.step' (below_drewN (Below.refl _ w) q)) (k6.step' (below_drewN (Below.refl _ w) q))) (fun i hi => ?_)
      obtain ⟨y, y1, y2⟩ := RepL.nth _ _ h8 i hi
      obtain ⟨z, z1, z2⟩ := RepL.nth _ _ k8 i hi
      obtain ⟨g, rfl, _, c1⟩ := hgc i _ y1
      obtain ⟨g2, rfl, _, c2'⟩ := kgc i _ z1
      exact ⟨g, g2, _, _, rfl, rfl, c1, c2', fun q => ih [ar[i]] _ D D2 [_] [_] (Nat.le_trans (size_one ar i hi) hsz.2.2) (y2.step' (below_drewN (Below.refl _ w) q)) (z2.step' (below_drewN (Below.refl _ w) q))⟩
end Go.Proofs.YtkpapioaijmidaaGreatDoor
