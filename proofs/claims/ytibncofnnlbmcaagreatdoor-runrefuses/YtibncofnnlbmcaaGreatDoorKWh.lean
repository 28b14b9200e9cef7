import Derived.Test.YtibncofnnlbmcaaGreatDoorKWg
/- A VAR. -/
namespace Go.Proofs.YtibncofnnlbmcaaGreatDoor
open Go.RowKit
open Tp (Tok hd tx at' stp X S G)

def gcells (name : ByteArray) (pos len : Int) (seen : Bool) : Array Value := #[.string name, .int .i64 pos, .int .i64 len, .bool seen]
def VG (g : G) (v : Value) : Prop := v = .agg (gcells (bs g.name) (g.pos : Int) (g.len : Int) g.seen)
theorem below_set4 (w : World) (b : Nat) (v0 v1 v2 v3 : Value) : Below b w ((((w.setCell ⟨b, 0, none⟩ v0).setCell ⟨b, 1, none⟩ v1).setCell ⟨b, 2, none⟩ v2).setCell ⟨b, 3, none⟩ v3) := (below_set (below_set (below_set (below_set (Below.refl b w) (Nat.le_refl _) 0 v0) (Nat.le_refl _) 1 v1) (Nat.le_refl _) 2 v2) (Nat.le_refl _) 3 v3)
theorem beq_dec (a b : List UInt8) : (a == b) = decide (a = b) := by rw [Bool.eq_iff_iff, decide_eq_true_iff, beq_iff_eq]
theorem number_at {w : World} {p : Ps} {ts r : List Tok} {o b : Nat} {res : Except Tp.Er (Nat × List Tok)} (h : St w p ts r o b) (hr : Hid (Tp.number 30 r = res)) :
    Calls Tryz.prog 103 #[.pointer (some ⟨p.pb, 0, none⟩), .int .i64 30] w fun e w' => Post p ts o b w (fun (n : Nat) v _ => v = .int .i64 (n : Int)) res e w' := by
  have := number_post h 30 (by omega) (by omega)
  rw [hr.out] at this
  exact this
theorem number_le {r r1 : List Tok} {n : Nat} (h : Tp.number 30 r = .ok (n, r1)) : n ≤ 30 := by
  unfold Tp.number at h
  by_cases h1 : (hd r).kind ≠ 2
  · simp [h1] at h
  · by_cases h2 : 30 < Tp.val (tx r)
    · simp [h1, h2] at h
    · simp [h1, h2] at h; omega

set_option maxRecDepth 100000 in
set_option maxHeartbeats 1000000 in
theorem global_post {p : Ps} {ts : List Tok} {w : World} {r : List Tok} {o b : Nat} (h : St w p ts r o b) :
    Calls Tryz.prog 66 #[.pointer (some ⟨p.pb, 0, none⟩)] w fun e w' => Post p ts o b w (fun g v _ => VG g v) (Tp.global r) e w' := by
  have hpl := lt_of_cell h.c0
  go_enter Tryz.func66, Tryz.ntmps66
  go_wp2_with fail
  have hba : ∀ ob, Below w.heap.size w (w.alloc ob) := fun ob => (Below.refl _ _).alloc (Nat.le_refl _) _
  refine (now_any (h.below (hba _))).mono ?_
  rintro e w1 ⟨rfl, hb1⟩
  have hst1 := (h.below (hba _)).below hb1
  have hrb1 : w1.heap[w.heap.size]? = some (.cells (gcells ⟨#[]⟩ 0 0 false) 61 (0, 0)) := (hb1.block _ (by simp)).trans (new_blk _ _)
  have hext1 : Ext p.pb w w1 := (Ext.below (hba _)).trans (Ext.below hb1)
  obtain ⟨rb, hrb⟩ : ∃ rb, rb = w.heap.size := ⟨_, rfl⟩
  rw [← hrb] at hrb1 ⊢
  have hrw : w.heap.size ≤ rb := by omega
  have hps : p.pb < rb := by omega
  clear hba hb1 hrb
  have k1 : w1.cell? ⟨rb, 1, none⟩ = some (.int .i64 0) := cell_blk hrb1
  have z1 : w1.frozen? ⟨rb, 1, none⟩ = false := frozen_blk hrb1
  go_wp2_with fail
  clear k1 z1
  have hbS : Below rb w1 (w1.setCell ⟨rb, 1, none⟩ (.int .i64 ((hd r).pos : Int))) := below_set (Below.refl _ _) (Nat.le_refl _) 1 _
  have hst2 := hst1.belowB hbS (by omega)
  have hext2 := hext1.trans' (hbS.mono hrw)
  have hrb2 := set_blk 1 (.int .i64 ((hd r).pos : Int)) hrb1
  generalize w1.setCell ⟨rb, 1, none⟩ (.int .i64 ((hd r).pos : Int)) = w2 at hbS hst2 hext2 hrb2 ⊢
  clear hbS hst1 hext1 hrb1
  refine (name_post hst2).mono ?_
  intro e w3 hq
  generalize hres : Tp.name r = res at hq
  have HR : Hid (Tp.name r = res) := hres
  clear hres
  rcases res with er | ⟨nm, r1⟩
  · obtain ⟨ht, hx⟩ := hq
    obtain ⟨ab, q1, rfl, q2, q3⟩ := ht.out
    go_wp2_with fail
    refine ⟨rfl, ?_⟩
    rw [show Tp.global r = .error er by unfold Tp.global; simp only [HR.out, bind, Except.bind]]
    exact thrown_up hext2 ht hx
  obtain ⟨v, rfl, rfl, hst3, hx3⟩ := hq
  have hrb3 := (hx3.block rb (lt_blk hrb2) (by omega)).trans hrb2
  have hext3 := hext2.trans hx3
  clear hst2 hx3 hext2 hrb2
  have k0 : w3.cell? ⟨rb, 0, none⟩ = some (.string ⟨#[]⟩) := cell_blk hrb3
  have z0 : w3.frozen? ⟨rb, 0, none⟩ = false := frozen_blk hrb3
  go_wp2_with fail
  clear k0 z0
  have hbS : Below rb w3 (w3.setCell ⟨rb, 0, none⟩ (.string (bs nm))) := below_set (Below.refl _ _) (Nat.le_refl _) 0 _
  have hst4 := hst3.belowB hbS (by omega)
  have hext4 := hext3.trans' (hbS.mono hrw)
  have hrb4 := set_blk 0 (.string (bs nm)) hrb3
  generalize w3.setCell ⟨rb, 0, none⟩ (.string (bs nm)) = w4 at hbS hst4 hext4 hrb4 ⊢
  clear hbS hst3 hext3 hrb3
  refine (take_any hst4 Tp.mStar _ rfl).mono ?_
  rintro e w5 ⟨rfl, hst5, hx5⟩
  have hrb5 := (hx5.block rb (lt_blk hrb4) (by omega)).trans hrb4
  have hext5 := hext4.trans hx5
  clear hst4 hx5 hext4 hrb4
  have k3 : w5.cell? ⟨rb, 3, none⟩ = some (.bool false) := cell_blk hrb5
  have z3 : w5.frozen? ⟨rb, 3, none⟩ = false := frozen_blk hrb5
  go_wp2_with fail
  clear k3 z3
  have hbS : Below rb w5 (w5.setCell ⟨rb, 3, none⟩ (.bool (decide (tx r1 = Tp.mStar)))) := below_set (Below.refl _ _) (Nat.le_refl _) 3 _
  have hst6 := hst5.belowB hbS (by omega)
  have hext6 := hext5.trans' (hbS.mono hrw)
  have hrb6 := set_blk 3 (.bool (decide (tx r1 = Tp.mStar))) hrb5
  generalize w5.setCell ⟨rb, 3, none⟩ (.bool (decide (tx r1 = Tp.mStar))) = w6 at hbS hst6 hext6 hrb6 ⊢
  clear hbS hst5 hext5 hrb5
  generalize hr2 : (if tx r1 = Tp.mStar then stp r1 else r1) = r2 at hst6
  have HR2 : Hid ((if tx r1 = Tp.mStar then stp r1 else r1) = r2) := hr2
  clear hr2
  by_cases hc : tx r2 = Tp.mColon
  rotate_left
  · refine (want_no hst6 Tp.mColon _ rfl hc).mono ?_
    rintro e w7 ⟨ht, hx⟩
    have HC : Hid (¬ tx r2 = Tp.mColon) := hc
    clear hc
    obtain ⟨ab, q1, rfl, q2, q3⟩ := ht.out
    go_wp2_with fail
    refine ⟨rfl, ?_⟩
    rw [show Tp.global r = .error (3, at' r2) by unfold Tp.global; simp only [HR.out, HR2.out, bind, Except.bind, Tp.want, if_neg HC.out]]
    exact thrown_up hext6 ht hx
  refine (want_yes hst6 Tp.mColon _ rfl hc).mono ?_
  rintro e w7 ⟨rfl, hst7, hx7⟩
  have HC : Hid (tx r2 = Tp.mColon) := hc
  have hrb7 := (hx7.block rb (lt_blk hrb6) (by omega)).trans hrb6
  have hext7 := hext6.trans hx7
  clear hc hst6 hx7 hext6 hrb6
  generalize hr3 : stp r2 = r3 at hst7
  have HR3 : Hid (stp r2 = r3) := hr3
  clear hr3
  go_wp2_with fail
  refine (take_any hst7 Tp.wInt _ rfl).mono ?_
  rintro e w8 ⟨rfl, hst8, hx8⟩
  have hrb8 := (hx8.block rb (lt_blk hrb7) (by omega)).trans hrb7
  have hext8 := hext7.trans hx8
  clear hst7 hx8 hext7 hrb7
  by_cases hi : tx r3 = Tp.wInt
  · have hdec := decide_eq_true hi
    rw [if_pos hi] at hst8
    have HI : Hid (tx r3 = Tp.wInt) := hi
    clear hi
    go_wp2_with fail
    clear hdec
    by_cases hs : tx (stp r3) = Tp.mSemi
    · refine (want_yes hst8 Tp.mSemi _ rfl hs).mono ?_
      rintro e w9 ⟨rfl, hst9, hx9⟩
      have HS : Hid (tx (stp r3) = Tp.mSemi) := hs
      have hrb9 := (hx9.block rb (lt_blk hrb8) (by omega)).trans hrb8
      have hext9 := hext8.trans hx9
      clear hs hst8 hx9 hext8 hrb8
      have kr : ∀ i, w9.cell? ⟨rb, i, none⟩ = (gcells (bs nm) (hd r).pos 0 (decide (tx r1 = Tp.mStar)))[i]? := fun i => cell_blk hrb9
      have zr : ∀ i, w9.frozen? ⟨rb, i, none⟩ = false := fun i => frozen_blk hrb9
      simp only [gcells] at kr
      go_wp2_with fail
      refine bodyPost_ret (v := .agg (gcells (bs nm) (at' r) (0) (decide (tx r1 = Tp.mStar)))) (by simp [results, Tryz.results66, go_sem, kr, gcells, at']) rfl ?_
      rw [show Tp.global r = .ok (⟨nm, at' r, 0, tx r1 == Tp.mStar⟩, stp (stp r3)) by unfold Tp.global; simp only [HR.out, HR2.out, HR3.out, bind, Except.bind, Tp.want, if_pos HC.out, if_pos HI.out, if_pos HS.out]]
      exact ⟨_, rfl, by unfold VG; rw [beq_dec] <;> rfl, hst9.belowB (below_set4 w9 rb _ _ _ _) (by omega), hext9.trans' ((below_set4 w9 rb _ _ _ _).mono hrw)⟩
    · refine (want_no hst8 Tp.mSemi _ rfl hs).mono ?_
      rintro e w9 ⟨ht, hx⟩
      have HS : Hid (¬ tx (stp r3) = Tp.mSemi) := hs
      clear hs
      obtain ⟨ab, q1, rfl, q2, q3⟩ := ht.out
      go_wp2_with fail
      refine ⟨rfl, ?_⟩
      rw [show Tp.global r = .error (3, at' (stp r3)) by unfold Tp.global; simp only [HR.out, HR2.out, HR3.out, bind, Except.bind, Tp.want, if_pos HC.out, if_pos HI.out, if_neg HS.out]]
      exact thrown_up hext8 ht hx
  · have hdec := decide_eq_false hi
    rw [if_neg hi] at hst8
    have HI : Hid (¬ tx r3 = Tp.wInt) := hi
    clear hi
    go_wp2_with fail
    clear hdec
    by_cases ha : tx r3 = Tp.wArray
    rotate_left
    · refine (want_no hst8 Tp.wArray _ rfl ha).mono ?_
      rintro e w9 ⟨ht, hx⟩
      have HA : Hid (¬ tx r3 = Tp.wArray) := ha
      clear ha
      obtain ⟨ab, q1, rfl, q2, q3⟩ := ht.out
      go_wp2_with fail
      refine ⟨rfl, ?_⟩
      rw [show Tp.global r = .error (3, at' r3) by unfold Tp.global; simp only [HR.out, HR2.out, HR3.out, bind, Except.bind, Tp.want, if_pos HC.out, if_neg HI.out, if_neg HA.out]]
      exact thrown_up hext8 ht hx
    refine (want_yes hst8 Tp.wArray _ rfl ha).mono ?_
    rintro e w9 ⟨rfl, hst9, hx9⟩
    have HA : Hid (tx r3 = Tp.wArray) := ha
    have hrb9 := (hx9.block rb (lt_blk hrb8) (by omega)).trans hrb8
    have hext9 := hext8.trans hx9
    clear ha hst8 hx9 hext8 hrb8
    go_wp2_with fail
    rcases hres2 : Tp.number 30 (stp r3) with er | ⟨k, r5⟩
    · have HN : Hid (Tp.number 30 (stp r3) = .error er) := hres2
      clear hres2
      refine (number_at hst9 HN).mono ?_
      rintro e w10 ⟨ht, hx⟩
      obtain ⟨ab, q1, rfl, q2, q3⟩ := ht.out
      go_wp2_with fail
      refine ⟨rfl, ?_⟩
      rw [show Tp.global r = .error er by unfold Tp.global; simp only [HR.out, HR2.out, HR3.out, bind, Except.bind, Tp.want, if_pos HC.out, if_neg HI.out, if_pos HA.out, HN.out]]
      exact thrown_up hext9 ht hx
    have HN : Hid (Tp.number 30 (stp r3) = .ok (k, r5)) := hres2
    have hk30 := number_le hres2
    clear hres2
    refine (number_at hst9 HN).mono ?_
    intro e w10 hq
    obtain ⟨v, rfl, rfl, hst10, hx10⟩ := hq
    have hrb10 := (hx10.block rb (lt_blk hrb9) (by omega)).trans hrb9
    have hext10 := hext9.trans hx10
    clear hst9 hx10 hext9 hrb9
    have k2 : w10.cell? ⟨rb, 2, none⟩ = some (.int .i64 0) := cell_blk hrb10
    have z2 : w10.frozen? ⟨rb, 2, none⟩ = false := frozen_blk hrb10
    by_cases hk0 : k = 0
    · have hk0' : ((k : Int) == 0) = true := by simp; omega
      have HK : Hid (k = 0) := hk0
      clear hk0
      go_wp2_with fail
      clear k2 z2
      have hbS : Below rb w10 (w10.setCell ⟨rb, 2, none⟩ (.int .i64 (k : Int))) := below_set (Below.refl _ _) (Nat.le_refl _) 2 _
      have hst11 := hst10.belowB hbS (by omega)
      have hext11 := hext10.trans' (hbS.mono hrw)
      generalize w10.setCell ⟨rb, 2, none⟩ (.int .i64 (k : Int)) = w11 at hbS hst11 hext11 ⊢
      refine (wrong_any hst11 2).mono ?_
      rintro e w12 ⟨ht, hb12⟩
      obtain ⟨ab, q1, rfl, q2, q3⟩ := ht.out
      go_wp2_with fail
      refine ⟨rfl, ?_⟩
      rw [show Tp.global r = .error (2, at' r5) by unfold Tp.global; simp only [HR.out, HR2.out, HR3.out, bind, Except.bind, Tp.want, if_pos HC.out, if_neg HI.out, if_pos HA.out, HN.out, if_pos HK.out]]
      exact thrown_up hext11 ht (Ext.below hb12)
    · have hk0' : ((k : Int) == 0) = false := by simp; omega
      have HK : Hid (¬ k = 0) := hk0
      clear hk0
      go_wp2_with fail
      clear k2 z2
      have hbS : Below rb w10 (w10.setCell ⟨rb, 2, none⟩ (.int .i64 (k : Int))) := below_set (Below.refl _ _) (Nat.le_refl _) 2 _
      have hst11 := hst10.belowB hbS (by omega)
      have hext11 := hext10.trans' (hbS.mono hrw)
      have hrb11 := set_blk 2 (.int .i64 (k : Int)) hrb10
      generalize w10.setCell ⟨rb, 2, none⟩ (.int .i64 (k : Int)) = w11 at hbS hst11 hext11 hrb11 ⊢
      clear hbS hst10 hext10 hrb10
      by_cases hs : tx r5 = Tp.mSemi
      · refine (want_yes hst11 Tp.mSemi _ rfl hs).mono ?_
        rintro e w12 ⟨rfl, hst12, hx12⟩
        have HS : Hid (tx r5 = Tp.mSemi) := hs
        have hrb12 := (hx12.block rb (lt_blk hrb11) (by omega)).trans hrb11
        have hext12 := hext11.trans hx12
        clear hs hst11 hx12 hext11 hrb11
        have kr : ∀ i, w12.cell? ⟨rb, i, none⟩ = (gcells (bs nm) (hd r).pos k (decide (tx r1 = Tp.mStar)))[i]? := fun i => cell_blk hrb12
        have zr : ∀ i, w12.frozen? ⟨rb, i, none⟩ = false := fun i => frozen_blk hrb12
        simp only [gcells] at kr
        go_wp2_with fail
        refine bodyPost_ret (v := .agg (gcells (bs nm) (at' r) ((k : Int)) (decide (tx r1 = Tp.mStar)))) (by simp [results, Tryz.results66, go_sem, kr, gcells, at']) rfl ?_
        rw [show Tp.global r = .ok (⟨nm, at' r, k, tx r1 == Tp.mStar⟩, stp r5) by unfold Tp.global; simp only [HR.out, HR2.out, HR3.out, bind, Except.bind, Tp.want, if_pos HC.out, if_neg HI.out, if_pos HA.out, HN.out, if_neg HK.out, if_pos HS.out]]
        exact ⟨_, rfl, by unfold VG; rw [beq_dec] <;> rfl, hst12.belowB (below_set4 w12 rb _ _ _ _) (by omega), hext12.trans' ((below_set4 w12 rb _ _ _ _).mono hrw)⟩
      · refine (want_no hst11 Tp.mSemi _ rfl hs).mono ?_
        rintro e w12 ⟨ht, hx⟩
        have HS : Hid (¬ tx r5 = Tp.mSemi) := hs
        clear hs
        obtain ⟨ab, q1, rfl, q2, q3⟩ := ht.out
        go_wp2_with fail
        refine ⟨rfl, ?_⟩
        rw [show Tp.global r = .error (3, at' r5) by unfold Tp.global; simp only [HR.out, HR2.out, HR3.out, bind, Except.bind, Tp.want, if_pos HC.out, if_neg HI.out, if_pos HA.out, HN.out, if_neg HK.out, if_neg HS.out]]
        exact thrown_up hext11 ht hx
end Go.Proofs.YtibncofnnlbmcaaGreatDoor
/- A PROC. -/
namespace Go.Proofs.YtibncofnnlbmcaaGreatDoor
open Go.RowKit
open Tp (Tok hd tx at' stp X S G Pr)

def pcells (name : ByteArray) (pos : Int) (seen : Bool) (ps vs bd : Value) : Array Value := #[.string name, .int .i64 pos, .bool seen, ps, vs, bd]
theorem owns_base {w : World} {base base' e size n : Nat} {v : Value} {xs : List Value} (h : w.ownsRow base e size v n xs) (hb : base' ≤ base) : w.ownsRow base' e size v n xs := by
  refine ⟨h.1, ?_⟩
  rcases h.2 with q | ⟨g, cap, cur, q1, q2, q3⟩
  · exact Or.inl q
  · exact Or.inr ⟨g, cap, cur, q1, Nat.le_trans hb q2, q3⟩
/- a PROC as a value -/
def VPr (B : Nat) (c : Pr) (v : Value) (w : World) : Prop := ∃ (pa va ba : Option Addr) (pc vc bc : Nat),
  v = .agg (pcells (bs c.name) (c.pos : Int) c.seen (.slice pa c.params.length pc) (.slice va c.vars.length vc) (.slice ba c.body.length bc)) ∧
  w.ownsRow B 9 1 (.slice pa c.params.length pc) c.params.length (strs c.params) ∧ w.ownsRow B 9 1 (.slice va c.vars.length vc) c.vars.length (strs c.vars) ∧ VO B c.body (.slice ba c.body.length bc) w
theorem ext_set6 (w : World) (b : Nat) (v0 v1 v2 v3 v4 v5 : Value) : Ext b w ((((((w.setCell ⟨b, 0, none⟩ v0).setCell ⟨b, 1, none⟩ v1).setCell ⟨b, 2, none⟩ v2).setCell ⟨b, 3, none⟩ v3).setCell ⟨b, 4, none⟩ v4).setCell ⟨b, 5, none⟩ v5) := (((((((Ext.refl b w).set 0 v0).set 1 v1).set 2 v2).set 3 v3).set 4 v4).set 5 v5)
theorem below_set6 (w : World) (b : Nat) (v0 v1 v2 v3 v4 v5 : Value) : Below b w ((((((w.setCell ⟨b, 0, none⟩ v0).setCell ⟨b, 1, none⟩ v1).setCell ⟨b, 2, none⟩ v2).setCell ⟨b, 3, none⟩ v3).setCell ⟨b, 4, none⟩ v4).setCell ⟨b, 5, none⟩ v5) := (below_set (below_set (below_set (below_set (below_set (below_set (Below.refl b w) (Nat.le_refl _) 0 v0) (Nat.le_refl _) 1 v1) (Nat.le_refl _) 2 v2) (Nat.le_refl _) 3 v3) (Nat.le_refl _) 4 v4) (Nat.le_refl _) 5 v5)
def procT (f : Nat) (r : List Tok) (nm : List UInt8) (seen : Bool) (ps vs : List (List UInt8)) (r8 : List Tok) : Except Tp.Er (Pr × List Tok) := do
  let r9 ← Tp.want Tp.wBegin r8
  let (b, r10) ← Tp.sx f 0 0 r9
  let r11 ← Tp.want Tp.wEnd r10
  let r12 ← Tp.want Tp.mSemi r11
  .ok (⟨nm, at' r, seen, ps, vs, b⟩, r12)
theorem names_len : ∀ (f had most : Nat) (r r1 : List Tok) (l : List (List UInt8)), Tp.names f had most r = .ok (l, r1) → had + l.length ≤ most := by
  intro f
  induction f with
  | zero => intro had most r r1 l h; cases h
  | succ f ih =>
    intro had most r r1 l h
    by_cases hm : most ≤ had
    · rw [names_full _ _ _ _ hm] at h; cases h
    · rcases hn : Tp.name r with er | ⟨nm, r2⟩
      · rw [names_bad hm hn] at h; cases h
      · by_cases hc : tx r2 = Tp.mComma
        · rw [names_more hm hn hc] at h
          rcases hq : Tp.names f (had + 1) most (stp r2) with er | ⟨l2, r3⟩
          · rw [hq] at h; cases h
          · rw [hq] at h
            simp only [addAll, Except.ok.injEq, Prod.mk.injEq] at h
            have := ih _ _ _ _ _ hq
            rw [← h.1]; simp; omega
        · rw [names_last hm hn hc] at h
          simp only [Except.ok.injEq, Prod.mk.injEq] at h
          rw [← h.1]; simp; omega
theorem names_at {w : World} {p : Ps} {ts r : List Tok} {o b had most : Nat} {res : Except Tp.Er (List (List UInt8) × List Tok)} (h : St w p ts r o b) (hm : most ≤ 10) (hh : had ≤ 10) (f : Nat) (hf : 1 ≤ f) (hf' : most + 1 ≤ f + had) (hr : Hid (Tp.names f had most r = res)) :
    Calls Tryz.prog 64 #[.pointer (some ⟨p.pb, 0, none⟩), .int .i64 (had : Int), .int .i64 (most : Int)] w fun e w' => Post p ts o b w (fun l v w' => w'.ownsRow w.heap.size 9 1 v l.length (strs l)) res e w' := by
  have := names_post h had most f hm hh hf hf'
  rw [hr.out] at this
  exact this

set_option maxRecDepth 100000 in
set_option maxHeartbeats 1000000 in
theorem proc_post {p : Ps} {ts : List Tok} {f : Nat} (hS : StmtsC p ts f) {w : World} {r : List Tok} (h : St w p ts r 0 0) (hn : Tp.proc f r ≠ .error (99, 0)) :
    Calls Tryz.prog 68 #[.pointer (some ⟨p.pb, 0, none⟩)] w fun e w' => Post p ts 0 0 w (VPr w.heap.size) (Tp.proc f r) e w' := by
  have hpl := lt_of_cell h.c0
  have HS : Hid (StmtsC p ts f) := hS
  have HN : Hid (Tp.proc f r ≠ .error (99, 0)) := hn
  clear hS hn
  go_enter Tryz.func68, Tryz.ntmps68
  go_wp2_with fail
  have hst : ∀ ob, St (w.alloc ob) p ts r 0 0 := fun ob => h.below ((Below.refl _ _).alloc (Nat.le_refl _) _)
  have hext : ∀ ob, Ext p.pb w (w.alloc ob) := fun ob => Ext.below ((Below.refl _ _).alloc (Nat.le_refl _) _)
  obtain ⟨rb, hrbe⟩ : ∃ rb, rb = w.heap.size := ⟨_, rfl⟩
  have hrb := new_blk w (.cells (pcells ⟨#[]⟩ 0 false (.slice none 0 0) (.slice none 0 0) (.slice none 0 0)) 65)
  obtain ⟨w0, hw0⟩ : ∃ w0, w0 = w.alloc (.cells #[.string ⟨#[]⟩, .int .i64 0, .bool false, .slice none 0 0, .slice none 0 0, .slice none 0 0] 65) := ⟨_, rfl⟩
  replace hst : St w0 p ts r 0 0 := by rw [hw0]; exact hst _
  replace hext : Ext p.pb w w0 := by rw [hw0]; exact hext _
  replace hrb : w0.heap[rb]? = some (.cells (pcells ⟨#[]⟩ 0 false (.slice none 0 0) (.slice none 0 0) (.slice none 0 0)) 65 (0, 0)) := by rw [hw0, hrbe]; exact hrb
  rw [← hw0, ← hrbe]
  have hrw : w.heap.size ≤ rb := by omega
  have hps : p.pb < rb := by omega
  clear hw0 hrbe
  by_cases hc : tx r = Tp.wProc
  rotate_left
  · refine (want_no hst Tp.wProc _ rfl hc).mono ?_
    rintro e wX ⟨ht, hx⟩
    have HX : Hid (¬ tx r = Tp.wProc) := hc
    clear hc
    obtain ⟨ab, q1, rfl, q2, q3⟩ := ht.out
    go_wp2_with fail
    refine ⟨rfl, ?_⟩
    rw [show Tp.proc f r = .error (3, at' r) by unfold Tp.proc; simp only [if_neg HX.out, bind, Except.bind, Tp.want]]
    exact thrown_up hext ht hx
  refine (want_yes hst Tp.wProc _ rfl hc).mono ?_
  rintro e w1 ⟨rfl, hstN, hx⟩
  have H1 : Hid (tx r = Tp.wProc) := hc
  clear hc hst
  have hst := hstN
  clear hstN
  have hrbN := (hx.block rb (lt_blk hrb) (by omega)).trans hrb
  have hextN := hext.trans hx
  clear hrb hext 
  have hrb := hrbN
  clear hrbN
  have hext := hextN
  clear hextN
  clear hx
  have kS : w1.cell? ⟨rb, 1, none⟩ = some (.int .i64 0) := cell_blk hrb
  have zS : w1.frozen? ⟨rb, 1, none⟩ = false := frozen_blk hrb
  go_wp2_with fail
  clear kS zS
  have hbS : Below rb w1 (w1.setCell ⟨rb, 1, none⟩ (.int .i64 (at' r : Int))) := below_set (Below.refl _ _) (Nat.le_refl _) 1 _
  have hxS : Ext rb w1 (w1.setCell ⟨rb, 1, none⟩ (.int .i64 (at' r : Int))) := (Ext.refl _ _).set 1 _
  have hstN := hst.belowB hbS (by omega)
  have hextN := hext.trans' (hbS.mono hrw)
  have hrbN := set_blk 1 (.int .i64 (at' r : Int)) hrb
  generalize w1.setCell ⟨rb, 1, none⟩ (.int .i64 (at' r : Int)) = w3 at hbS hxS hstN hextN hrbN  ⊢
  clear hbS hxS hst hext hrb 
  have hst := hstN
  clear hstN
  have hext := hextN
  clear hextN
  have hrb := hrbN
  clear hrbN
  generalize hgr : stp r = r1 at hst
  have E1 : Hid (stp r = r1) := hgr
  clear hgr
  rcases hres : Tp.name r1 with er | ⟨nm, r2⟩
  · have HX : Hid (Tp.name r1 = .error er) := hres
    clear hres
    refine (name_er hst HX).mono ?_
    rintro e wX ⟨ht, hx⟩
    obtain ⟨ab, q1, rfl, q2, q3⟩ := ht.out
    go_wp2_with fail
    refine ⟨rfl, ?_⟩
    rw [show Tp.proc f r = .error er by unfold Tp.proc; simp only [if_pos H1.out, E1.out, HX.out, bind, Except.bind, Tp.want]]
    exact thrown_up hext ht hx
  have H2 : Hid (Tp.name r1 = .ok (nm, r2)) := hres
  clear hres
  refine (name_ok hst H2).mono ?_
  rintro e w4 ⟨rfl, hstN, hx⟩
  clear hst
  have hst := hstN
  clear hstN
  have hrbN := (hx.block rb (lt_blk hrb) (by omega)).trans hrb
  have hextN := hext.trans hx
  clear hrb hext 
  have hrb := hrbN
  clear hrbN
  have hext := hextN
  clear hextN
  clear hx
  have kS : w4.cell? ⟨rb, 0, none⟩ = some (.string ⟨#[]⟩) := cell_blk hrb
  have zS : w4.frozen? ⟨rb, 0, none⟩ = false := frozen_blk hrb
  go_wp2_with fail
  clear kS zS
  have hbS : Below rb w4 (w4.setCell ⟨rb, 0, none⟩ (.string (bs nm))) := below_set (Below.refl _ _) (Nat.le_refl _) 0 _
  have hxS : Ext rb w4 (w4.setCell ⟨rb, 0, none⟩ (.string (bs nm))) := (Ext.refl _ _).set 0 _
  have hstN := hst.belowB hbS (by omega)
  have hextN := hext.trans' (hbS.mono hrw)
  have hrbN := set_blk 0 (.string (bs nm)) hrb
  generalize w4.setCell ⟨rb, 0, none⟩ (.string (bs nm)) = w6 at hbS hxS hstN hextN hrbN  ⊢
  clear hbS hxS hst hext hrb 
  have hst := hstN
  clear hstN
  have hext := hextN
  clear hextN
  have hrb := hrbN
  clear hrbN
  refine (take_any hst Tp.mStar _ rfl).mono ?_
  rintro e w7 ⟨rfl, hstN, hx⟩
  clear hst
  have hst := hstN
  clear hstN
  have hrbN := (hx.block rb (lt_blk hrb) (by omega)).trans hrb
  have hextN := hext.trans hx
  clear hrb hext 
  have hrb := hrbN
  clear hrbN
  have hext := hextN
  clear hextN
  clear hx
  have kS : w7.cell? ⟨rb, 2, none⟩ = some (.bool false) := cell_blk hrb
  have zS : w7.frozen? ⟨rb, 2, none⟩ = false := frozen_blk hrb
  go_wp2_with fail
  clear kS zS
  have hbS : Below rb w7 (w7.setCell ⟨rb, 2, none⟩ (.bool (decide (tx r2 = Tp.mStar)))) := below_set (Below.refl _ _) (Nat.le_refl _) 2 _
  have hxS : Ext rb w7 (w7.setCell ⟨rb, 2, none⟩ (.bool (decide (tx r2 = Tp.mStar)))) := (Ext.refl _ _).set 2 _
  have hstN := hst.belowB hbS (by omega)
  have hextN := hext.trans' (hbS.mono hrw)
  have hrbN := set_blk 2 (.bool (decide (tx r2 = Tp.mStar))) hrb
  generalize w7.setCell ⟨rb, 2, none⟩ (.bool (decide (tx r2 = Tp.mStar))) = w9 at hbS hxS hstN hextN hrbN  ⊢
  clear hbS hxS hst hext hrb 
  have hst := hstN
  clear hstN
  have hext := hextN
  clear hextN
  have hrb := hrbN
  clear hrbN
  generalize hgr : (if tx r2 = Tp.mStar then stp r2 else r2) = r3 at hst
  have E3 : Hid ((if tx r2 = Tp.mStar then stp r2 else r2) = r3) := hgr
  clear hgr
  by_cases hc : tx r3 = Tp.mLp
  rotate_left
  · refine (want_no hst Tp.mLp _ rfl hc).mono ?_
    rintro e wX ⟨ht, hx⟩
    have HX : Hid (¬ tx r3 = Tp.mLp) := hc
    clear hc
    obtain ⟨ab, q1, rfl, q2, q3⟩ := ht.out
    go_wp2_with fail
    refine ⟨rfl, ?_⟩
    rw [show Tp.proc f r = .error (3, at' r3) by unfold Tp.proc; simp only [if_pos H1.out, E1.out, H2.out, E3.out, if_neg HX.out, bind, Except.bind, Tp.want]]
    exact thrown_up hext ht hx
  refine (want_yes hst Tp.mLp _ rfl hc).mono ?_
  rintro e w10 ⟨rfl, hstN, hx⟩
  have H4 : Hid (tx r3 = Tp.mLp) := hc
  clear hc hst
  have hst := hstN
  clear hstN
  have hrbN := (hx.block rb (lt_blk hrb) (by omega)).trans hrb
  have hextN := hext.trans hx
  clear hrb hext 
  have hrb := hrbN
  clear hrbN
  have hext := hextN
  clear hextN
  clear hx
  generalize hgr : stp r3 = r4 at hst
  have E4 : Hid (stp r3 = r4) := hgr
  clear hgr
  go_wp2_with fail
  refine (is_any hst Tp.mRp _ rfl).mono ?_
  rintro e wi ⟨rfl, hbi⟩
  generalize htt : decide (tx r4 = Tp.mRp) = tt
  have HTT : Hid (decide (tx r4 = Tp.mRp) = tt) := htt
  clear htt
  have hstN := hst.below hbi
  clear hst
  have hst := hstN
  clear hstN
  have hrbN := ((Ext.below (b := p.pb) hbi).block rb (lt_blk hrb) (by omega)).trans hrb
  have hextN := hext.trans (Ext.below (b := p.pb) hbi)
  clear hrb hext 
  have hrb := hrbN
  clear hrbN
  have hext := hextN
  clear hextN
  clear hbi
  go_upto_if 16 with fail
  go_cut [] (fun wc => ∃ (ps : List (List UInt8)) (pa : Option Addr) (pc : Nat) (r5 : List Tok), ps.length ≤ 10 ∧ St wc p ts r5 0 0 ∧ Ext p.pb w wc ∧ wc.heap[rb]? = some (.cells (pcells (bs nm) (at' r) (decide (tx r2 = Tp.mStar)) (.slice pa ps.length pc) (.slice none 0 0) (.slice none 0 0)) 65 (0, 0)) ∧
    wc.ownsRow (rb + 1) 9 1 (.slice pa ps.length pc) ps.length (strs ps) ∧ (if tx r4 = Tp.mRp then .ok ([], r4) else Tp.names 11 0 10 r4 : Except Tp.Er (List (List UInt8) × List Tok)) = .ok (ps, r5))
  case first =>
    cases tt
    rotate_left
    · have hp : tx r4 = Tp.mRp := of_decide_eq_true HTT.out
      have HP : Hid (tx r4 = Tp.mRp) := hp
      clear hp
      go_wp2_with fail
      go_meet
      case rel => exact ⟨[], none, 0, r4, by simp, hst, hext, hrb, World.ownsRow_nil _ _ _ _, by rw [if_pos HP.out]⟩
    · have hp : ¬ tx r4 = Tp.mRp := of_decide_eq_false HTT.out
      have HP : Hid (¬ tx r4 = Tp.mRp) := hp
      clear hp
      rcases hres : Tp.names 11 0 10 r4 with er | ⟨ps, r5⟩
      · have HX : Hid (Tp.names 11 0 10 r4 = .error er) := hres
        clear hres
        go_wp2_with fail
        refine (names_at hst (by omega) (by omega) 11 (by omega) (by omega) HX).mono ?_
        rintro e wX ⟨ht, hx⟩
        obtain ⟨ab, q1, rfl, q2, q3⟩ := ht.out
        go_wp2_with fail
        refine ⟨rfl, ?_⟩
        rw [show Tp.proc f r = .error er by unfold Tp.proc; simp only [if_pos H1.out, E1.out, H2.out, E3.out, if_pos H4.out, E4.out, if_neg HP.out, HX.out, bind, Except.bind, Tp.want]]
        exact thrown_up hext ht hx
      · have HX : Hid (Tp.names 11 0 10 r4 = .ok (ps, r5)) := hres
        have hpl10 := names_len _ _ _ _ _ _ hres
        clear hres
        go_wp2_with fail
        refine (names_at hst (by omega) (by omega) 11 (by omega) (by omega) HX).mono ?_
        intro e wn hq
        obtain ⟨v, rfl, hv, hstn, hx⟩ := hq
        obtain ⟨ao, cap, rfl⟩ := owns_shape hv
        have hlr := lt_blk hrb
        have hrbn := (hx.block rb hlr (by omega)).trans hrb
        have hextn := hext.trans hx
        have hown := owns_base (base' := rb + 1) hv (by omega)
        have kS : wn.cell? ⟨rb, 3, none⟩ = some (.slice none 0 0) := cell_blk hrbn
        have zS : wn.frozen? ⟨rb, 3, none⟩ = false := frozen_blk hrbn
        clear hv hst hext hrb hx
        go_wp2_with fail
        go_meet
        case rel =>
          have hbS : Below rb wn (wn.setCell ⟨rb, 3, none⟩ (.slice ao ps.length cap)) := below_set (Below.refl _ _) (Nat.le_refl _) 3 _
          have hxS : Ext rb wn (wn.setCell ⟨rb, 3, none⟩ (.slice ao ps.length cap)) := (Ext.refl _ _).set 3 _
          exact ⟨ps, ao, cap, r5, by omega, hstn.belowB hbS (by omega), hextn.trans' (hbS.mono hrw), set_blk 3 _ hrbn, owns_ext hown hxS (by omega), by rw [if_neg HP.out, HX.out]⟩
  clear hst hext hrb
  obtain ⟨ps, pa, pc, r5, hp10, hst, hext, hrb, hop, hsp⟩ := hcut
  have E5 : Hid ((if tx r4 = Tp.mRp then .ok ([], r4) else Tp.names 11 0 10 r4 : Except Tp.Er (List (List UInt8) × List Tok)) = .ok (ps, r5)) := hsp
  clear hsp
  go_wp2_with fail
  by_cases hc : tx r5 = Tp.mRp
  rotate_left
  · refine (want_no hst Tp.mRp _ rfl hc).mono ?_
    rintro e wX ⟨ht, hx⟩
    have HX : Hid (¬ tx r5 = Tp.mRp) := hc
    clear hc
    obtain ⟨ab, q1, rfl, q2, q3⟩ := ht.out
    go_wp2_with fail
    refine ⟨rfl, ?_⟩
    rw [show Tp.proc f r = .error (3, at' r5) by unfold Tp.proc; simp only [if_pos H1.out, E1.out, H2.out, E3.out, if_pos H4.out, E4.out, E5.out, if_neg HX.out, bind, Except.bind, Tp.want]]
    exact thrown_up hext ht hx
  refine (want_yes hst Tp.mRp _ rfl hc).mono ?_
  rintro e w11 ⟨rfl, hstN, hx⟩
  have H6 : Hid (tx r5 = Tp.mRp) := hc
  clear hc hst
  have hst := hstN
  clear hstN
  have hrbN := (hx.block rb (lt_blk hrb) (by omega)).trans hrb
  have hextN := hext.trans hx
  have hopN := owns_ext hop hx (by omega)
  clear hrb hext hop
  have hrb := hrbN
  clear hrbN
  have hext := hextN
  clear hextN
  have hop := hopN
  clear hopN
  clear hx
  generalize hgr : stp r5 = r6 at hst
  have E6 : Hid (stp r5 = r6) := hgr
  clear hgr
  go_wp2_with fail
  by_cases hc : tx r6 = Tp.mSemi
  rotate_left
  · refine (want_no hst Tp.mSemi _ rfl hc).mono ?_
    rintro e wX ⟨ht, hx⟩
    have HX : Hid (¬ tx r6 = Tp.mSemi) := hc
    clear hc
    obtain ⟨ab, q1, rfl, q2, q3⟩ := ht.out
    go_wp2_with fail
    refine ⟨rfl, ?_⟩
    rw [show Tp.proc f r = .error (3, at' r6) by unfold Tp.proc; simp only [if_pos H1.out, E1.out, H2.out, E3.out, if_pos H4.out, E4.out, E5.out, if_pos H6.out, E6.out, if_neg HX.out, bind, Except.bind, Tp.want]]
    exact thrown_up hext ht hx
  refine (want_yes hst Tp.mSemi _ rfl hc).mono ?_
  rintro e w12 ⟨rfl, hstN, hx⟩
  have H7 : Hid (tx r6 = Tp.mSemi) := hc
  clear hc hst
  have hst := hstN
  clear hstN
  have hrbN := (hx.block rb (lt_blk hrb) (by omega)).trans hrb
  have hextN := hext.trans hx
  have hopN := owns_ext hop hx (by omega)
  clear hrb hext hop
  have hrb := hrbN
  clear hrbN
  have hext := hextN
  clear hextN
  have hop := hopN
  clear hopN
  clear hx
  generalize hgr : stp r6 = r7 at hst
  have E7 : Hid (stp r6 = r7) := hgr
  clear hgr
  go_wp2_with fail
  refine (take_any hst Tp.wVar _ rfl).mono ?_
  rintro e wt ⟨rfl, hstN, hx⟩
  generalize htt : decide (tx r7 = Tp.wVar) = tv
  have HTV : Hid (decide (tx r7 = Tp.wVar) = tv) := htt
  clear htt hst
  have hst := hstN
  clear hstN
  have hrbN := (hx.block rb (lt_blk hrb) (by omega)).trans hrb
  have hextN := hext.trans hx
  have hopN := owns_ext hop hx (by omega)
  clear hrb hext hop
  have hrb := hrbN
  clear hrbN
  have hext := hextN
  clear hextN
  have hop := hopN
  clear hopN
  clear hx
  go_upto_if 25 with fail
  go_cut [] (fun wc => ∃ (vs : List (List UInt8)) (va : Option Addr) (vc : Nat) (r8 : List Tok), St wc p ts r8 0 0 ∧ Ext p.pb w wc ∧ wc.heap[rb]? = some (.cells (pcells (bs nm) (at' r) (decide (tx r2 = Tp.mStar)) (.slice pa ps.length pc) (.slice va vs.length vc) (.slice none 0 0)) 65 (0, 0)) ∧
    wc.ownsRow (rb + 1) 9 1 (.slice pa ps.length pc) ps.length (strs ps) ∧ wc.ownsRow (rb + 1) 9 1 (.slice va vs.length vc) vs.length (strs vs) ∧
    (if tx r7 = Tp.wVar then do let (vs, r8) ← Tp.names 11 ps.length 10 (stp r7); let r9 ← Tp.want Tp.mSemi r8; .ok (vs, r9) else .ok ([], r7) : Except Tp.Er (List (List UInt8) × List Tok)) = .ok (vs, r8))
  case first =>
    cases tv
    · have hp : ¬ tx r7 = Tp.wVar := of_decide_eq_false HTV.out
      rw [if_neg hp] at hst
      have HP : Hid (¬ tx r7 = Tp.wVar) := hp
      clear hp
      go_wp2_with fail
      go_meet
      case rel => exact ⟨[], none, 0, r7, hst, hext, hrb, hop, World.ownsRow_nil _ _ _ _, by rw [if_neg HP.out]⟩
    · have hp : tx r7 = Tp.wVar := of_decide_eq_true HTV.out
      rw [if_pos hp] at hst
      have HP : Hid (tx r7 = Tp.wVar) := hp
      clear hp
      have kL : wt.cell? ⟨rb, 3, none⟩ = some (.slice pa ps.length pc) := cell_blk hrb
      rcases hres : Tp.names 11 ps.length 10 (stp r7) with er | ⟨vs, r8⟩
      · have HX : Hid (Tp.names 11 ps.length 10 (stp r7) = .error er) := hres
        clear hres
        go_wp2_with fail
        clear kL
        refine (names_at hst (by omega) (by omega) 11 (by omega) (by omega) HX).mono ?_
        rintro e wX ⟨ht, hx⟩
        obtain ⟨ab, q1, rfl, q2, q3⟩ := ht.out
        go_wp2_with fail
        refine ⟨rfl, ?_⟩
        rw [show Tp.proc f r = .error er by unfold Tp.proc; simp only [if_pos H1.out, E1.out, H2.out, E3.out, if_pos H4.out, E4.out, E5.out, if_pos H6.out, E6.out, if_pos H7.out, E7.out, if_pos HP.out, HX.out, bind, Except.bind, Tp.want]]
        exact thrown_up hext ht hx
      · have HX : Hid (Tp.names 11 ps.length 10 (stp r7) = .ok (vs, r8)) := hres
        clear hres
        go_wp2_with fail
        clear kL
        refine (names_at hst (by omega) (by omega) 11 (by omega) (by omega) HX).mono ?_
        intro e wn hq
        obtain ⟨v, rfl, hv, hstn, hx⟩ := hq
        obtain ⟨ao, cap, rfl⟩ := owns_shape hv
        have hlr := lt_blk hrb
        have hrbn := (hx.block rb hlr (by omega)).trans hrb
        have hextn := hext.trans hx
        have hopn := owns_ext hop hx (by omega)
        have hown := owns_base (base' := rb + 1) hv (by omega)
        have kS : wn.cell? ⟨rb, 4, none⟩ = some (.slice none 0 0) := cell_blk hrbn
        have zS : wn.frozen? ⟨rb, 4, none⟩ = false := frozen_blk hrbn
        clear hv hst hext hrb hx hop
        go_wp2_with fail
        clear kS zS
        have hbS : Below rb wn (wn.setCell ⟨rb, 4, none⟩ (.slice ao vs.length cap)) := below_set (Below.refl _ _) (Nat.le_refl _) 4 _
        have hxS : Ext rb wn (wn.setCell ⟨rb, 4, none⟩ (.slice ao vs.length cap)) := (Ext.refl _ _).set 4 _
        have hsta := hstn.belowB hbS (by omega)
        have hexta := hextn.trans' (hbS.mono hrw)
        have hrba := set_blk 4 (.slice ao vs.length cap) hrbn
        have hopa := owns_ext hopn hxS (by omega)
        have howna := owns_ext hown hxS (by omega)
        generalize wn.setCell ⟨rb, 4, none⟩ (.slice ao vs.length cap) = wa at hbS hxS hsta hexta hrba hopa howna ⊢
        clear hbS hxS hstn hextn hrbn hopn hown
        by_cases hc : tx r8 = Tp.mSemi
        · refine (want_yes hsta Tp.mSemi _ rfl hc).mono ?_
          rintro e wb ⟨rfl, hstb, hx⟩
          have HC : Hid (tx r8 = Tp.mSemi) := hc
          clear hc hsta
          have hrbb := (hx.block rb (lt_blk hrba) (by omega)).trans hrba
          have hextb := hexta.trans hx
          have hopb := owns_ext hopa hx (by omega)
          have hownb := owns_ext howna hx (by omega)
          clear hx hexta hrba hopa howna
          go_wp2_with fail
          go_meet
          case rel => exact ⟨vs, ao, cap, stp r8, hstb, hextb, hrbb, hopb, hownb, by rw [if_pos HP.out, HX.out]; simp only [bind, Except.bind, Tp.want, if_pos HC.out]⟩
        · refine (want_no hsta Tp.mSemi _ rfl hc).mono ?_
          rintro e wb ⟨ht, hx⟩
          have HC : Hid (¬ tx r8 = Tp.mSemi) := hc
          clear hc
          obtain ⟨ab, q1, rfl, q2, q3⟩ := ht.out
          go_wp2_with fail
          refine ⟨rfl, ?_⟩
          rw [show Tp.proc f r = .error (3, at' r8) by unfold Tp.proc; simp only [if_pos H1.out, E1.out, H2.out, E3.out, if_pos H4.out, E4.out, E5.out, if_pos H6.out, E6.out, if_pos H7.out, E7.out, if_pos HP.out, HX.out, if_neg HC.out, bind, Except.bind, Tp.want]]
          exact thrown_up hexta ht hx
  clear hst hext hrb hop
  obtain ⟨vs, va, vc, r8, hst, hext, hrb, hop, hov, hsp⟩ := hcut
  have E8 : Hid ((if tx r7 = Tp.wVar then do let (vs, r8) ← Tp.names 11 ps.length 10 (stp r7); let r9 ← Tp.want Tp.mSemi r8; .ok (vs, r9) else .ok ([], r7) : Except Tp.Er (List (List UInt8) × List Tok)) = .ok (vs, r8)) := hsp
  clear hsp
  have HT : Hid (Tp.proc f r = procT f r nm (tx r2 == Tp.mStar) ps vs r8) := by
    have e8 := E8.out
    simp only [bind, Except.bind, Tp.want] at e8
    unfold Hid procT Tp.proc
    simp only [if_pos H1.out, E1.out, H2.out, E3.out, if_pos H4.out, E4.out, E5.out, if_pos H6.out, E6.out, if_pos H7.out, E7.out, e8, bind, Except.bind, Tp.want]
  go_wp2_with fail
  by_cases hc : tx r8 = Tp.wBegin
  rotate_left
  · refine (want_no hst Tp.wBegin _ rfl hc).mono ?_
    rintro e wX ⟨ht, hx⟩
    have HX : Hid (¬ tx r8 = Tp.wBegin) := hc
    clear hc
    obtain ⟨ab, q1, rfl, q2, q3⟩ := ht.out
    go_wp2_with fail
    refine ⟨rfl, ?_⟩
    rw [show Tp.proc f r = .error (3, at' r8) by rw [HT.out]; unfold procT; simp only [if_neg HX.out, bind, Except.bind, Tp.want]]
    exact thrown_up hext ht hx
  refine (want_yes hst Tp.wBegin _ rfl hc).mono ?_
  rintro e w14 ⟨rfl, hstN, hx⟩
  have H9 : Hid (tx r8 = Tp.wBegin) := hc
  clear hc hst
  have hst := hstN
  clear hstN
  have hrbN := (hx.block rb (lt_blk hrb) (by omega)).trans hrb
  have hextN := hext.trans hx
  have hopN := owns_ext hop hx (by omega)
  have hovN := owns_ext hov hx (by omega)
  clear hrb hext hop hov
  have hrb := hrbN
  clear hrbN
  have hext := hextN
  clear hextN
  have hop := hopN
  clear hopN
  have hov := hovN
  clear hovN
  clear hx
  generalize hgr : stp r8 = r9 at hst
  have E9 : Hid (stp r8 = r9) := hgr
  clear hgr
  go_wp2_with fail
  have hno : Tp.sx f 0 0 r9 ≠ .error (99, 0) := by
    intro e; apply HN.out; rw [HT.out]; unfold procT; simp only [if_pos H9.out, E9.out, e, bind, Except.bind, Tp.want]
  have hcl := HS.out _ r9 0 hst (by omega) hno
  generalize hres : Tp.sx f 0 0 r9 = res at hcl
  have HR : Hid (Tp.sx f 0 0 r9 = res) := hres
  have HCL : Hid (Calls Tryz.prog 69 #[.pointer (some ⟨p.pb, 0, none⟩)] w14 fun e w' => Post p ts 0 0 w14 (VL w14.heap.size) res e w') := hcl
  clear hcl hres hno
  refine HCL.out.mono ?_
  intro e ws hq
  rcases res with er | ⟨bd, r10⟩
  · obtain ⟨ht, hx⟩ := hq
    obtain ⟨ab, q1, rfl, q2, q3⟩ := ht.out
    go_wp2_with fail
    refine ⟨rfl, ?_⟩
    rw [show Tp.proc f r = .error er by rw [HT.out]; unfold procT; simp only [if_pos H9.out, E9.out, HR.out, bind, Except.bind, Tp.want]]
    exact thrown_up hext ht hx
  obtain ⟨v, rfl, hv, hstN, hx⟩ := hq
  obtain ⟨ba, bc, rfl⟩ := hv.shape
  have hbd : VL (rb + 1) bd (.slice ba bd.length bc) ws := hv.base (by have := lt_blk hrb; omega)
  clear hst hv
  have hst := hstN
  clear hstN
  have hrbN := (hx.block rb (lt_blk hrb) (by omega)).trans hrb
  have hextN := hext.trans hx
  have hopN := owns_ext hop hx (by omega)
  have hovN := owns_ext hov hx (by omega)
  clear hrb hext hop hov
  have hrb := hrbN
  clear hrbN
  have hext := hextN
  clear hextN
  have hop := hopN
  clear hopN
  have hov := hovN
  clear hovN
  clear hx HCL
  have kS : ws.cell? ⟨rb, 5, none⟩ = some (.slice none 0 0) := cell_blk hrb
  have zS : ws.frozen? ⟨rb, 5, none⟩ = false := frozen_blk hrb
  go_wp2_with fail
  clear kS zS
  have hbS : Below rb ws (ws.setCell ⟨rb, 5, none⟩ (.slice ba bd.length bc)) := below_set (Below.refl _ _) (Nat.le_refl _) 5 _
  have hxS : Ext rb ws (ws.setCell ⟨rb, 5, none⟩ (.slice ba bd.length bc)) := (Ext.refl _ _).set 5 _
  have hstN := hst.belowB hbS (by omega)
  have hextN := hext.trans' (hbS.mono hrw)
  have hrbN := set_blk 5 (.slice ba bd.length bc) hrb
  have hopN := owns_ext hop hxS (by omega)
  have hovN := owns_ext hov hxS (by omega)
  have hbdN := VL.ext hxS (by omega) hbd
  generalize ws.setCell ⟨rb, 5, none⟩ (.slice ba bd.length bc) = w16 at hbS hxS hstN hextN hrbN hopN hovN hbdN ⊢
  clear hbS hxS hst hext hrb hop hov hbd
  have hst := hstN
  clear hstN
  have hext := hextN
  clear hextN
  have hrb := hrbN
  clear hrbN
  have hop := hopN
  clear hopN
  have hov := hovN
  clear hovN
  have hbd := hbdN
  clear hbdN
  by_cases hc : tx r10 = Tp.wEnd
  rotate_left
  · refine (want_no hst Tp.wEnd _ rfl hc).mono ?_
    rintro e wX ⟨ht, hx⟩
    have HX : Hid (¬ tx r10 = Tp.wEnd) := hc
    clear hc
    obtain ⟨ab, q1, rfl, q2, q3⟩ := ht.out
    go_wp2_with fail
    refine ⟨rfl, ?_⟩
    rw [show Tp.proc f r = .error (3, at' r10) by rw [HT.out]; unfold procT; simp only [if_pos H9.out, E9.out, HR.out, if_neg HX.out, bind, Except.bind, Tp.want]]
    exact thrown_up hext ht hx
  refine (want_yes hst Tp.wEnd _ rfl hc).mono ?_
  rintro e w17 ⟨rfl, hstN, hx⟩
  have H11 : Hid (tx r10 = Tp.wEnd) := hc
  clear hc hst
  have hst := hstN
  clear hstN
  have hrbN := (hx.block rb (lt_blk hrb) (by omega)).trans hrb
  have hextN := hext.trans hx
  have hopN := owns_ext hop hx (by omega)
  have hovN := owns_ext hov hx (by omega)
  have hbdN := VL.ext hx (by omega) hbd
  clear hrb hext hop hov hbd
  have hrb := hrbN
  clear hrbN
  have hext := hextN
  clear hextN
  have hop := hopN
  clear hopN
  have hov := hovN
  clear hovN
  have hbd := hbdN
  clear hbdN
  clear hx
  generalize hgr : stp r10 = r11 at hst
  have E11 : Hid (stp r10 = r11) := hgr
  clear hgr
  go_wp2_with fail
  by_cases hc : tx r11 = Tp.mSemi
  rotate_left
  · refine (want_no hst Tp.mSemi _ rfl hc).mono ?_
    rintro e wX ⟨ht, hx⟩
    have HX : Hid (¬ tx r11 = Tp.mSemi) := hc
    clear hc
    obtain ⟨ab, q1, rfl, q2, q3⟩ := ht.out
    go_wp2_with fail
    refine ⟨rfl, ?_⟩
    rw [show Tp.proc f r = .error (3, at' r11) by rw [HT.out]; unfold procT; simp only [if_pos H9.out, E9.out, HR.out, if_pos H11.out, E11.out, if_neg HX.out, bind, Except.bind, Tp.want]]
    exact thrown_up hext ht hx
  refine (want_yes hst Tp.mSemi _ rfl hc).mono ?_
  rintro e w18 ⟨rfl, hstN, hx⟩
  have H12 : Hid (tx r11 = Tp.mSemi) := hc
  clear hc hst
  have hst := hstN
  clear hstN
  have hrbN := (hx.block rb (lt_blk hrb) (by omega)).trans hrb
  have hextN := hext.trans hx
  have hopN := owns_ext hop hx (by omega)
  have hovN := owns_ext hov hx (by omega)
  have hbdN := VL.ext hx (by omega) hbd
  clear hrb hext hop hov hbd
  have hrb := hrbN
  clear hrbN
  have hext := hextN
  clear hextN
  have hop := hopN
  clear hopN
  have hov := hovN
  clear hovN
  have hbd := hbdN
  clear hbdN
  clear hx
  have kr : ∀ i, w18.cell? ⟨rb, i, none⟩ = (pcells (bs nm) (at' r) (decide (tx r2 = Tp.mStar)) (.slice pa ps.length pc) (.slice va vs.length vc) (.slice ba bd.length bc))[i]? := fun i => cell_blk hrb
  have zr : ∀ i, w18.frozen? ⟨rb, i, none⟩ = false := fun i => frozen_blk hrb
  simp only [pcells] at kr
  go_wp2_with fail
  refine bodyPost_ret (v := .agg (pcells (bs nm) (at' r) (decide (tx r2 = Tp.mStar)) (.slice pa ps.length pc) (.slice va vs.length vc) (.slice ba bd.length bc))) (by simp [results, Tryz.results68, go_sem, kr, pcells]) rfl ?_
  rw [show Tp.proc f r = .ok (⟨nm, at' r, tx r2 == Tp.mStar, ps, vs, bd⟩, stp r11) by rw [HT.out]; unfold procT; simp only [if_pos H9.out, E9.out, HR.out, if_pos H11.out, E11.out, if_pos H12.out, bind, Except.bind, Tp.want]]
  have hbS := below_set6 w18 rb (.string (bs nm)) (.int .i64 (at' r : Int)) (.bool (decide (tx r2 = Tp.mStar))) (.slice pa ps.length pc) (.slice va vs.length vc) (.slice ba bd.length bc)
  have hxS := ext_set6 w18 rb (.string (bs nm)) (.int .i64 (at' r : Int)) (.bool (decide (tx r2 = Tp.mStar))) (.slice pa ps.length pc) (.slice va vs.length vc) (.slice ba bd.length bc)
  exact ⟨_, rfl, ⟨pa, va, ba, pc, vc, bc, by rw [beq_dec], owns_base (owns_ext hop hxS (by omega)) (by omega), owns_base (owns_ext hov hxS (by omega)) (by omega), (VL.ext hxS (by omega) hbd).vo.base (by omega)⟩, hst.belowB hbS (by omega), hext.trans' (hbS.mono hrw)⟩
end Go.Proofs.YtibncofnnlbmcaaGreatDoor
