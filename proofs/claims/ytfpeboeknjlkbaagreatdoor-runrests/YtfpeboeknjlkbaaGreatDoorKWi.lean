import Derived.Test.YtfpeboeknjlkbaaGreatDoorKWh
/- A VAR. -/
namespace Go.Proofs.YtfpeboeknjlkbaaGreatDoor
open Go.RowKit
open Tp (Tok hd tx at' stp X S G)

def gcells (name : ByteArray) (pos len : Int) (seen : Bool) : Array Value := #[.string name, .int .i64 pos, .int .i64 len, .bool seen]
def VG (g : G) (v : Value) : Prop := v = .agg (gcells (bs g.name) (g.pos : Int) (g.len : Int) g.seen)
theorem below_set4 (w : World) (b : Nat) (v0 v1 v2 v3 : Value) : Below b w ((((w.setCell ⟨b, 0, none⟩ v0).setCell ⟨b, 1, none⟩ v1).setCell ⟨b, 2, none⟩ v2).setCell ⟨b, 3, none⟩ v3) := (below_set (below_set (below_set (below_set (Below.refl b w) (Nat.le_refl _) 0 v0) (Nat.le_refl _) 1 v1) (Nat.le_refl _) 2 v2) (Nat.le_refl _) 3 v3)
theorem beq_dec (a b : List UInt8) : (a == b) = decide (a = b) := by rw [Bool.eq_iff_iff, decide_eq_true_iff, beq_iff_eq]
theorem number_at {w : World} {p : Ps} {ts r : List Tok} {o b : Nat} {res : Except Tp.Er (Nat × List Tok)} (h : St w p ts r o b) (hr : Hid (Tp.number 30 r = res)) :
    Calls Tryz.prog 110 #[.pointer (some ⟨p.pb, 0, none⟩), .int .i64 30] w fun e w' => Post p ts o b w (fun (n : Nat) v _ => v = .int .i64 (n : Int)) res e w' := by
  have := number_post h 30 (by omega) (by omega)
  rw [hr.out] at this
  exact this
theorem number_le {r r1 : List Tok} {n : Nat} (h : Tp.number 30 r = .ok (n, r1)) : n ≤ 30 := by
  unfold Tp.number at h
  by_cases h1 : (hd r).kind ≠ 2
  · simp [h1] at h
  · by_cases h2 : 30 < Tp.val (tx r)
    · simp [h1, h2] at h
    · simp [h1, h2] at h; omega

set_option maxRecDepth 100000 in
set_option maxHeartbeats 1000000 in
theorem global_post {p : Ps} {ts : List Tok} {w : World} {r : List Tok} {o b : Nat} (h : St w p ts r o b) :
    Calls Tryz.prog 73 #[.pointer (some ⟨p.pb, 0, none⟩)] w fun e w' => Post p ts o b w (fun g v _ => VG g v) (Tp.global r) e w' := by
  have hpl := lt_of_cell h.c0
  go_enter Tryz.func73, Tryz.ntmps73
  go_wp2_with fail
  have hba : ∀ ob, Below w.heap.size w (w.alloc ob) := fun ob => (Below.refl _ _).alloc (Nat.le_refl _) _
  refine (now_any (h.below (hba _))).mono ?_
  rintro e w1 ⟨rfl, hb1⟩
  have hst1 := (h.below (hba _)).below hb1
  have hrb1 : w1.heap[w.heap.size]? = some (.cells (gcells ⟨#[]⟩ 0 0 false) 69 (0, 0)) := (hb1.block _ (by simp)).trans (new_blk _ _)
  have hext1 : Ext p.pb w w1 := (Ext.below (hba _)).trans (Ext.below hb1)
  obtain ⟨rb, hrb⟩ : ∃ rb, rb = w.heap.size := ⟨_, rfl⟩
  rw [← hrb] at hrb1 ⊢
  have hrw : w.heap.size ≤ rb := by omega
  have hps : p.pb < rb := by omega
  clear hba hb1 hrb
  have k1 : w1.cell? ⟨rb, 1, none⟩ = some (.int .i64 0) := cell_blk hrb1
  have z1 : w1.frozen? ⟨rb, 1, none⟩ = false := frozen_blk hrb1
  go_wp2_with fail
  clear k1 z1
  have hbS : Below rb w1 (w1.setCell ⟨rb, 1, none⟩ (.int .i64 ((hd r).pos : Int))) := below_set (Below.refl _ _) (Nat.le_refl _) 1 _
  have hst2 := hst1.belowB hbS (by omega)
  have hext2 := hext1.trans' (hbS.mono hrw)
  have hrb2 := set_blk 1 (.int .i64 ((hd r).pos : Int)) hrb1
  generalize w1.setCell ⟨rb, 1, none⟩ (.int .i64 ((hd r).pos : Int)) = w2 at hbS hst2 hext2 hrb2 ⊢
  clear hbS hst1 hext1 hrb1
  refine (name_post hst2).mono ?_
  intro e w3 hq
  generalize hres : Tp.name r = res at hq
  have HR : Hid (Tp.name r = res) := hres
  clear hres
  rcases res with er | ⟨nm, r1⟩
  · obtain ⟨ht, hx⟩ := hq
    obtain ⟨ab, q1, rfl, q2, q3⟩ := ht.out
    go_wp2_with fail
    refine ⟨rfl, ?_⟩
    rw [show Tp.global r = .error er by unfold Tp.global; simp only [HR.out, bind, Except.bind]]
    exact thrown_up hext2 ht hx
  obtain ⟨v, rfl, rfl, hst3, hx3⟩ := hq
  have hrb3 := (hx3.block rb (lt_blk hrb2) (by omega)).trans hrb2
  have hext3 := hext2.trans hx3
  clear hst2 hx3 hext2 hrb2
  have k0 : w3.cell? ⟨rb, 0, none⟩ = some (.string ⟨#[]⟩) := cell_blk hrb3
  have z0 : w3.frozen? ⟨rb, 0, none⟩ = false := frozen_blk hrb3
  go_wp2_with fail
  clear k0 z0
  have hbS : Below rb w3 (w3.setCell ⟨rb, 0, none⟩ (.string (bs nm))) := below_set (Below.refl _ _) (Nat.le_refl _) 0 _
  have hst4 := hst3.belowB hbS (by omega)
  have hext4 := hext3.trans' (hbS.mono hrw)
  have hrb4 := set_blk 0 (.string (bs nm)) hrb3
  generalize w3.setCell ⟨rb, 0, none⟩ (.string (bs nm)) = w4 at hbS hst4 hext4 hrb4 ⊢
  clear hbS hst3 hext3 hrb3
  refine (take_any hst4 Tp.mStar _ rfl).mono ?_
  rintro e w5 ⟨rfl, hst5, hx5⟩
  have hrb5 := (hx5.block rb (lt_blk hrb4) (by omega)).trans hrb4
  have hext5 := hext4.trans hx5
  clear hst4 hx5 hext4 hrb4
  have k3 : w5.cell? ⟨rb, 3, none⟩ = some (.bool false) := cell_blk hrb5
  have z3 : w5.frozen? ⟨rb, 3, none⟩ = false := frozen_blk hrb5
  go_wp2_with fail
  clear k3 z3
  have hbS : Below rb w5 (w5.setCell ⟨rb, 3, none⟩ (.bool (decide (tx r1 = Tp.mStar)))) := below_set (Below.refl _ _) (Nat.le_refl _) 3 _
  have hst6 := hst5.belowB hbS (by omega)
  have hext6 := hext5.trans' (hbS.mono hrw)
  have hrb6 := set_blk 3 (.bool (decide (tx r1 = Tp.mStar))) hrb5
  generalize w5.setCell ⟨rb, 3, none⟩ (.bool (decide (tx r1 = Tp.mStar))) = w6 at hbS hst6 hext6 hrb6 ⊢
  clear hbS hst5 hext5 hrb5
  generalize hr2 : (if tx r1 = Tp.mStar then stp r1 else r1) = r2 at hst6
  have HR2 : Hid ((if tx r1 = Tp.mStar then stp r1 else r1) = r2) := hr2
  clear hr2
  by_cases hc : tx r2 = Tp.mColon
  rotate_left
  · refine (want_no hst6 Tp.mColon _ rfl hc).mono ?_
    rintro e w7 ⟨ht, hx⟩
    have HC : Hid (¬ tx r2 = Tp.mColon) := hc
    clear hc
    obtain ⟨ab, q1, rfl, q2, q3⟩ := ht.out
    go_wp2_with fail
    refine ⟨rfl, ?_⟩
    rw [show Tp.global r = .error (3, at' r2) by unfold Tp.global; simp only [HR.out, HR2.out, bind, Except.bind, Tp.want, if_neg HC.out]]
    exact thrown_up hext6 ht hx
  refine (want_yes hst6 Tp.mColon _ rfl hc).mono ?_
  rintro e w7 ⟨rfl, hst7, hx7⟩
  have HC : Hid (tx r2 = Tp.mColon) := hc
  have hrb7 := (hx7.block rb (lt_blk hrb6) (by omega)).trans hrb6
  have hext7 := hext6.trans hx7
  clear hc hst6 hx7 hext6 hrb6
  generalize hr3 : stp r2 = r3 at hst7
  have HR3 : Hid (stp r2 = r3) := hr3
  clear hr3
  go_wp2_with fail
  refine (take_any hst7 Tp.wInt _ rfl).mono ?_
  rintro e w8 ⟨rfl, hst8, hx8⟩
  have hrb8 := (hx8.block rb (lt_blk hrb7) (by omega)).trans hrb7
  have hext8 := hext7.trans hx8
  clear hst7 hx8 hext7 hrb7
  by_cases hi : tx r3 = Tp.wInt
  · have hdec := decide_eq_true hi
    rw [if_pos hi] at hst8
    have HI : Hid (tx r3 = Tp.wInt) := hi
    clear hi
    go_wp2_with fail
    clear hdec
    by_cases hs : tx (stp r3) = Tp.mSemi
    · refine (want_yes hst8 Tp.mSemi _ rfl hs).mono ?_
      rintro e w9 ⟨rfl, hst9, hx9⟩
      have HS : Hid (tx (stp r3) = Tp.mSemi) := hs
      have hrb9 := (hx9.block rb (lt_blk hrb8) (by omega)).trans hrb8
      have hext9 := hext8.trans hx9
      clear hs hst8 hx9 hext8 hrb8
      have kr : ∀ i, w9.cell? ⟨rb, i, none⟩ = (gcells (bs nm) (hd r).pos 0 (decide (tx r1 = Tp.mStar)))[i]? := fun i => cell_blk hrb9
      have zr : ∀ i, w9.frozen? ⟨rb, i, none⟩ = false := fun i => frozen_blk hrb9
      simp only [gcells] at kr
      go_wp2_with fail
      refine bodyPost_ret (v := .agg (gcells (bs nm) (at' r) (0) (decide (tx r1 = Tp.mStar)))) (by simp [results, Tryz.results73, go_sem, kr, gcells, at']) rfl ?_
      rw [show Tp.global r = .ok (⟨nm, at' r, 0, tx r1 == Tp.mStar⟩, stp (stp r3)) by unfold Tp.global; simp only [HR.out, HR2.out, HR3.out, bind, Except.bind, Tp.want, if_pos HC.out, if_pos HI.out, if_pos HS.out]]
      exact ⟨_, rfl, by unfold VG; rw [beq_dec] <;> rfl, hst9.belowB (below_set4 w9 rb _ _ _ _) (by omega), hext9.trans' ((below_set4 w9 rb _ _ _ _).mono hrw)⟩
    · refine (want_no hst8 Tp.mSemi _ rfl hs).mono ?_
      rintro e w9 ⟨ht, hx⟩
      have HS : Hid (¬ tx (stp r3) = Tp.mSemi) := hs
      clear hs
      obtain ⟨ab, q1, rfl, q2, q3⟩ := ht.out
      go_wp2_with fail
      refine ⟨rfl, ?_⟩
      rw [show Tp.global r = .error (3, at' (stp r3)) by unfold Tp.global; simp only [HR.out, HR2.out, HR3.out, bind, Except.bind, Tp.want, if_pos HC.out, if_pos HI.out, if_neg HS.out]]
      exact thrown_up hext8 ht hx
  · have hdec := decide_eq_false hi
    rw [if_neg hi] at hst8
    have HI : Hid (¬ tx r3 = Tp.wInt) := hi
    clear hi
    go_wp2_with fail
    clear hdec
    by_cases ha : tx r3 = Tp.wArray
    rotate_left
    · refine (want_no hst8 Tp.wArray _ rfl ha).mono ?_
      rintro e w9 ⟨ht, hx⟩
      have HA : Hid (¬ tx r3 = Tp.wArray) := ha
      clear ha
      obtain ⟨ab, q1, rfl, q2, q3⟩ := ht.out
      go_wp2_with fail
      refine ⟨rfl, ?_⟩
      rw [show Tp.global r = .error (3, at' r3) by unfold Tp.global; simp only [HR.out, HR2.out, HR3.out, bind, Except.bind, Tp.want, if_pos HC.out, if_neg HI.out, if_neg HA.out]]
      exact thrown_up hext8 ht hx
    refine (want_yes hst8 Tp.wArray _ rfl ha).mono ?_
    rintro e w9 ⟨rfl, hst9, hx9⟩
    have HA : Hid (tx r3 = Tp.wArray) := ha
    have hrb9 := (hx9.block rb (lt_blk hrb8) (by omega)).trans hrb8
    have hext9 := hext8.trans hx9
    clear ha hst8 hx9 hext8 hrb8
    go_wp2_with fail
    rcases hres2 : Tp.number 30 (stp r3) with er | ⟨k, r5⟩
    · have HN : Hid (Tp.number 30 (stp r3) = .error er) := hres2
      clear hres2
      refine (number_at hst9 HN).mono ?_
      rintro e w10 ⟨ht, hx⟩
      obtain ⟨ab, q1, rfl, q2, q3⟩ := ht.out
      go_wp2_with fail
      refine ⟨rfl, ?_⟩
      rw [show Tp.global r = .error er by unfold Tp.global; simp only [HR.out, HR2.out, HR3.out, bind, Except.bind, Tp.want, if_pos HC.out, if_neg HI.out, if_pos HA.out, HN.out]]
      exact thrown_up hext9 ht hx
    have HN : Hid (Tp.number 30 (stp r3) = .ok (k, r5)) := hres2
    have hk30 := number_le hres2
    clear hres2
    refine (number_at hst9 HN).mono ?_
    intro e w10 hq
    obtain ⟨v, rfl, rfl, hst10, hx10⟩ := hq
    have hrb10 := (hx10.block rb (lt_blk hrb9) (by omega)).trans hrb9
    have hext10 := hext9.trans hx10
    clear hst9 hx10 hext9 hrb9
    have k2 : w10.cell? ⟨rb, 2, none⟩ = some (.int .i64 0) := cell_blk hrb10
    have z2 : w10.frozen? ⟨rb, 2, none⟩ = false := frozen_blk hrb10
    by_cases hk0 : k = 0
    · have hk0' : ((k : Int) == 0) = true := by simp; omega
      have HK : Hid (k = 0) := hk0
      clear hk0
      go_wp2_with fail
      clear k2 z2
      have hbS : Below rb w10 (w10.setCell ⟨rb, 2, none⟩ (.int .i64 (k : Int))) := below_set (Below.refl _ _) (Nat.le_refl _) 2 _
      have hst11 := hst10.belowB hbS (by omega)
      have hext11 := hext10.trans' (hbS.mono hrw)
      generalize w10.setCell ⟨rb, 2, none⟩ (.int .i64 (k : Int)) = w11 at hbS hst11 hext11 ⊢
      refine (wrong_any hst11 2).mono ?_
      rintro e w12 ⟨ht, hb12⟩
      obtain ⟨ab, q1, rfl, q2, q3⟩ := ht.out
      go_wp2_with fail
      refine ⟨rfl, ?_⟩
      rw [show Tp.global r = .error (2, at' r5) by unfold Tp.global; simp only [HR.out, HR2.out, HR3.out, bind, Except.bind, Tp.want, if_pos HC.out, if_neg HI.out, if_pos HA.out, HN.out, if_pos HK.out]]
      exact thrown_up hext11 ht (Ext.below hb12)
    · have hk0' : ((k : Int) == 0) = false := by simp; omega
      have HK : Hid (¬ k = 0) := hk0
      clear hk0
      go_wp2_with fail
      clear k2 z2
      have hbS : Below rb w10 (w10.setCell ⟨rb, 2, none⟩ (.int .i64 (k : Int))) := below_set (Below.refl _ _) (Nat.le_refl _) 2 _
      have hst11 := hst10.belowB hbS (by omega)
      have hext11 := hext10.trans' (hbS.mono hrw)
      have hrb11 := set_blk 2 (.int .i64 (k : Int)) hrb10
      generalize w10.setCell ⟨rb, 2, none⟩ (.int .i64 (k : Int)) = w11 at hbS hst11 hext11 hrb11 ⊢
      clear hbS hst10 hext10 hrb10
      by_cases hs : tx r5 = Tp.mSemi
      · refine (want_yes hst11 Tp.mSemi _ rfl hs).mono ?_
        rintro e w12 ⟨rfl, hst12, hx12⟩
        have HS : Hid (tx r5 = Tp.mSemi) := hs
        have hrb12 := (hx12.block rb (lt_blk hrb11) (by omega)).trans hrb11
        have hext12 := hext11.trans hx12
        clear hs hst11 hx12 hext11 hrb11
        have kr : ∀ i, w12.cell? ⟨rb, i, none⟩ = (gcells (bs nm) (hd r).pos k (decide (tx r1 = Tp.mStar)))[i]? := fun i => cell_blk hrb12
        have zr : ∀ i, w12.frozen? ⟨rb, i, none⟩ = false := fun i => frozen_blk hrb12
        simp only [gcells] at kr
        go_wp2_with fail
        refine bodyPost_ret (v := .agg (gcells (bs nm) (at' r) ((k : Int)) (decide (tx r1 = Tp.mStar)))) (by simp [results, Tryz.results73, go_sem, kr, gcells, at']) rfl ?_
        rw [show Tp.global r = .ok (⟨nm, at' r, k, tx r1 == Tp.mStar⟩, stp r5) by unfold Tp.global; simp only [HR.out, HR2.out, HR3.out, bind, Except.bind, Tp.want, if_pos HC.out, if_neg HI.out, if_pos HA.out, HN.out, if_neg HK.out, if_pos HS.out]]
        exact ⟨_, rfl, by unfold VG; rw [beq_dec] <;> rfl, hst12.belowB (below_set4 w12 rb _ _ _ _) (by omega), hext12.trans' ((below_set4 w12 rb _ _ _ _).mono hrw)⟩
      · refine (want_no hst11 Tp.mSemi _ rfl hs).mono ?_
        rintro e w12 ⟨ht, hx⟩
        have HS : Hid (¬ tx r5 = Tp.mSemi) := hs
        clear hs
        obtain ⟨ab, q1, rfl, q2, q3⟩ := ht.out
        go_wp2_with fail
        refine ⟨rfl, ?_⟩
        rw [show Tp.global r = .error (3, at' r5) by unfold Tp.global; simp only [HR.out, HR2.out, HR3.out, bind, Except.bind, Tp.want, if_pos HC.out, if_neg HI.out, if_pos HA.out, HN.out, if_neg HK.out, if_neg HS.out]]
        exact thrown_up hext11 ht hx
end Go.Proofs.YtfpeboeknjlkbaaGreatDoor
