import Derived.Test.YtfcdphgggdioeaaGreatDoorKXc
import Derived.Test.YtfcdphgggdioeaaGreatDoorKGb
import Derived.Test.YtfcdphgggdioeaaGreatDoorKWa
import Derived.Deep.RegionLawGrows
/- The document's reader: what begins with a REF. -/
namespace Go.Proofs.YtfcdphgggdioeaaGreatDoor
open Go.RowKit
open Tp (Tok hd tx at' stp X)
open Nr (Fl fine Sx tk tkS fl mu nm nu nms nex naft)
theorem tk_true {m : List UInt8} {s : Sx} (h : tk m s = true) : s.2 = fine ∧ tx s.1 = m ∧ tkS m s = (stp s.1, fine) := by
  have h1 : s.2 = fine ∧ tx s.1 = m := of_decide_eq_true h
  refine ⟨h1.1, h1.2, ?_⟩
  unfold tkS
  rw [if_pos h1, h1.1]
theorem tk_false {m : List UInt8} {s : Sx} (h : tk m s = false) : tkS m s = s := by
  have h1 : ¬ (s.2 = fine ∧ tx s.1 = m) := of_decide_eq_false h
  unfold tkS
  rw [if_neg h1]
theorem fld {w w1 : World} {q : Rp} {ts : List Tok} {s : Sx} {xb i : Nat} {v : Value} {cs : Array Value} {t : TypeId} (hst : RX w1 q ts s) (hx : Ext q.rb w w1) (hb : w1.heap[xb]? = some (.cells cs t (0, 0))) (hxb : w.heap.size ≤ xb) (hq : q.rb < w.heap.size) :
    RX (w1.setCell ⟨xb, i, none⟩ v) q ts s ∧ Ext q.rb w (w1.setCell ⟨xb, i, none⟩ v) ∧ (w1.setCell ⟨xb, i, none⟩ v).heap[xb]? = some (.cells (cs.setIfInBounds i v) t (0, 0)) := by
  have hbel : Below xb w1 (w1.setCell ⟨xb, i, none⟩ v) := below_set (Below.refl _ _) (Nat.le_refl _) i v
  exact ⟨hst.belowB hbel (by omega), hx.trans' (hbel.mono hxb), set_blk i v hb⟩
def RefPost (q : Rp) (ts : List Tok) (w : World) (pos : Nat) (y : List X × Sx) (e : Ending) (w' : World) : Prop :=
  ∃ (b code : Nat) (m n : List UInt8) (la aa : Option Addr) (an ac : Nat) (left args : List X), e = .returned (.pointer (some ⟨b, 0, none⟩)) ∧ w.heap.size ≤ b ∧
    w'.heap[b]? = some (.cells (xcells code pos 0 (bs m) (bs n) ⟨#[]⟩ (.pointer la) (.pointer none) (.slice aa an ac)) 108 (0, 0)) ∧ y.1 = [⟨code, pos, 0, m, n, [], left, [], args⟩] ∧ (left = [] ∧ la = none ∨ (y.2.2 = fine → VX w.heap.size left (.pointer la) w')) ∧
    (y.2.2 = fine → VX w.heap.size y.1 (.pointer (some ⟨b, 0, none⟩)) w') ∧ RX w' q ts y.2 ∧ Ext q.rb w w'
def RefR (q : Rp) (ts : List Tok) (g : Nat) : Prop := ∀ (w : World) (r : List Tok) (ones : Nat) (y : List X × Sx), RS w q ts r fine → ones ≤ 10 → nex g 6 ones 0 [] (r, fine) = some y →
  Calls Tryz.prog 67 #[.pointer (some ⟨q.rb, 0, none⟩), .int .i64 (ones : Int)] w fun e w' => RefPost q ts w (at' r) y e w'
theorem naft_lb {g ones p : Nat} {m n : List UInt8} {s : Sx} {y : List X × Sx} (h : naft g ones p m n s = some y) (ht : tk Tp.mLb s = true) : ∃ z, nex g 0 (ones + 1) 0 [] (stp s.1, fine) = some z ∧ y = ([⟨3, p, 0, m, n, [], z.1, [], []⟩], mu Tp.mRb z.2) := by
  unfold naft at h
  rw [if_pos ht, (tk_true ht).2.2] at h
  cases hz : nex g 0 (ones + 1) 0 [] (stp s.1, fine) with
  | none => rw [hz] at h; cases h
  | some z => rw [hz] at h; exact ⟨z, rfl, (Option.some.inj h).symm⟩
theorem naft_lp {g ones p : Nat} {m n : List UInt8} {s : Sx} {y : List X × Sx} (h : naft g ones p m n s = some y) (h0 : tk Tp.mLb s = false) (ht : tk Tp.mLp s = true) : ∃ z, nex g 7 ones 1 [] (stp s.1, fine) = some z ∧ y = ([⟨6, p, 0, m, n, [], [], [], z.1⟩], z.2) := by
  unfold naft at h
  rw [if_neg (by rw [h0]; simp), if_pos ht, (tk_true ht).2.2] at h
  cases hz : nex g 7 ones 1 [] (stp s.1, fine) with
  | none => rw [hz] at h; cases h
  | some z => rw [hz] at h; exact ⟨z, rfl, (Option.some.inj h).symm⟩
theorem naft_no {g ones p : Nat} {m n : List UInt8} {s : Sx} {y : List X × Sx} (h : naft g ones p m n s = some y) (h0 : tk Tp.mLb s = false) (h1 : tk Tp.mLp s = false) : y = ([⟨2, p, 0, m, n, [], [], [], []⟩], s) := by
  unfold naft at h
  rw [if_neg (by rw [h0]; simp), if_neg (by rw [h1]; simp)] at h
  exact (Option.some.inj h).symm
theorem mu_fine {m : List UInt8} {s : Sx} (h : (mu m s).2 = fine) : s.2 = fine := by
  unfold mu at h
  dsimp only at h
  split at h
  · rename_i hc; exact hc.1
  · exact h
theorem mu_tx {m : List UInt8} {s : Sx} (h : (mu m s).2 = fine) : tx s.1 = m := by
  by_cases ht : tx s.1 = m
  · exact ht
  · have hs := mu_fine h
    unfold mu at h
    dsimp only at h
    rw [if_pos ⟨hs, ht⟩] at h
    have := congrArg Prod.snd h
    simp [fine] at this
theorem news1' (w : World) (v : Value) (t : TypeId) : ∀ (j : Nat) (u : Value), [v][j]? = some u → (w.alloc (.cells #[v] t)).cell? ((⟨w.heap.size, 0, none⟩ : Addr).add j) = some u := by
  intro j u hj
  match j, hj with
  | 0, hj => simp at hj; subst hj; simp [Addr.add]
/- the loop over arguments, a round of it -/
theorem nex7_bad' {g ones a : Nat} {acc : List X} {s : Sx} {y : List X × Sx} (h : nex (g + 1) 7 ones a acc s = some y) (hf : ¬ s.2 = fine) : y = (acc, s) := by
  rw [nex] at h
  simp only [show ¬ (7 < 5) by omega, show ¬ (7 = 5) by omega, show ¬ (7 = 6) by omega, if_false, if_true] at h
  rw [if_pos hf] at h
  exact (Option.some.inj h).symm
theorem nex7_end {g ones a : Nat} {acc : List X} {s : Sx} {y : List X × Sx} (h : nex (g + 1) 7 ones a acc s = some y) (hf : s.2 = fine) (hr : tx s.1 = Tp.mRp) : y = (acc, (stp s.1, fine)) := by
  rw [nex] at h
  simp only [show ¬ (7 < 5) by omega, show ¬ (7 = 5) by omega, show ¬ (7 = 6) by omega, if_false, if_true] at h
  rw [if_neg (fun h => h hf), if_pos hr] at h
  exact (Option.some.inj h).symm
theorem nex7_on {g ones a : Nat} {acc : List X} {s s1 : Sx} {y : List X × Sx} (h : nex (g + 1) 7 ones a acc s = some y) (hf : s.2 = fine) (hr : ¬ tx s.1 = Tp.mRp) (h1 : s1 = if a = 1 then s else mu Tp.mComma s) :
    (¬ s1.2 = fine ∧ y = (acc, s1)) ∨ (s1.2 = fine ∧ ∃ z, nex g 0 (ones + 1) 0 [] (s1.1, fine) = some z ∧ nex g 7 ones 0 (acc ++ z.1) z.2 = some y) := by
  rw [nex] at h
  simp only [show ¬ (7 < 5) by omega, show ¬ (7 = 5) by omega, show ¬ (7 = 6) by omega, if_false, if_true] at h
  rw [if_neg (fun h => h hf), if_neg hr, ← h1] at h
  by_cases h2 : s1.2 = fine
  · rw [if_neg (fun h => h h2)] at h
    obtain ⟨z, hz, hy⟩ := bind_some' h
    refine Or.inr ⟨h2, z, ?_, hy⟩
    obtain ⟨a1, b1⟩ := s1
    simp only at h2
    subst h2
    exact hz
  · rw [if_pos h2] at h
    exact Or.inl ⟨h2, (Option.some.inj h).symm⟩
set_option maxRecDepth 100000 in
set_option maxHeartbeats 4000000 in
theorem ref_post {q : Rp} {ts : List Tok} {g : Nat} (hL : LevR q ts g) : RefR q ts (g + 1) := by
  intro w r ones y h ho hy
  rw [Nr.nex6] at hy
  obtain ⟨i3, hi3, hz30, hz31, hz32⟩ := info_parts Tryz.infoPExpr
  have hpl := lt_of_cell h.c0
  have hlen := h.len
  have HWR : Hid (IntKind.i64.wrap ((ones : Int) + 1) = (ones : Int) + 1) := by show _ = _; unfold IntKind.wrap; simp [IntKind.bits, IntKind.signed]; omega
  have HL : Hid (∀ g', g' ≤ g → ∀ W r' z, RS W q ts r' fine → nex g' 0 (ones + 1) 0 [] (r', fine) = some z → Calls Tryz.prog 94 #[.pointer (some ⟨q.rb, 0, none⟩), .int .i64 0, .int .i64 ((ones : Int) + 1)] W fun e w' => RPost q ts W z e w') :=
    fun g' hg W r' z hW hz => (hL.mono hg) W r' 0 (ones + 1) z hW (by omega) (by omega) hz
  clear hL
  obtain ⟨h1, h2, h3, h4⟩ := h.hd
  obtain ⟨i, hi⟩ : ∃ i, i = (ts.length - r.length) * 3 := ⟨_, rfl⟩
  obtain ⟨n, hn⟩ : ∃ n, n = r.length := ⟨_, rfl⟩
  obtain ⟨c, hc⟩ : ∃ c, c = q.cap - (ts.length - r.length) := ⟨_, rfl⟩
  have d0 : w.cell? ⟨q.rb, 0, none⟩ = some (.slice (some ⟨q.tb, i, none⟩) n c) := by rw [hi, hn, hc]; exact h.c0
  have d2 : w.cell? ⟨q.tb, i + 2, none⟩ = some (.int .i64 (at' r : Int)) := by rw [hi]; exact (h.toks _ _ h1).c2
  have hn0 : (0 : Int) < n := by omega
  clear hi hn hc h1 h2 h3 h4
  have b0 : Below w.heap.size w (w.alloc (.cells (xcells 2 (at' r) 0 ⟨#[]⟩ ⟨#[]⟩ ⟨#[]⟩ (.pointer none) (.pointer none) (.slice none 0 0)) 108)) := (Below.refl _ _).alloc (Nat.le_refl _) _
  have k0 := new_blk w (.cells (xcells 2 (at' r) 0 ⟨#[]⟩ ⟨#[]⟩ ⟨#[]⟩ (.pointer none) (.pointer none) (.slice none 0 0)) 108)
  have hst0 : RX (w.alloc (.cells (xcells 2 (at' r) 0 ⟨#[]⟩ ⟨#[]⟩ ⟨#[]⟩ (.pointer none) (.pointer none) (.slice none 0 0)) 108)) q ts (r, fine) := h.below b0
  obtain ⟨pos, hpos⟩ : ∃ pos, pos = at' r := ⟨_, rfl⟩
  have hy' : naft g ones pos (if tk Tp.mDot (nm (r, fine)).2 then (nm (r, fine)).1 else []) (if tk Tp.mDot (nm (r, fine)).2 then nm (tkS Tp.mDot (nm (r, fine)).2) else nm (r, fine)).1 (if tk Tp.mDot (nm (r, fine)).2 then nm (tkS Tp.mDot (nm (r, fine)).2) else nm (r, fine)).2 = some y := by rw [hpos]; exact hy
  rw [← hpos] at b0 k0 hst0 d2 ⊢
  have HN := Lib.hid (rname_s hst0)
  generalize hn1 : nm (r, fine) = n1 at hy' HN
  have HY := Lib.hid hy'
  clear hy hy' hn1 hpos hst0 h
  obtain ⟨a1, s1⟩ := n1
  obtain ⟨xb, hxb⟩ : ∃ xb, xb = w.heap.size := ⟨_, rfl⟩
  go_enter Tryz.func67, Tryz.ntmps67
  go_wp2_with fail
  simp only [xcells] at HN b0 k0
  generalize w.alloc (.cells #[.int .i64 2, .int .i64 (pos : Int), .int .i64 0, .string ⟨#[]⟩, .string ⟨#[]⟩, .string ⟨#[]⟩, .pointer none, .pointer none, .slice none 0 0] 108) = w0 at *
  rw [← hxb] at k0 ⊢
  have hxw : w.heap.size ≤ xb := by omega
  have hqx : q.rb < xb := by omega
  have HX0 := Lib.hid hxb
  clear hxb
  refine HN.out.mono ?_
  rintro e w1 ⟨rfl, hst1, hx1⟩
  have hk1 : w1.heap[xb]? = some (.cells #[.int .i64 2, .int .i64 (pos : Int), .int .i64 0, .string ⟨#[]⟩, .string ⟨#[]⟩, .string ⟨#[]⟩, .pointer none, .pointer none, .slice none 0 0] 108 (0, 0)) := (hx1.block xb (lt_blk k0) (by omega)).trans k0
  have hx1' : Ext q.rb w w1 := (Ext.below b0).trans hx1
  have c4 : w1.cell? ⟨xb, 4, none⟩ = some (.string ⟨#[]⟩) := cell_blk hk1
  have z4 : w1.frozen? ⟨xb, 4, none⟩ = false := frozen_blk hk1
  obtain ⟨hst2, hx2, hk2⟩ := fld (i := 4) (v := .string (bs a1)) hst1 hx1' hk1 hxw hpl
  have hk2 : (w1.setCell ⟨xb, 4, none⟩ (.string (bs a1))).heap[xb]? = some (.cells #[.int .i64 2, .int .i64 (pos : Int), .int .i64 0, .string ⟨#[]⟩, .string (bs a1), .string ⟨#[]⟩, .pointer none, .pointer none, .slice none 0 0] 108 (0, 0)) := hk2
  clear HN b0 k0 hx1 d0 d2
  go_wp2_with fail
  clear hst1 hx1' hk1 c4 z4
  generalize w1.setCell ⟨xb, 4, none⟩ (.string (bs a1)) = w2 at *
  refine (rtake_s hst2 Tp.mDot (by decide) _ rfl).mono ?_
  rintro e w3 ⟨rfl, hst3, hx3⟩
  have hk3 := (hx3.block xb (lt_blk hk2) (by omega)).trans hk2
  have hx3' := hx2.trans hx3
  clear hst2 hx2 hk2 hx3
  have HYY := HY.out
  cases hdot : tk Tp.mDot s1 with
  | false =>
    rw [tk_false hdot] at hst3
    rw [hdot] at HYY
    have HY2 : Hid (naft g ones pos [] a1 s1 = some y) := HYY
    clear HYY HY hdot
    go_wp2_with fail
    refine (rtake_s hst3 Tp.mLb (by decide) _ rfl).mono ?_
    rintro e w5 ⟨rfl, hst5, hx5⟩
    have hk5 := (hx5.block xb (lt_blk hk3) (by omega)).trans hk3
    have hx5' := hx3'.trans hx5
    clear hst3 hx3' hk3 hx5
    cases hlb : tk Tp.mLb s1 with
    | true =>
      obtain ⟨z, hz, hyz⟩ := naft_lb HY2.out hlb
      rw [(tk_true hlb).2.2] at hst5
      have HZ := Lib.hid hz
      have HYZ := Lib.hid hyz
      clear hlb hz hyz
      have c0 : w5.cell? ⟨xb, 0, none⟩ = some (.int .i64 2) := cell_blk hk5
      have z0 : w5.frozen? ⟨xb, 0, none⟩ = false := frozen_blk hk5
      obtain ⟨hst6, hx6, hk6⟩ := fld (i := 0) (v := .int .i64 3) hst5 hx5' hk5 hxw hpl
      have hk6 : (w5.setCell ⟨xb, 0, none⟩ (.int .i64 3)).heap[xb]? = some (.cells #[.int .i64 3, .int .i64 (pos : Int), .int .i64 0, .string (bs ([] : List UInt8)), .string (bs a1), .string ⟨#[]⟩, .pointer none, .pointer none, .slice none 0 0] 108 (0, 0)) := hk6
      clear hst5 hx5' hk5
      go_wp2_with fail
      clear c0 z0
      generalize w5.setCell ⟨xb, 0, none⟩ (.int .i64 3) = w6 at *
      refine (HL.out g (Nat.le_refl _) w6 (stp s1.1) z hst6 HZ.out).mono ?_
      rintro e w7 ⟨p7, rfl, hv7, hst7, hx7⟩
      have hk7 := (hx7.block xb (lt_blk hk6) (by omega)).trans hk6
      have hx7' := hx6.trans hx7
      have hsz6 := hx6.size
      have hlt6 := lt_blk hk6
      have c6 : w7.cell? ⟨xb, 6, none⟩ = some (.pointer none) := cell_blk hk7
      have z6 : w7.frozen? ⟨xb, 6, none⟩ = false := frozen_blk hk7
      obtain ⟨hst8, hx8, hk8⟩ := fld (i := 6) (v := .pointer p7) hst7 hx7' hk7 hxw hpl
      have hk8 : (w7.setCell ⟨xb, 6, none⟩ (.pointer p7)).heap[xb]? = some (.cells #[.int .i64 3, .int .i64 (pos : Int), .int .i64 0, .string (bs ([] : List UInt8)), .string (bs a1), .string ⟨#[]⟩, .pointer p7, .pointer none, .slice none 0 0] 108 (0, 0)) := hk8
      have HV8 : Hid (z.2.2 = fine → VX (xb + 1) z.1 (.pointer p7) (w7.setCell ⟨xb, 6, none⟩ (.pointer p7))) := fun hf => VX.ext (b := xb) ((Ext.refl xb w7).set 6 _) (by omega) ((hv7 hf).base (by omega))
      clear hst6 hx6 hk6 hst7 hx7 hx7' hk7 hv7
      go_wp2_with fail
      clear c6 z6
      generalize w7.setCell ⟨xb, 6, none⟩ (.pointer p7) = w8 at *
      refine (rmust_s hst8 Tp.mRb (by decide) _ rfl).mono ?_
      rintro e w9 ⟨rfl, hst9, hx9⟩
      have hk9 := (hx9.block xb (lt_blk hk8) (by omega)).trans hk8
      have hx9' := hx8.trans hx9
      have HV9 : Hid (z.2.2 = fine → VX (xb + 1) z.1 (.pointer p7) w9) := fun hf => VX.ext hx9 (by omega) (HV8.out hf)
      have HB : Hid (∀ hf : (mu Tp.mRb z.2).2 = fine, z.2.2 = fine) := fun hf => mu_fine hf
      clear hst8 hx8 hk8 hx9 HV8
      go_wp2_with fail
      refine bodyPost_ret (v := .pointer (some ⟨xb, 0, none⟩)) (by simp [results, Tryz.results67, go_sem]) rfl ?_
      rw [HYZ.out]
      refine ⟨xb, 3, ([] : List UInt8), a1, p7, none, 0, 0, z.1, [], rfl, hxw, hk9, rfl, Or.inr fun hf => (HV9.out (HB.out hf)).base (by omega), fun hf => ?_, hst9, hx9'⟩
      exact VX.node hxw hk9 (Or.inr ((HV9.out (HB.out hf)).base (by omega))) (Or.inl ⟨rfl, rfl⟩) (Or.inl ⟨rfl, rfl⟩)
    | false =>
      rw [tk_false hlb] at hst5
      go_wp2_with fail
      refine (rtake_s hst5 Tp.mLp (by decide) _ rfl).mono ?_
      rintro e w6 ⟨rfl, hst6, hx6⟩
      have hk6 := (hx6.block xb (lt_blk hk5) (by omega)).trans hk5
      have hx6' := hx5'.trans hx6
      clear hst5 hx5' hk5 hx6
      cases hlp : tk Tp.mLp s1 with
      | false =>
        have HYZ := Lib.hid (naft_no HY2.out hlb hlp)
        rw [tk_false hlp] at hst6
        clear hlb hlp
        go_wp2_with fail
        refine bodyPost_ret (v := .pointer (some ⟨xb, 0, none⟩)) (by simp [results, Tryz.results67, go_sem]) rfl ?_
        rw [HYZ.out]
        exact ⟨xb, 2, ([] : List UInt8), a1, none, none, 0, 0, [], [], rfl, hxw, hk6, rfl, Or.inl ⟨rfl, rfl⟩, fun hf => VX.node hxw hk6 (Or.inl ⟨rfl, rfl⟩) (Or.inl ⟨rfl, rfl⟩) (Or.inl ⟨rfl, rfl⟩), hst6, hx6'⟩
      | true =>
        obtain ⟨z, hz, hyz⟩ := naft_lp HY2.out hlb hlp
        rw [(tk_true hlp).2.2] at hst6
        have HZ := Lib.hid hz
        have HYZ := Lib.hid hyz
        clear hlb hlp hz hyz
        have c0 : w6.cell? ⟨xb, 0, none⟩ = some (.int .i64 2) := cell_blk hk6
        have z0 : w6.frozen? ⟨xb, 0, none⟩ = false := frozen_blk hk6
        obtain ⟨hst7, hx7, hk7⟩ := fld (i := 0) (v := .int .i64 6) hst6 hx6' hk6 hxw hpl
        have hk7 : (w6.setCell ⟨xb, 0, none⟩ (.int .i64 6)).heap[xb]? = some (.cells #[.int .i64 6, .int .i64 (pos : Int), .int .i64 0, .string (bs ([] : List UInt8)), .string (bs a1), .string ⟨#[]⟩, .pointer none, .pointer none, .slice none 0 0] 108 (0, 0)) := hk7
        clear hst6 hx6' hk6
        go_wp2_with fail
        clear c0 z0
        generalize w6.setCell ⟨xb, 0, none⟩ (.int .i64 6) = w7 at *
        have hsl : (stp s1.1).length ≤ 1000 := by obtain ⟨_, _, _, h4⟩ := hst7.hd; simp only at h4; omega
        go_loopg [6] g (fun gk vf wr => ∃ (l : List X) (vs : List Value) (s' : Sx) (fb : Bool) (aa : Option Addr) (ac : Nat), gk ≤ g ∧ vf = .bool fb ∧ vs.length + s'.1.length ≤ 1001 ∧ (fb = true → vs.length = 0) ∧ Hid (wr.heap[xb]? = some (.cells #[.int .i64 6, .int .i64 (pos : Int), .int .i64 0, .string (bs ([] : List UInt8)), .string (bs a1), .string ⟨#[]⟩, .pointer none, .pointer none, .slice aa vs.length ac] 108 (0, 0))) ∧ Hid (s'.2 = fine → RepL wr (fun b => xb + 1 ≤ b ∧ (Value.slice aa vs.length ac).ownBlock ≠ some b) l vs) ∧ Hid (wr.ownsRow (xb + 1) 95 1 (.slice aa vs.length ac) vs.length vs) ∧ RX wr q ts s' ∧ Hid (Ext q.rb w wr) ∧ Hid (nex gk 7 ones (if fb then 1 else 0) l s' = some z ∨ (¬ s'.2 = fine ∧ z = (l, s'))))
        case atStart => exact ⟨[], [], _, true, none, 0, Nat.le_refl _, rfl, by simp; omega, fun _ => rfl, hk7, fun _ => by rw [RepL], World.ownsRow_nil _ _ _ _, hst7, hx7, Or.inl HZ.out⟩
        case round =>
          obtain ⟨l, vs, s', fb, aa, ac, hgk, rfl, hvl, hfb, HK, HR, HO, hst, HX, HS⟩ := hrel
          clear hst7 hx7 hk7 HZ hsl
          have HEND : Hid (∀ W, z.1 = l → (z.2.2 = fine → RepL W (fun b => xb + 1 ≤ b ∧ (Value.slice aa vs.length ac).ownBlock ≠ some b) l vs) → W.ownsRow (xb + 1) 95 1 (.slice aa vs.length ac) vs.length vs → W.heap[xb]? = some (.cells #[.int .i64 6, .int .i64 (pos : Int), .int .i64 0, .string (bs ([] : List UInt8)), .string (bs a1), .string ⟨#[]⟩, .pointer none, .pointer none, .slice aa vs.length ac] 108 (0, 0)) → RX W q ts z.2 → Ext q.rb w W → RefPost q ts w pos y (.returned (.pointer (some ⟨xb, 0, none⟩))) W) := fun W hl hr hown hk hrx hext => by
            rw [HYZ.out]
            refine ⟨xb, 6, ([] : List UInt8), a1, none, aa, vs.length, ac, [], z.1, rfl, hxw, hk, rfl, Or.inl ⟨rfl, rfl⟩, fun hf => ?_, hrx, hext⟩
            rw [hl]
            exact VX.node hxw hk (Or.inl ⟨rfl, rfl⟩) (Or.inl ⟨rfl, rfl⟩) (Or.inr (VA.base ⟨vs, hr hf, hown⟩ (by omega)))
          by_cases hf : s'.2 = fine
          rotate_left
          · have HE : Hid (z = (l, s')) := by
              rcases HS.out with h | h
              · cases gk with
                | zero => simp [nex] at h
                | succ g' => exact nex7_bad' h hf
              · exact h.2
            have HD := Lib.hid (decide_eq_false hf)
            have HNF := Lib.hid hf
            clear hf
            go_wp2_with fail
            refine (rok_s hst).mono ?_
            rintro e w8 ⟨rfl, hb8⟩
            rw [HD.out]
            have h8 := hst.below hb8
            have hFIN := HEND.out w8 (by rw [HE.out]) (fun hf => absurd (by rw [HE.out] at hf; exact hf) HNF.out) (owns_ext HO.out (Ext.below (b := q.rb) hb8) (by omega)) ((hb8.block xb (lt_blk HK.out)).trans HK.out) (by rw [HE.out]; exact h8) (HX.out.trans (Ext.below hb8))
            go_wp2_with fail
            exact bodyPost_ret (v := .pointer (some ⟨xb, 0, none⟩)) (by simp [results, Tryz.results67, go_sem]) rfl hFIN
          · have HD := Lib.hid (decide_eq_true hf)
            have HF := Lib.hid hf
            have HS0 : Hid (nex gk 7 ones (if fb then 1 else 0) l s' = some z) := by
              rcases HS.out with h | h
              · exact h
              · exact absurd hf h.1
            clear hf HS
            obtain ⟨g', rfl⟩ : ∃ g', gk = g' + 1 := by
              cases gk with
              | zero => have := HS0.out; simp [nex] at this
              | succ g' => exact ⟨g', rfl⟩
            go_wp2_with fail
            refine (rok_s hst).mono ?_
            rintro e w8 ⟨rfl, hb8⟩
            rw [HD.out]
            have h8 := hst.below hb8
            have HO8 := Lib.hid (owns_ext HO.out (Ext.below (b := q.rb) hb8) (by omega))
            have HK8 := Lib.hid ((hb8.block xb (lt_blk HK.out)).trans HK.out)
            have HR8 := Lib.hid (RepL.ext (Ext.below (b := q.rb) hb8) (by omega) (HR.out HF.out))
            have HX8 := Lib.hid (HX.out.trans (Ext.below hb8))
            clear hst HO HK HR HX hb8
            go_wp2_with fail
            refine (rtake_s h8 Tp.mRp (by decide) _ rfl).mono ?_
            rintro e w9 ⟨rfl, hst9, hx9⟩
            have HO9 := Lib.hid (owns_ext HO8.out hx9 (by omega))
            have HK9 := Lib.hid ((hx9.block xb (lt_blk HK8.out) (by omega)).trans HK8.out)
            have HR9 := Lib.hid (RepL.ext hx9 (by omega) HR8.out)
            have HX9 := Lib.hid (HX8.out.trans hx9)
            clear h8 HO8 HK8 HR8 HX8 hx9
            cases hrp : tk Tp.mRp s' with
            | true =>
              have HE := Lib.hid (nex7_end HS0.out HF.out (tk_true hrp).2.1)
              rw [(tk_true hrp).2.2] at hst9
              have hFIN := HEND.out w9 (by rw [HE.out]) (fun _ => HR9.out) HO9.out HK9.out (by rw [HE.out]; exact hst9) HX9.out
              go_wp2_with fail
              exact bodyPost_ret (v := .pointer (some ⟨xb, 0, none⟩)) (by simp [results, Tryz.results67, go_sem]) rfl hFIN
            | false =>
              rw [tk_false hrp] at hst9
              have hnr : ¬ tx s'.1 = Tp.mRp := fun e => by have := of_decide_eq_false hrp; exact this ⟨HF.out, e⟩
              have HS1 := Lib.hid (fun s1 h1 => nex7_on (s1 := s1) HS0.out HF.out hnr h1)
              clear hrp hnr HS0 HEND
              have hs9 := hst9.hd
              have hl9 : s'.1.length ≤ 1000 := by omega
              cases fb with
              | true =>
                have hs1 := HS1.out s' (by simp)
                rcases hs1 with hs1 | ⟨_, z1, hz1, hyz1⟩
                · exact absurd HF.out hs1.1
                have hv0 : vs.length = 0 := hfb rfl
                have HL1 : Hid (vs.length + 1 + z1.2.1.length ≤ 1001) := by have := Nr.nex_len g' 0 (ones + 1) 0 [] (s'.1, fine) 1000 hl9 z1 hz1; show _ ≤ _; omega
                have hrx : RS w9 q ts s'.1 fine := by have := hst9; unfold RX at this; rw [HF.out] at this; exact this
                have HC := Lib.hid (fun W hW => HL.out g' (by omega) W s'.1 z1 hW hz1)
                have HY1 := Lib.hid hyz1
                have HRO := Lib.hid (rok_f hrx)
                clear hz1 hyz1 HS1 hst9 hs9 hv0 hfb
                go_wp2_with fail
                refine HRO.out.mono ?_
                rintro e w10 ⟨rfl, hb10⟩
                have hrx10 := hrx.below hb10
                have HO10 := Lib.hid (owns_ext HO9.out (Ext.below (b := q.rb) hb10) (by omega))
                have HK10 := Lib.hid ((hb10.block xb (lt_blk HK9.out)).trans HK9.out)
                have HR10 := Lib.hid (RepL.ext (Ext.below (b := q.rb) hb10) (by omega) HR9.out)
                have HX10 := Lib.hid (HX9.out.trans (Ext.below hb10))
                clear hrx HO9 HK9 HR9 HX9 hb10 HRO
                have hxl10 := lt_blk HK10.out
                have k8 : w10.cell? ⟨xb, 8, none⟩ = some (.slice aa vs.length ac) := cell_blk HK10.out
                have z8 : w10.frozen? ⟨xb, 8, none⟩ = false := frozen_blk HK10.out
                have HC1 : Hid (Calls Tryz.prog 94 #[.pointer (some ⟨q.rb, 0, none⟩), .int .i64 0, .int .i64 (IntKind.i64.wrap ((ones : Int) + 1))] w10.drew fun e w' => RPost q ts w10.drew z1 e w') := by rw [HWR.out]; exact HC.out w10.drew (hrx10.below (below_drew w10))
                have hsz10 := HX10.out.size
                have hown : ∀ gq, (Value.slice aa vs.length ac).ownBlock = some gq → xb + 1 ≤ gq := owns_row HO10.out
                have HOW := Lib.hid hown
                have HOL : Hid (∀ gq, (Value.slice aa vs.length ac).ownBlock = some gq → gq < w10.heap.size) := fun gq hgq => (HO10.out.lt gq hgq).2
                clear hown
                go_wp2_with fail
                go_region_law (first | (refine step_wanted rfl ?_; go_simp; go_at_call 94; refine HC1.out.mono ?_; rintro e w11 ⟨p11, rfl, hv11, hst11, hx11⟩; have HK11 := Lib.hid ((((Ext.below (b := q.rb) (below_drew w10)).trans hx11).block xb hxl10 (by omega)).trans HK10.out); have HO11 := Lib.hid (owns_ext HO10.out ((Ext.below (b := q.rb) (below_drew w10)).trans hx11) (by omega)); have k11 : w11.cell? ⟨xb, 8, none⟩ = some (.slice aa vs.length ac) := cell_blk HK11.out; have z11 : w11.frozen? ⟨xb, 8, none⟩ = false := frozen_blk HK11.out; have hxl11 := lt_blk HK11.out; have k11a : ∀ o', (w11.alloc o').cell? ⟨xb, 8, none⟩ = some (.slice aa vs.length ac) := fun o' => cell_alloc k11 o') | (refine step_append_where rfl (.tmp 71) (.tmp 76) 106 rfl (xb + 1) 95 i3 (.pointer none) 1 8 Tryz.underlying106 hi3 hz30 hz31 hz32 rfl (by decide) (.slice aa vs.length ac) vs.length vs (by simp [Act.eval]) (HO11.out.alloc _) ⟨w11.heap.size, 0, none⟩ 1 1 [.pointer p11] (by simp [Act.eval]) rfl (news1' w11 _ _) (by intro u hu; simp at hu; subst hu; rfl) (by unfold maxLen; omega) (by omega) (by simp; omega) ?_; intro v' w12 hown12 hgrow12 hwhere12; have hb12 : Below (xb + 1) w11 w12 := ((Below.refl _ _).alloc (by omega) _).trans ((Below.refl _ _).grown hgrow12 (by simp; omega) HOW.out); have HK12 := Lib.hid ((hb12.block xb (by omega)).trans HK11.out); have k12 : w12.cell? ⟨xb, 8, none⟩ = some (.slice aa vs.length ac) := cell_blk HK12.out; have z12 : w12.frozen? ⟨xb, 8, none⟩ = false := frozen_blk HK12.out; obtain ⟨na, nc, hvv⟩ := owns_shape hown12; subst hvv))
                all_goals
                  have HV11 := Lib.hid hv11
                  have hst12 : RX w12 q ts z1.2 := hst11.belowB hb12 (by omega)
                  have hx12 : Ext q.rb w w12 := ((HX10.out.trans (Ext.below (below_drew w10))).trans hx11).trans' (hb12.mono (by omega))
                  obtain ⟨hst13, hx13, hk13⟩ := fld (i := 8) (v := .slice na (vs.length + 1) nc) hst12 hx12 HK12.out hxw hpl
                  have HK13 : Hid ((w12.setCell ⟨xb, 8, none⟩ (.slice na (vs.length + 1) nc)).heap[xb]? = some (.cells #[.int .i64 6, .int .i64 (pos : Int), .int .i64 0, .string (bs ([] : List UInt8)), .string (bs a1), .string ⟨#[]⟩, .pointer none, .pointer none, .slice na (vs ++ [Value.pointer p11]).length nc] 108 (0, 0))) := by rw [List.length_append]; exact hk13
                  have HX13 := Lib.hid hx13
                  have HO13 : Hid ((w12.setCell ⟨xb, 8, none⟩ (.slice na (vs.length + 1) nc)).ownsRow (xb + 1) 95 1 (.slice na (vs ++ [Value.pointer p11]).length nc) (vs ++ [Value.pointer p11]).length (vs ++ [Value.pointer p11])) := by rw [List.length_append]; exact owns_ext hown12 ((Ext.refl xb w12).set 8 _) (by omega)
                  have HR13 : Hid (z1.2.2 = fine → RepL (w12.setCell ⟨xb, 8, none⟩ (.slice na (vs.length + 1) nc)) (fun b => xb + 1 ≤ b ∧ (Value.slice na (vs ++ [Value.pointer p11]).length nc).ownBlock ≠ some b) (l ++ z1.1) (vs ++ [Value.pointer p11])) := fun hf => by
                    have h1 : RepL w11 (fun b => xb + 1 ≤ b ∧ (Value.slice aa vs.length ac).ownBlock ≠ some b) l vs := RepL.ext ((Ext.below (b := q.rb) (below_drew w10)).trans hx11) (by omega) HR10.out
                    have h2 : RepL w11 (fun b => xb + 1 ≤ b ∧ (Value.slice aa vs.length ac).ownBlock ≠ some b) z1.1 [.pointer p11] := RepL.of_new (HV11.out hf) (show xb + 1 ≤ w10.drew.heap.size by simpa using Nat.succ_le_of_lt hxl10) (fun gq hgq => by simpa using HOL.out gq hgq)
                    have h3 := (VA.snoc (h1.alloc _) (h2.alloc _) hown12 hgrow12 (by simpa using hwhere12)).1
                    have h4 := RepL.ext ((Ext.refl xb w12).set 8 (.slice na (vs.length + 1) nc)) (by omega) h3
                    rw [List.length_append]
                    exact h4
                  clear hv11 hst11 hx11 hown12 hgrow12 hwhere12 hb12 hst12 hx12 hx13 hk13 HK12 k12 z12 k11 z11 k11a HK11 HO11 HV11 k8 z8
                  go_wp2_with fail
                  go_roundg g'
                  case measure => omega
                  case rel => exact ⟨l ++ z1.1, vs ++ [Value.pointer p11], z1.2, false, na, nc, by omega, rfl, by have := HL1.out; simp; omega, (fun h => by cases h), HK13, HR13, HO13, hst13, HX13, Or.inl HY1.out⟩
              | false =>
                have hs1 := HS1.out (mu Tp.mComma s') (by simp)
                clear hfb
                go_wp2_with fail
                refine (rmust_s hst9 Tp.mComma (by decide) _ rfl).mono ?_
                rintro e w9b ⟨rfl, hst9b, hx9b⟩
                have HO9b := Lib.hid (owns_ext HO9.out hx9b (by omega))
                have HK9b := Lib.hid ((hx9b.block xb (lt_blk HK9.out) (by omega)).trans HK9.out)
                have HR9b := Lib.hid (RepL.ext hx9b (by omega) HR9.out)
                have HX9b := Lib.hid (HX9.out.trans hx9b)
                have hlm : (mu Tp.mComma s').1.length ≤ s'.1.length := Nr.len_mu _ _
                have HLC : Hid ((mu Tp.mComma s').2 = fine → (mu Tp.mComma s').1.length + 1 ≤ s'.1.length) := fun hf => by
                  have hc : tx s'.1 = Tp.mComma := mu_tx hf
                  have hk : (hd s'.1).kind ≠ 0 := fun hk => by have := hst9.txt _ (List.mem_of_getElem? hs9.1) hk; simp only [tx] at hc; rw [hc] at this; cases this
                  obtain ⟨y1, _, y3, _, _⟩ := hst9.stp_of hk
                  have e : (mu Tp.mComma s').1 = stp s'.1 := by unfold mu; rw [if_pos ⟨mu_fine hf, hc⟩]
                  rw [e, y1]; omega
                clear HO9 HK9 HR9 HX9 hx9b hst9 HS1
                generalize mu Tp.mComma s' = s1 at *
                rcases hs1 with ⟨hb1, hz1⟩ | ⟨hf1, z1, hz1, hyz1⟩
                · have HZ1 := Lib.hid hz1
                  have HB1 := Lib.hid hb1
                  have HRO := Lib.hid (rok_b hst9b hb1)
                  clear hb1 hz1
                  go_wp2_with fail
                  refine HRO.out.mono ?_
                  rintro e w10 ⟨rfl, hb10⟩
                  have hst10 : RX w10 q ts s1 := hst9b.below hb10
                  have HO10 := Lib.hid (owns_ext HO9b.out (Ext.below (b := q.rb) hb10) (by omega))
                  have HK10 := Lib.hid ((hb10.block xb (lt_blk HK9b.out)).trans HK9b.out)
                  have HX10 := Lib.hid (HX9b.out.trans (Ext.below hb10))
                  clear hst9b HO9b HK9b HR9b HX9b hb10 HRO
                  go_wp2_with fail
                  go_roundg g'
                  case measure => omega
                  case rel => exact ⟨l, vs, s1, false, aa, ac, by omega, rfl, by omega, (fun h => by cases h), HK10, fun hf => absurd hf HB1.out, HO10, hst10, HX10, Or.inr ⟨HB1.out, HZ1.out⟩⟩
                · have hlc := HLC.out hf1
                  have HL1 : Hid (vs.length + 1 + z1.2.1.length ≤ 1001) := by have := Nr.nex_len g' 0 (ones + 1) 0 [] (s1.1, fine) s1.1.length (Nat.le_refl _) z1 hz1; show _ ≤ _; omega
                  have hrx : RS w9b q ts s1.1 fine := by have := hst9b; unfold RX at this; rw [hf1] at this; exact this
                  have HC := Lib.hid (fun W hW => HL.out g' (by omega) W s1.1 z1 hW hz1)
                  have HY1 := Lib.hid hyz1
                  have HRO := Lib.hid (rok_f hrx)
                  clear hf1 hz1 hyz1 hst9b
                  go_wp2_with fail
                  refine HRO.out.mono ?_
                  rintro e w10 ⟨rfl, hb10⟩
                  have hrx10 := hrx.below hb10
                  have HO10 := Lib.hid (owns_ext HO9b.out (Ext.below (b := q.rb) hb10) (by omega))
                  have HK10 := Lib.hid ((hb10.block xb (lt_blk HK9b.out)).trans HK9b.out)
                  have HR10 := Lib.hid (RepL.ext (Ext.below (b := q.rb) hb10) (by omega) HR9b.out)
                  have HX10 := Lib.hid (HX9b.out.trans (Ext.below hb10))
                  clear hrx HO9b HK9b HR9b HX9b hb10 HRO
                  have hxl10 := lt_blk HK10.out
                  have k8 : w10.cell? ⟨xb, 8, none⟩ = some (.slice aa vs.length ac) := cell_blk HK10.out
                  have z8 : w10.frozen? ⟨xb, 8, none⟩ = false := frozen_blk HK10.out
                  have HC1 : Hid (Calls Tryz.prog 94 #[.pointer (some ⟨q.rb, 0, none⟩), .int .i64 0, .int .i64 (IntKind.i64.wrap ((ones : Int) + 1))] w10.drew fun e w' => RPost q ts w10.drew z1 e w') := by rw [HWR.out]; exact HC.out w10.drew (hrx10.below (below_drew w10))
                  have hsz10 := HX10.out.size
                  have hown : ∀ gq, (Value.slice aa vs.length ac).ownBlock = some gq → xb + 1 ≤ gq := owns_row HO10.out
                  have HOW := Lib.hid hown
                  have HOL : Hid (∀ gq, (Value.slice aa vs.length ac).ownBlock = some gq → gq < w10.heap.size) := fun gq hgq => (HO10.out.lt gq hgq).2
                  clear hown
                  go_wp2_with fail
                  go_region_law (first | (refine step_wanted rfl ?_; go_simp; go_at_call 94; refine HC1.out.mono ?_; rintro e w11 ⟨p11, rfl, hv11, hst11, hx11⟩; have HK11 := Lib.hid ((((Ext.below (b := q.rb) (below_drew w10)).trans hx11).block xb hxl10 (by omega)).trans HK10.out); have HO11 := Lib.hid (owns_ext HO10.out ((Ext.below (b := q.rb) (below_drew w10)).trans hx11) (by omega)); have k11 : w11.cell? ⟨xb, 8, none⟩ = some (.slice aa vs.length ac) := cell_blk HK11.out; have z11 : w11.frozen? ⟨xb, 8, none⟩ = false := frozen_blk HK11.out; have hxl11 := lt_blk HK11.out; have k11a : ∀ o', (w11.alloc o').cell? ⟨xb, 8, none⟩ = some (.slice aa vs.length ac) := fun o' => cell_alloc k11 o') | (refine step_append_where rfl (.tmp 71) (.tmp 76) 106 rfl (xb + 1) 95 i3 (.pointer none) 1 8 Tryz.underlying106 hi3 hz30 hz31 hz32 rfl (by decide) (.slice aa vs.length ac) vs.length vs (by simp [Act.eval]) (HO11.out.alloc _) ⟨w11.heap.size, 0, none⟩ 1 1 [.pointer p11] (by simp [Act.eval]) rfl (news1' w11 _ _) (by intro u hu; simp at hu; subst hu; rfl) (by unfold maxLen; omega) (by omega) (by simp; omega) ?_; intro v' w12 hown12 hgrow12 hwhere12; have hb12 : Below (xb + 1) w11 w12 := ((Below.refl _ _).alloc (by omega) _).trans ((Below.refl _ _).grown hgrow12 (by simp; omega) HOW.out); have HK12 := Lib.hid ((hb12.block xb (by omega)).trans HK11.out); have k12 : w12.cell? ⟨xb, 8, none⟩ = some (.slice aa vs.length ac) := cell_blk HK12.out; have z12 : w12.frozen? ⟨xb, 8, none⟩ = false := frozen_blk HK12.out; obtain ⟨na, nc, hvv⟩ := owns_shape hown12; subst hvv))
                  all_goals
                    have HV11 := Lib.hid hv11
                    have hst12 : RX w12 q ts z1.2 := hst11.belowB hb12 (by omega)
                    have hx12 : Ext q.rb w w12 := ((HX10.out.trans (Ext.below (below_drew w10))).trans hx11).trans' (hb12.mono (by omega))
                    obtain ⟨hst13, hx13, hk13⟩ := fld (i := 8) (v := .slice na (vs.length + 1) nc) hst12 hx12 HK12.out hxw hpl
                    have HK13 : Hid ((w12.setCell ⟨xb, 8, none⟩ (.slice na (vs.length + 1) nc)).heap[xb]? = some (.cells #[.int .i64 6, .int .i64 (pos : Int), .int .i64 0, .string (bs ([] : List UInt8)), .string (bs a1), .string ⟨#[]⟩, .pointer none, .pointer none, .slice na (vs ++ [Value.pointer p11]).length nc] 108 (0, 0))) := by rw [List.length_append]; exact hk13
                    have HX13 := Lib.hid hx13
                    have HO13 : Hid ((w12.setCell ⟨xb, 8, none⟩ (.slice na (vs.length + 1) nc)).ownsRow (xb + 1) 95 1 (.slice na (vs ++ [Value.pointer p11]).length nc) (vs ++ [Value.pointer p11]).length (vs ++ [Value.pointer p11])) := by rw [List.length_append]; exact owns_ext hown12 ((Ext.refl xb w12).set 8 _) (by omega)
                    have HR13 : Hid (z1.2.2 = fine → RepL (w12.setCell ⟨xb, 8, none⟩ (.slice na (vs.length + 1) nc)) (fun b => xb + 1 ≤ b ∧ (Value.slice na (vs ++ [Value.pointer p11]).length nc).ownBlock ≠ some b) (l ++ z1.1) (vs ++ [Value.pointer p11])) := fun hf => by
                      have h1 : RepL w11 (fun b => xb + 1 ≤ b ∧ (Value.slice aa vs.length ac).ownBlock ≠ some b) l vs := RepL.ext ((Ext.below (b := q.rb) (below_drew w10)).trans hx11) (by omega) HR10.out
                      have h2 : RepL w11 (fun b => xb + 1 ≤ b ∧ (Value.slice aa vs.length ac).ownBlock ≠ some b) z1.1 [.pointer p11] := RepL.of_new (HV11.out hf) (show xb + 1 ≤ w10.drew.heap.size by simpa using Nat.succ_le_of_lt hxl10) (fun gq hgq => by simpa using HOL.out gq hgq)
                      have h3 := (VA.snoc (h1.alloc _) (h2.alloc _) hown12 hgrow12 (by simpa using hwhere12)).1
                      have h4 := RepL.ext ((Ext.refl xb w12).set 8 (.slice na (vs.length + 1) nc)) (by omega) h3
                      rw [List.length_append]
                      exact h4
                    clear hv11 hst11 hx11 hown12 hgrow12 hwhere12 hb12 hst12 hx12 hx13 hk13 HK12 k12 z12 k11 z11 k11a HK11 HO11 HV11 k8 z8
                    go_wp2_with fail
                    go_roundg g'
                    case measure => omega
                    case rel => exact ⟨l ++ z1.1, vs ++ [Value.pointer p11], z1.2, false, na, nc, by omega, rfl, by have := HL1.out; simp; omega, (fun h => by cases h), HK13, HR13, HO13, hst13, HX13, Or.inl HY1.out⟩
  | true =>
    rw [hdot] at HYY
    have HY2 : Hid (naft g ones pos a1 (nm (tkS Tp.mDot s1)).1 (nm (tkS Tp.mDot s1)).2 = some y) := HYY
    clear HYY HY hdot
    have c4 : w3.cell? ⟨xb, 4, none⟩ = some (.string (bs a1)) := cell_blk hk3
    have c3 : w3.cell? ⟨xb, 3, none⟩ = some (.string ⟨#[]⟩) := cell_blk hk3
    have z3 : w3.frozen? ⟨xb, 3, none⟩ = false := frozen_blk hk3
    obtain ⟨hst3a, hx3a, hk3a⟩ := fld (i := 3) (v := .string (bs a1)) hst3 hx3' hk3 hxw hpl
    have hk3a : (w3.setCell ⟨xb, 3, none⟩ (.string (bs a1))).heap[xb]? = some (.cells #[.int .i64 2, .int .i64 (pos : Int), .int .i64 0, .string (bs a1), .string (bs a1), .string ⟨#[]⟩, .pointer none, .pointer none, .slice none 0 0] 108 (0, 0)) := hk3a
    clear hst3 hx3' hk3
    go_wp2_with fail
    clear c4 c3 z3
    generalize w3.setCell ⟨xb, 3, none⟩ (.string (bs a1)) = w3a at *
    refine (rname_s hst3a).mono ?_
    rintro e w4 ⟨rfl, hst4, hx4⟩
    have hk4 := (hx4.block xb (lt_blk hk3a) (by omega)).trans hk3a
    have hx4' := hx3a.trans hx4
    clear hst3a hx3a hk3a hx4
    generalize nm (tkS Tp.mDot s1) = n2 at *
    obtain ⟨a2, s2⟩ := n2
    have HY3 : Hid (naft g ones pos a1 a2 s2 = some y) := HY2.out
    clear HY2
    have c4 : w4.cell? ⟨xb, 4, none⟩ = some (.string (bs a1)) := cell_blk hk4
    have z4 : w4.frozen? ⟨xb, 4, none⟩ = false := frozen_blk hk4
    obtain ⟨hst4a, hx4a, hk4a⟩ := fld (i := 4) (v := .string (bs a2)) hst4 hx4' hk4 hxw hpl
    have hk4a : (w4.setCell ⟨xb, 4, none⟩ (.string (bs a2))).heap[xb]? = some (.cells #[.int .i64 2, .int .i64 (pos : Int), .int .i64 0, .string (bs a1), .string (bs a2), .string ⟨#[]⟩, .pointer none, .pointer none, .slice none 0 0] 108 (0, 0)) := hk4a
    clear hst4 hx4' hk4
    go_wp2_with fail
    clear c4 z4
    generalize w4.setCell ⟨xb, 4, none⟩ (.string (bs a2)) = w4a at *
    refine (rtake_s hst4a Tp.mLb (by decide) _ rfl).mono ?_
    rintro e w5 ⟨rfl, hst5, hx5⟩
    have hk5 := (hx5.block xb (lt_blk hk4a) (by omega)).trans hk4a
    have hx5' := hx4a.trans hx5
    clear hst4a hx4a hk4a hx5
    cases hlb : tk Tp.mLb s2 with
    | true =>
      obtain ⟨z, hz, hyz⟩ := naft_lb HY3.out hlb
      rw [(tk_true hlb).2.2] at hst5
      have HZ := Lib.hid hz
      have HYZ := Lib.hid hyz
      clear hlb hz hyz
      have c0 : w5.cell? ⟨xb, 0, none⟩ = some (.int .i64 2) := cell_blk hk5
      have z0 : w5.frozen? ⟨xb, 0, none⟩ = false := frozen_blk hk5
      obtain ⟨hst6, hx6, hk6⟩ := fld (i := 0) (v := .int .i64 3) hst5 hx5' hk5 hxw hpl
      have hk6 : (w5.setCell ⟨xb, 0, none⟩ (.int .i64 3)).heap[xb]? = some (.cells #[.int .i64 3, .int .i64 (pos : Int), .int .i64 0, .string (bs a1), .string (bs a2), .string ⟨#[]⟩, .pointer none, .pointer none, .slice none 0 0] 108 (0, 0)) := hk6
      clear hst5 hx5' hk5
      go_wp2_with fail
      clear c0 z0
      generalize w5.setCell ⟨xb, 0, none⟩ (.int .i64 3) = w6 at *
      refine (HL.out g (Nat.le_refl _) w6 (stp s2.1) z hst6 HZ.out).mono ?_
      rintro e w7 ⟨p7, rfl, hv7, hst7, hx7⟩
      have hk7 := (hx7.block xb (lt_blk hk6) (by omega)).trans hk6
      have hx7' := hx6.trans hx7
      have hsz6 := hx6.size
      have hlt6 := lt_blk hk6
      have c6 : w7.cell? ⟨xb, 6, none⟩ = some (.pointer none) := cell_blk hk7
      have z6 : w7.frozen? ⟨xb, 6, none⟩ = false := frozen_blk hk7
      obtain ⟨hst8, hx8, hk8⟩ := fld (i := 6) (v := .pointer p7) hst7 hx7' hk7 hxw hpl
      have hk8 : (w7.setCell ⟨xb, 6, none⟩ (.pointer p7)).heap[xb]? = some (.cells #[.int .i64 3, .int .i64 (pos : Int), .int .i64 0, .string (bs a1), .string (bs a2), .string ⟨#[]⟩, .pointer p7, .pointer none, .slice none 0 0] 108 (0, 0)) := hk8
      have HV8 : Hid (z.2.2 = fine → VX (xb + 1) z.1 (.pointer p7) (w7.setCell ⟨xb, 6, none⟩ (.pointer p7))) := fun hf => VX.ext (b := xb) ((Ext.refl xb w7).set 6 _) (by omega) ((hv7 hf).base (by omega))
      clear hst6 hx6 hk6 hst7 hx7 hx7' hk7 hv7
      go_wp2_with fail
      clear c6 z6
      generalize w7.setCell ⟨xb, 6, none⟩ (.pointer p7) = w8 at *
      refine (rmust_s hst8 Tp.mRb (by decide) _ rfl).mono ?_
      rintro e w9 ⟨rfl, hst9, hx9⟩
      have hk9 := (hx9.block xb (lt_blk hk8) (by omega)).trans hk8
      have hx9' := hx8.trans hx9
      have HV9 : Hid (z.2.2 = fine → VX (xb + 1) z.1 (.pointer p7) w9) := fun hf => VX.ext hx9 (by omega) (HV8.out hf)
      have HB : Hid (∀ hf : (mu Tp.mRb z.2).2 = fine, z.2.2 = fine) := fun hf => mu_fine hf
      clear hst8 hx8 hk8 hx9 HV8
      go_wp2_with fail
      refine bodyPost_ret (v := .pointer (some ⟨xb, 0, none⟩)) (by simp [results, Tryz.results67, go_sem]) rfl ?_
      rw [HYZ.out]
      refine ⟨xb, 3, a1, a2, p7, none, 0, 0, z.1, [], rfl, hxw, hk9, rfl, Or.inr fun hf => (HV9.out (HB.out hf)).base (by omega), fun hf => ?_, hst9, hx9'⟩
      exact VX.node hxw hk9 (Or.inr ((HV9.out (HB.out hf)).base (by omega))) (Or.inl ⟨rfl, rfl⟩) (Or.inl ⟨rfl, rfl⟩)
    | false =>
      rw [tk_false hlb] at hst5
      go_wp2_with fail
      refine (rtake_s hst5 Tp.mLp (by decide) _ rfl).mono ?_
      rintro e w6 ⟨rfl, hst6, hx6⟩
      have hk6 := (hx6.block xb (lt_blk hk5) (by omega)).trans hk5
      have hx6' := hx5'.trans hx6
      clear hst5 hx5' hk5 hx6
      cases hlp : tk Tp.mLp s2 with
      | false =>
        have HYZ := Lib.hid (naft_no HY3.out hlb hlp)
        rw [tk_false hlp] at hst6
        clear hlb hlp
        go_wp2_with fail
        refine bodyPost_ret (v := .pointer (some ⟨xb, 0, none⟩)) (by simp [results, Tryz.results67, go_sem]) rfl ?_
        rw [HYZ.out]
        exact ⟨xb, 2, a1, a2, none, none, 0, 0, [], [], rfl, hxw, hk6, rfl, Or.inl ⟨rfl, rfl⟩, fun hf => VX.node hxw hk6 (Or.inl ⟨rfl, rfl⟩) (Or.inl ⟨rfl, rfl⟩) (Or.inl ⟨rfl, rfl⟩), hst6, hx6'⟩
      | true =>
        obtain ⟨z, hz, hyz⟩ := naft_lp HY3.out hlb hlp
        rw [(tk_true hlp).2.2] at hst6
        have HZ := Lib.hid hz
        have HYZ := Lib.hid hyz
        clear hlb hlp hz hyz
        have c0 : w6.cell? ⟨xb, 0, none⟩ = some (.int .i64 2) := cell_blk hk6
        have z0 : w6.frozen? ⟨xb, 0, none⟩ = false := frozen_blk hk6
        obtain ⟨hst7, hx7, hk7⟩ := fld (i := 0) (v := .int .i64 6) hst6 hx6' hk6 hxw hpl
        have hk7 : (w6.setCell ⟨xb, 0, none⟩ (.int .i64 6)).heap[xb]? = some (.cells #[.int .i64 6, .int .i64 (pos : Int), .int .i64 0, .string (bs a1), .string (bs a2), .string ⟨#[]⟩, .pointer none, .pointer none, .slice none 0 0] 108 (0, 0)) := hk7
        clear hst6 hx6' hk6
        go_wp2_with fail
        clear c0 z0
        generalize w6.setCell ⟨xb, 0, none⟩ (.int .i64 6) = w7 at *
        have hsl : (stp s2.1).length ≤ 1000 := by obtain ⟨_, _, _, h4⟩ := hst7.hd; simp only at h4; omega
        go_loopg [6] g (fun gk vf wr => ∃ (l : List X) (vs : List Value) (s' : Sx) (fb : Bool) (aa : Option Addr) (ac : Nat), gk ≤ g ∧ vf = .bool fb ∧ vs.length + s'.1.length ≤ 1001 ∧ (fb = true → vs.length = 0) ∧ Hid (wr.heap[xb]? = some (.cells #[.int .i64 6, .int .i64 (pos : Int), .int .i64 0, .string (bs a1), .string (bs a2), .string ⟨#[]⟩, .pointer none, .pointer none, .slice aa vs.length ac] 108 (0, 0))) ∧ Hid (s'.2 = fine → RepL wr (fun b => xb + 1 ≤ b ∧ (Value.slice aa vs.length ac).ownBlock ≠ some b) l vs) ∧ Hid (wr.ownsRow (xb + 1) 95 1 (.slice aa vs.length ac) vs.length vs) ∧ RX wr q ts s' ∧ Hid (Ext q.rb w wr) ∧ Hid (nex gk 7 ones (if fb then 1 else 0) l s' = some z ∨ (¬ s'.2 = fine ∧ z = (l, s'))))
        case atStart => exact ⟨[], [], _, true, none, 0, Nat.le_refl _, rfl, by simp; omega, fun _ => rfl, hk7, fun _ => by rw [RepL], World.ownsRow_nil _ _ _ _, hst7, hx7, Or.inl HZ.out⟩
        case round =>
          obtain ⟨l, vs, s', fb, aa, ac, hgk, rfl, hvl, hfb, HK, HR, HO, hst, HX, HS⟩ := hrel
          clear hst7 hx7 hk7 HZ hsl
          have HEND : Hid (∀ W, z.1 = l → (z.2.2 = fine → RepL W (fun b => xb + 1 ≤ b ∧ (Value.slice aa vs.length ac).ownBlock ≠ some b) l vs) → W.ownsRow (xb + 1) 95 1 (.slice aa vs.length ac) vs.length vs → W.heap[xb]? = some (.cells #[.int .i64 6, .int .i64 (pos : Int), .int .i64 0, .string (bs a1), .string (bs a2), .string ⟨#[]⟩, .pointer none, .pointer none, .slice aa vs.length ac] 108 (0, 0)) → RX W q ts z.2 → Ext q.rb w W → RefPost q ts w pos y (.returned (.pointer (some ⟨xb, 0, none⟩))) W) := fun W hl hr hown hk hrx hext => by
            rw [HYZ.out]
            refine ⟨xb, 6, a1, a2, none, aa, vs.length, ac, [], z.1, rfl, hxw, hk, rfl, Or.inl ⟨rfl, rfl⟩, fun hf => ?_, hrx, hext⟩
            rw [hl]
            exact VX.node hxw hk (Or.inl ⟨rfl, rfl⟩) (Or.inl ⟨rfl, rfl⟩) (Or.inr (VA.base ⟨vs, hr hf, hown⟩ (by omega)))
          by_cases hf : s'.2 = fine
          rotate_left
          · have HE : Hid (z = (l, s')) := by
              rcases HS.out with h | h
              · cases gk with
                | zero => simp [nex] at h
                | succ g' => exact nex7_bad' h hf
              · exact h.2
            have HD := Lib.hid (decide_eq_false hf)
            have HNF := Lib.hid hf
            clear hf
            go_wp2_with fail
            refine (rok_s hst).mono ?_
            rintro e w8 ⟨rfl, hb8⟩
            rw [HD.out]
            have h8 := hst.below hb8
            have hFIN := HEND.out w8 (by rw [HE.out]) (fun hf => absurd (by rw [HE.out] at hf; exact hf) HNF.out) (owns_ext HO.out (Ext.below (b := q.rb) hb8) (by omega)) ((hb8.block xb (lt_blk HK.out)).trans HK.out) (by rw [HE.out]; exact h8) (HX.out.trans (Ext.below hb8))
            go_wp2_with fail
            exact bodyPost_ret (v := .pointer (some ⟨xb, 0, none⟩)) (by simp [results, Tryz.results67, go_sem]) rfl hFIN
          · have HD := Lib.hid (decide_eq_true hf)
            have HF := Lib.hid hf
            have HS0 : Hid (nex gk 7 ones (if fb then 1 else 0) l s' = some z) := by
              rcases HS.out with h | h
              · exact h
              · exact absurd hf h.1
            clear hf HS
            obtain ⟨g', rfl⟩ : ∃ g', gk = g' + 1 := by
              cases gk with
              | zero => have := HS0.out; simp [nex] at this
              | succ g' => exact ⟨g', rfl⟩
            go_wp2_with fail
            refine (rok_s hst).mono ?_
            rintro e w8 ⟨rfl, hb8⟩
            rw [HD.out]
            have h8 := hst.below hb8
            have HO8 := Lib.hid (owns_ext HO.out (Ext.below (b := q.rb) hb8) (by omega))
            have HK8 := Lib.hid ((hb8.block xb (lt_blk HK.out)).trans HK.out)
            have HR8 := Lib.hid (RepL.ext (Ext.below (b := q.rb) hb8) (by omega) (HR.out HF.out))
            have HX8 := Lib.hid (HX.out.trans (Ext.below hb8))
            clear hst HO HK HR HX hb8
            go_wp2_with fail
            refine (rtake_s h8 Tp.mRp (by decide) _ rfl).mono ?_
            rintro e w9 ⟨rfl, hst9, hx9⟩
            have HO9 := Lib.hid (owns_ext HO8.out hx9 (by omega))
            have HK9 := Lib.hid ((hx9.block xb (lt_blk HK8.out) (by omega)).trans HK8.out)
            have HR9 := Lib.hid (RepL.ext hx9 (by omega) HR8.out)
            have HX9 := Lib.hid (HX8.out.trans hx9)
            clear h8 HO8 HK8 HR8 HX8 hx9
            cases hrp : tk Tp.mRp s' with
            | true =>
              have HE := Lib.hid (nex7_end HS0.out HF.out (tk_true hrp).2.1)
              rw [(tk_true hrp).2.2] at hst9
              have hFIN := HEND.out w9 (by rw [HE.out]) (fun _ => HR9.out) HO9.out HK9.out (by rw [HE.out]; exact hst9) HX9.out
              go_wp2_with fail
              exact bodyPost_ret (v := .pointer (some ⟨xb, 0, none⟩)) (by simp [results, Tryz.results67, go_sem]) rfl hFIN
            | false =>
              rw [tk_false hrp] at hst9
              have hnr : ¬ tx s'.1 = Tp.mRp := fun e => by have := of_decide_eq_false hrp; exact this ⟨HF.out, e⟩
              have HS1 := Lib.hid (fun s1 h1 => nex7_on (s1 := s1) HS0.out HF.out hnr h1)
              clear hrp hnr HS0 HEND
              have hs9 := hst9.hd
              have hl9 : s'.1.length ≤ 1000 := by omega
              cases fb with
              | true =>
                have hs1 := HS1.out s' (by simp)
                rcases hs1 with hs1 | ⟨_, z1, hz1, hyz1⟩
                · exact absurd HF.out hs1.1
                have hv0 : vs.length = 0 := hfb rfl
                have HL1 : Hid (vs.length + 1 + z1.2.1.length ≤ 1001) := by have := Nr.nex_len g' 0 (ones + 1) 0 [] (s'.1, fine) 1000 hl9 z1 hz1; show _ ≤ _; omega
                have hrx : RS w9 q ts s'.1 fine := by have := hst9; unfold RX at this; rw [HF.out] at this; exact this
                have HC := Lib.hid (fun W hW => HL.out g' (by omega) W s'.1 z1 hW hz1)
                have HY1 := Lib.hid hyz1
                have HRO := Lib.hid (rok_f hrx)
                clear hz1 hyz1 HS1 hst9 hs9 hv0 hfb
                go_wp2_with fail
                refine HRO.out.mono ?_
                rintro e w10 ⟨rfl, hb10⟩
                have hrx10 := hrx.below hb10
                have HO10 := Lib.hid (owns_ext HO9.out (Ext.below (b := q.rb) hb10) (by omega))
                have HK10 := Lib.hid ((hb10.block xb (lt_blk HK9.out)).trans HK9.out)
                have HR10 := Lib.hid (RepL.ext (Ext.below (b := q.rb) hb10) (by omega) HR9.out)
                have HX10 := Lib.hid (HX9.out.trans (Ext.below hb10))
                clear hrx HO9 HK9 HR9 HX9 hb10 HRO
                have hxl10 := lt_blk HK10.out
                have k8 : w10.cell? ⟨xb, 8, none⟩ = some (.slice aa vs.length ac) := cell_blk HK10.out
                have z8 : w10.frozen? ⟨xb, 8, none⟩ = false := frozen_blk HK10.out
                have HC1 : Hid (Calls Tryz.prog 94 #[.pointer (some ⟨q.rb, 0, none⟩), .int .i64 0, .int .i64 (IntKind.i64.wrap ((ones : Int) + 1))] w10.drew fun e w' => RPost q ts w10.drew z1 e w') := by rw [HWR.out]; exact HC.out w10.drew (hrx10.below (below_drew w10))
                have hsz10 := HX10.out.size
                have hown : ∀ gq, (Value.slice aa vs.length ac).ownBlock = some gq → xb + 1 ≤ gq := owns_row HO10.out
                have HOW := Lib.hid hown
                have HOL : Hid (∀ gq, (Value.slice aa vs.length ac).ownBlock = some gq → gq < w10.heap.size) := fun gq hgq => (HO10.out.lt gq hgq).2
                clear hown
                go_wp2_with fail
                go_region_law (first | (refine step_wanted rfl ?_; go_simp; go_at_call 94; refine HC1.out.mono ?_; rintro e w11 ⟨p11, rfl, hv11, hst11, hx11⟩; have HK11 := Lib.hid ((((Ext.below (b := q.rb) (below_drew w10)).trans hx11).block xb hxl10 (by omega)).trans HK10.out); have HO11 := Lib.hid (owns_ext HO10.out ((Ext.below (b := q.rb) (below_drew w10)).trans hx11) (by omega)); have k11 : w11.cell? ⟨xb, 8, none⟩ = some (.slice aa vs.length ac) := cell_blk HK11.out; have z11 : w11.frozen? ⟨xb, 8, none⟩ = false := frozen_blk HK11.out; have hxl11 := lt_blk HK11.out; have k11a : ∀ o', (w11.alloc o').cell? ⟨xb, 8, none⟩ = some (.slice aa vs.length ac) := fun o' => cell_alloc k11 o') | (refine step_append_where rfl (.tmp 71) (.tmp 76) 106 rfl (xb + 1) 95 i3 (.pointer none) 1 8 Tryz.underlying106 hi3 hz30 hz31 hz32 rfl (by decide) (.slice aa vs.length ac) vs.length vs (by simp [Act.eval]) (HO11.out.alloc _) ⟨w11.heap.size, 0, none⟩ 1 1 [.pointer p11] (by simp [Act.eval]) rfl (news1' w11 _ _) (by intro u hu; simp at hu; subst hu; rfl) (by unfold maxLen; omega) (by omega) (by simp; omega) ?_; intro v' w12 hown12 hgrow12 hwhere12; have hb12 : Below (xb + 1) w11 w12 := ((Below.refl _ _).alloc (by omega) _).trans ((Below.refl _ _).grown hgrow12 (by simp; omega) HOW.out); have HK12 := Lib.hid ((hb12.block xb (by omega)).trans HK11.out); have k12 : w12.cell? ⟨xb, 8, none⟩ = some (.slice aa vs.length ac) := cell_blk HK12.out; have z12 : w12.frozen? ⟨xb, 8, none⟩ = false := frozen_blk HK12.out; obtain ⟨na, nc, hvv⟩ := owns_shape hown12; subst hvv))
                all_goals
                  have HV11 := Lib.hid hv11
                  have hst12 : RX w12 q ts z1.2 := hst11.belowB hb12 (by omega)
                  have hx12 : Ext q.rb w w12 := ((HX10.out.trans (Ext.below (below_drew w10))).trans hx11).trans' (hb12.mono (by omega))
                  obtain ⟨hst13, hx13, hk13⟩ := fld (i := 8) (v := .slice na (vs.length + 1) nc) hst12 hx12 HK12.out hxw hpl
                  have HK13 : Hid ((w12.setCell ⟨xb, 8, none⟩ (.slice na (vs.length + 1) nc)).heap[xb]? = some (.cells #[.int .i64 6, .int .i64 (pos : Int), .int .i64 0, .string (bs a1), .string (bs a2), .string ⟨#[]⟩, .pointer none, .pointer none, .slice na (vs ++ [Value.pointer p11]).length nc] 108 (0, 0))) := by rw [List.length_append]; exact hk13
                  have HX13 := Lib.hid hx13
                  have HO13 : Hid ((w12.setCell ⟨xb, 8, none⟩ (.slice na (vs.length + 1) nc)).ownsRow (xb + 1) 95 1 (.slice na (vs ++ [Value.pointer p11]).length nc) (vs ++ [Value.pointer p11]).length (vs ++ [Value.pointer p11])) := by rw [List.length_append]; exact owns_ext hown12 ((Ext.refl xb w12).set 8 _) (by omega)
                  have HR13 : Hid (z1.2.2 = fine → RepL (w12.setCell ⟨xb, 8, none⟩ (.slice na (vs.length + 1) nc)) (fun b => xb + 1 ≤ b ∧ (Value.slice na (vs ++ [Value.pointer p11]).length nc).ownBlock ≠ some b) (l ++ z1.1) (vs ++ [Value.pointer p11])) := fun hf => by
                    have h1 : RepL w11 (fun b => xb + 1 ≤ b ∧ (Value.slice aa vs.length ac).ownBlock ≠ some b) l vs := RepL.ext ((Ext.below (b := q.rb) (below_drew w10)).trans hx11) (by omega) HR10.out
                    have h2 : RepL w11 (fun b => xb + 1 ≤ b ∧ (Value.slice aa vs.length ac).ownBlock ≠ some b) z1.1 [.pointer p11] := RepL.of_new (HV11.out hf) (show xb + 1 ≤ w10.drew.heap.size by simpa using Nat.succ_le_of_lt hxl10) (fun gq hgq => by simpa using HOL.out gq hgq)
                    have h3 := (VA.snoc (h1.alloc _) (h2.alloc _) hown12 hgrow12 (by simpa using hwhere12)).1
                    have h4 := RepL.ext ((Ext.refl xb w12).set 8 (.slice na (vs.length + 1) nc)) (by omega) h3
                    rw [List.length_append]
                    exact h4
                  clear hv11 hst11 hx11 hown12 hgrow12 hwhere12 hb12 hst12 hx12 hx13 hk13 HK12 k12 z12 k11 z11 k11a HK11 HO11 HV11 k8 z8
                  go_wp2_with fail
                  go_roundg g'
                  case measure => omega
                  case rel => exact ⟨l ++ z1.1, vs ++ [Value.pointer p11], z1.2, false, na, nc, by omega, rfl, by have := HL1.out; simp; omega, (fun h => by cases h), HK13, HR13, HO13, hst13, HX13, Or.inl HY1.out⟩
              | false =>
                have hs1 := HS1.out (mu Tp.mComma s') (by simp)
                clear hfb
                go_wp2_with fail
                refine (rmust_s hst9 Tp.mComma (by decide) _ rfl).mono ?_
                rintro e w9b ⟨rfl, hst9b, hx9b⟩
                have HO9b := Lib.hid (owns_ext HO9.out hx9b (by omega))
                have HK9b := Lib.hid ((hx9b.block xb (lt_blk HK9.out) (by omega)).trans HK9.out)
                have HR9b := Lib.hid (RepL.ext hx9b (by omega) HR9.out)
                have HX9b := Lib.hid (HX9.out.trans hx9b)
                have hlm : (mu Tp.mComma s').1.length ≤ s'.1.length := Nr.len_mu _ _
                have HLC : Hid ((mu Tp.mComma s').2 = fine → (mu Tp.mComma s').1.length + 1 ≤ s'.1.length) := fun hf => by
                  have hc : tx s'.1 = Tp.mComma := mu_tx hf
                  have hk : (hd s'.1).kind ≠ 0 := fun hk => by have := hst9.txt _ (List.mem_of_getElem? hs9.1) hk; simp only [tx] at hc; rw [hc] at this; cases this
                  obtain ⟨y1, _, y3, _, _⟩ := hst9.stp_of hk
                  have e : (mu Tp.mComma s').1 = stp s'.1 := by unfold mu; rw [if_pos ⟨mu_fine hf, hc⟩]
                  rw [e, y1]; omega
                clear HO9 HK9 HR9 HX9 hx9b hst9 HS1
                generalize mu Tp.mComma s' = s1 at *
                rcases hs1 with ⟨hb1, hz1⟩ | ⟨hf1, z1, hz1, hyz1⟩
                · have HZ1 := Lib.hid hz1
                  have HB1 := Lib.hid hb1
                  have HRO := Lib.hid (rok_b hst9b hb1)
                  clear hb1 hz1
                  go_wp2_with fail
                  refine HRO.out.mono ?_
                  rintro e w10 ⟨rfl, hb10⟩
                  have hst10 : RX w10 q ts s1 := hst9b.below hb10
                  have HO10 := Lib.hid (owns_ext HO9b.out (Ext.below (b := q.rb) hb10) (by omega))
                  have HK10 := Lib.hid ((hb10.block xb (lt_blk HK9b.out)).trans HK9b.out)
                  have HX10 := Lib.hid (HX9b.out.trans (Ext.below hb10))
                  clear hst9b HO9b HK9b HR9b HX9b hb10 HRO
                  go_wp2_with fail
                  go_roundg g'
                  case measure => omega
                  case rel => exact ⟨l, vs, s1, false, aa, ac, by omega, rfl, by omega, (fun h => by cases h), HK10, fun hf => absurd hf HB1.out, HO10, hst10, HX10, Or.inr ⟨HB1.out, HZ1.out⟩⟩
                · have hlc := HLC.out hf1
                  have HL1 : Hid (vs.length + 1 + z1.2.1.length ≤ 1001) := by have := Nr.nex_len g' 0 (ones + 1) 0 [] (s1.1, fine) s1.1.length (Nat.le_refl _) z1 hz1; show _ ≤ _; omega
                  have hrx : RS w9b q ts s1.1 fine := by have := hst9b; unfold RX at this; rw [hf1] at this; exact this
                  have HC := Lib.hid (fun W hW => HL.out g' (by omega) W s1.1 z1 hW hz1)
                  have HY1 := Lib.hid hyz1
                  have HRO := Lib.hid (rok_f hrx)
                  clear hf1 hz1 hyz1 hst9b
                  go_wp2_with fail
                  refine HRO.out.mono ?_
                  rintro e w10 ⟨rfl, hb10⟩
                  have hrx10 := hrx.below hb10
                  have HO10 := Lib.hid (owns_ext HO9b.out (Ext.below (b := q.rb) hb10) (by omega))
                  have HK10 := Lib.hid ((hb10.block xb (lt_blk HK9b.out)).trans HK9b.out)
                  have HR10 := Lib.hid (RepL.ext (Ext.below (b := q.rb) hb10) (by omega) HR9b.out)
                  have HX10 := Lib.hid (HX9b.out.trans (Ext.below hb10))
                  clear hrx HO9b HK9b HR9b HX9b hb10 HRO
                  have hxl10 := lt_blk HK10.out
                  have k8 : w10.cell? ⟨xb, 8, none⟩ = some (.slice aa vs.length ac) := cell_blk HK10.out
                  have z8 : w10.frozen? ⟨xb, 8, none⟩ = false := frozen_blk HK10.out
                  have HC1 : Hid (Calls Tryz.prog 94 #[.pointer (some ⟨q.rb, 0, none⟩), .int .i64 0, .int .i64 (IntKind.i64.wrap ((ones : Int) + 1))] w10.drew fun e w' => RPost q ts w10.drew z1 e w') := by rw [HWR.out]; exact HC.out w10.drew (hrx10.below (below_drew w10))
                  have hsz10 := HX10.out.size
                  have hown : ∀ gq, (Value.slice aa vs.length ac).ownBlock = some gq → xb + 1 ≤ gq := owns_row HO10.out
                  have HOW := Lib.hid hown
                  have HOL : Hid (∀ gq, (Value.slice aa vs.length ac).ownBlock = some gq → gq < w10.heap.size) := fun gq hgq => (HO10.out.lt gq hgq).2
                  clear hown
                  go_wp2_with fail
                  go_region_law (first | (refine step_wanted rfl ?_; go_simp; go_at_call 94; refine HC1.out.mono ?_; rintro e w11 ⟨p11, rfl, hv11, hst11, hx11⟩; have HK11 := Lib.hid ((((Ext.below (b := q.rb) (below_drew w10)).trans hx11).block xb hxl10 (by omega)).trans HK10.out); have HO11 := Lib.hid (owns_ext HO10.out ((Ext.below (b := q.rb) (below_drew w10)).trans hx11) (by omega)); have k11 : w11.cell? ⟨xb, 8, none⟩ = some (.slice aa vs.length ac) := cell_blk HK11.out; have z11 : w11.frozen? ⟨xb, 8, none⟩ = false := frozen_blk HK11.out; have hxl11 := lt_blk HK11.out; have k11a : ∀ o', (w11.alloc o').cell? ⟨xb, 8, none⟩ = some (.slice aa vs.length ac) := fun o' => cell_alloc k11 o') | (refine step_append_where rfl (.tmp 71) (.tmp 76) 106 rfl (xb + 1) 95 i3 (.pointer none) 1 8 Tryz.underlying106 hi3 hz30 hz31 hz32 rfl (by decide) (.slice aa vs.length ac) vs.length vs (by simp [Act.eval]) (HO11.out.alloc _) ⟨w11.heap.size, 0, none⟩ 1 1 [.pointer p11] (by simp [Act.eval]) rfl (news1' w11 _ _) (by intro u hu; simp at hu; subst hu; rfl) (by unfold maxLen; omega) (by omega) (by simp; omega) ?_; intro v' w12 hown12 hgrow12 hwhere12; have hb12 : Below (xb + 1) w11 w12 := ((Below.refl _ _).alloc (by omega) _).trans ((Below.refl _ _).grown hgrow12 (by simp; omega) HOW.out); have HK12 := Lib.hid ((hb12.block xb (by omega)).trans HK11.out); have k12 : w12.cell? ⟨xb, 8, none⟩ = some (.slice aa vs.length ac) := cell_blk HK12.out; have z12 : w12.frozen? ⟨xb, 8, none⟩ = false := frozen_blk HK12.out; obtain ⟨na, nc, hvv⟩ := owns_shape hown12; subst hvv))
                  all_goals
                    have HV11 := Lib.hid hv11
                    have hst12 : RX w12 q ts z1.2 := hst11.belowB hb12 (by omega)
                    have hx12 : Ext q.rb w w12 := ((HX10.out.trans (Ext.below (below_drew w10))).trans hx11).trans' (hb12.mono (by omega))
                    obtain ⟨hst13, hx13, hk13⟩ := fld (i := 8) (v := .slice na (vs.length + 1) nc) hst12 hx12 HK12.out hxw hpl
                    have HK13 : Hid ((w12.setCell ⟨xb, 8, none⟩ (.slice na (vs.length + 1) nc)).heap[xb]? = some (.cells #[.int .i64 6, .int .i64 (pos : Int), .int .i64 0, .string (bs a1), .string (bs a2), .string ⟨#[]⟩, .pointer none, .pointer none, .slice na (vs ++ [Value.pointer p11]).length nc] 108 (0, 0))) := by rw [List.length_append]; exact hk13
                    have HX13 := Lib.hid hx13
                    have HO13 : Hid ((w12.setCell ⟨xb, 8, none⟩ (.slice na (vs.length + 1) nc)).ownsRow (xb + 1) 95 1 (.slice na (vs ++ [Value.pointer p11]).length nc) (vs ++ [Value.pointer p11]).length (vs ++ [Value.pointer p11])) := by rw [List.length_append]; exact owns_ext hown12 ((Ext.refl xb w12).set 8 _) (by omega)
                    have HR13 : Hid (z1.2.2 = fine → RepL (w12.setCell ⟨xb, 8, none⟩ (.slice na (vs.length + 1) nc)) (fun b => xb + 1 ≤ b ∧ (Value.slice na (vs ++ [Value.pointer p11]).length nc).ownBlock ≠ some b) (l ++ z1.1) (vs ++ [Value.pointer p11])) := fun hf => by
                      have h1 : RepL w11 (fun b => xb + 1 ≤ b ∧ (Value.slice aa vs.length ac).ownBlock ≠ some b) l vs := RepL.ext ((Ext.below (b := q.rb) (below_drew w10)).trans hx11) (by omega) HR10.out
                      have h2 : RepL w11 (fun b => xb + 1 ≤ b ∧ (Value.slice aa vs.length ac).ownBlock ≠ some b) z1.1 [.pointer p11] := RepL.of_new (HV11.out hf) (show xb + 1 ≤ w10.drew.heap.size by simpa using Nat.succ_le_of_lt hxl10) (fun gq hgq => by simpa using HOL.out gq hgq)
                      have h3 := (VA.snoc (h1.alloc _) (h2.alloc _) hown12 hgrow12 (by simpa using hwhere12)).1
                      have h4 := RepL.ext ((Ext.refl xb w12).set 8 (.slice na (vs.length + 1) nc)) (by omega) h3
                      rw [List.length_append]
                      exact h4
                    clear hv11 hst11 hx11 hown12 hgrow12 hwhere12 hb12 hst12 hx12 hx13 hk13 HK12 k12 z12 k11 z11 k11a HK11 HO11 HV11 k8 z8
                    go_wp2_with fail
                    go_roundg g'
                    case measure => omega
                    case rel => exact ⟨l ++ z1.1, vs ++ [Value.pointer p11], z1.2, false, na, nc, by omega, rfl, by have := HL1.out; simp; omega, (fun h => by cases h), HK13, HR13, HO13, hst13, HX13, Or.inl HY1.out⟩
end Go.Proofs.YtfcdphgggdioeaaGreatDoor
