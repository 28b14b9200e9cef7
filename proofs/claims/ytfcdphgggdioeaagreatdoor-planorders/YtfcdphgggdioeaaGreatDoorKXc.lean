import Derived.Test.YtfcdphgggdioeaaGreatDoorKXb
import Derived.Test.YtfcdphgggdioeaaGreatDoorKWa
/- The document's reader: EXPRs by their levels. -/
namespace Go.Proofs.YtfcdphgggdioeaaGreatDoor
open Go.RowKit
open Tp (Tok hd tx at' stp X)
open Nr (Fl fine Sx tk tkS fl mu nm nu nms nex)
def RPost (q : Rp) (ts : List Tok) (w : World) (y : List X × Sx) (e : Ending) (w' : World) : Prop :=
  ∃ p, e = .returned (.pointer p) ∧ (y.2.2 = fine → VX w.heap.size y.1 (.pointer p) w') ∧ RX w' q ts y.2 ∧ Ext q.rb w w'
def LevR (q : Rp) (ts : List Tok) (g : Nat) : Prop := ∀ (w : World) (r : List Tok) (k ones : Nat) (y : List X × Sx), RS w q ts r fine → k ≤ 5 → ones ≤ 11 → nex g k ones 0 [] (r, fine) = some y →
  Calls Tryz.prog 94 #[.pointer (some ⟨q.rb, 0, none⟩), .int .i64 (k : Int), .int .i64 (ones : Int)] w fun e w' => RPost q ts w y e w'
def OneR (q : Rp) (ts : List Tok) (g : Nat) : Prop := ∀ (w : World) (r : List Tok) (ones : Nat) (y : List X × Sx), RS w q ts r fine → ones ≤ 11 → nex g 5 ones 0 [] (r, fine) = some y →
  Calls Tryz.prog 127 #[.pointer (some ⟨q.rb, 0, none⟩), .int .i64 (ones : Int)] w fun e w' => RPost q ts w y e w'
theorem LevR.mono {q : Rp} {ts : List Tok} {f g : Nat} (h : LevR q ts g) (hf : f ≤ g) : LevR q ts f := fun w r k ones y h1 h2 h3 h4 => h w r k ones y h1 h2 h3 (Nr.mo_nex k ones 0 [] (r, fine) f g hf y h4)
theorem nexL_end {g k ones a : Nat} {acc : List X} {s : Sx} (h : ¬ (s.2 = fine ∧ Tp.lvl (tx s.1) = k)) : nex (g + 1) (10 + k) ones a acc s = some (acc, s) := by
  rw [nex, if_neg (by omega), if_neg (by omega), if_neg (by omega), if_neg (by omega), if_neg (by rw [show 10 + k - 10 = k by omega]; exact h)]
theorem nexL_on {g k ones a : Nat} {acc : List X} {r : List Tok} (h : Tp.lvl (tx r) = k) : nex (g + 1) (10 + k) ones a acc (r, fine) = (nex g (k + 1) ones 0 [] (stp r, fine)).bind fun y => nex g (10 + k) ones a [⟨5, a, 0, [], [], tx r, acc, y.1, []⟩] y.2 := by
  rw [nex, if_neg (by omega), if_neg (by omega), if_neg (by omega), if_neg (by omega), if_pos ⟨rfl, by rw [show 10 + k - 10 = k by omega]; exact h⟩, show 10 + k - 10 = k by omega]
theorem bind_some' {α β : Type} {N : Option α} {F : α → Option β} {y : β} (h : N.bind F = some y) : ∃ z, N = some z ∧ F z = some y := by
  cases N with
  | none => cases h
  | some z => exact ⟨z, rfl, h⟩
set_option maxRecDepth 100000 in
set_option maxHeartbeats 1000000 in
theorem lev_one {q : Rp} {ts : List Tok} {g : Nat} (hO : OneR q ts g) {w : World} {r : List Tok} {ones : Nat} {y : List X × Sx} (h : RS w q ts r fine) (ho : ones ≤ 11) (hy : nex g 5 ones 0 [] (r, fine) = some y) :
    Calls Tryz.prog 94 #[.pointer (some ⟨q.rb, 0, none⟩), .int .i64 5, .int .i64 (ones : Int)] w fun e w' => RPost q ts w y e w' := by
  have HC := Lib.hid (hO w r ones y h ho hy)
  clear hO hy
  have HP : Hid (∀ e w', RPost q ts w y e w' → ∃ p, e = .returned (.pointer p)) := fun e w' h => ⟨h.choose, h.choose_spec.1⟩
  go_enter Tryz.func94, Tryz.ntmps94
  go_wp2_with fail
  refine HC.out.mono ?_
  intro e w1 hq
  obtain ⟨p, rfl⟩ := HP.out e w1 hq
  go_wp2_with fail
  exact bodyPost_ret (v := .pointer p) (by simp [results, Tryz.results94, go_sem]) rfl hq
set_option maxRecDepth 100000 in
set_option maxHeartbeats 2000000 in
theorem lev_some {q : Rp} {ts : List Tok} {g : Nat} (hL : LevR q ts g) {w : World} {r : List Tok} {k ones : Nat} {y : List X × Sx} (h : RS w q ts r fine) (hk : k < 5) (ho : ones ≤ 11) (hy : nex (g + 1) k ones 0 [] (r, fine) = some y) :
    Calls Tryz.prog 94 #[.pointer (some ⟨q.rb, 0, none⟩), .int .i64 (k : Int), .int .i64 (ones : Int)] w fun e w' => RPost q ts w y e w' := by
  have hpl := lt_of_cell h.c0
  have hki : ¬ (4 : Int) < (k : Int) := by omega
  have hki' : (k : Int) < 5 := by omega
  have HK5 := Lib.hid hk
  have HL : Hid (∀ g', g' ≤ g → ∀ W r' z, RS W q ts r' fine → nex g' (k + 1) ones 0 [] (r', fine) = some z → Calls Tryz.prog 94 #[.pointer (some ⟨q.rb, 0, none⟩), .int .i64 ((k : Int) + 1), .int .i64 (ones : Int)] W fun e w' => RPost q ts W z e w') :=
    fun g' hg W r' z hW hz => (hL.mono hg) W r' (k + 1) ones z hW (by omega) ho hz
  rw [nex, if_pos hk] at hy
  obtain ⟨z, hz, hy2⟩ := bind_some' hy
  have hcall := fun W hW => HL.out g (Nat.le_refl _) W r z hW hz
  have HC := Lib.hid hcall
  have HY := Lib.hid hy2
  clear hL hy hy2 hz hcall hk
  obtain ⟨h1, h2, h3, h4⟩ := h.hd
  obtain ⟨i, hi⟩ : ∃ i, i = (ts.length - r.length) * 3 := ⟨_, rfl⟩
  obtain ⟨n, hn⟩ : ∃ n, n = r.length := ⟨_, rfl⟩
  obtain ⟨c, hc⟩ : ∃ c, c = q.cap - (ts.length - r.length) := ⟨_, rfl⟩
  have d0 : w.cell? ⟨q.rb, 0, none⟩ = some (.slice (some ⟨q.tb, i, none⟩) n c) := by rw [hi, hn, hc]; exact h.c0
  have d2 : w.cell? ⟨q.tb, i + 2, none⟩ = some (.int .i64 (at' r : Int)) := by rw [hi]; exact (h.toks _ _ h1).c2
  have hn0 : (0 : Int) < n := by omega
  have hq := lt_of_cell h.c0
  clear hi hn hc h1 h2 h3 h4
  go_enter Tryz.func94, Tryz.ntmps94
  go_wp2_with fail
  refine (HC.out w h).mono ?_
  rintro e w2 ⟨p, rfl, hv, hst2, hx2⟩
  clear d0 d2 h
  go_wp2_with fail
  go_loopg [8] g (fun gk v wr => ∃ (acc : List X) (s' : Sx) (p : Option Addr), gk ≤ g ∧ v = .pointer p ∧ Hid (s'.2 = fine → VX w.heap.size acc (.pointer p) wr) ∧ RX wr q ts s' ∧ Hid (Ext q.rb w wr) ∧ Hid (nex gk (10 + k) ones (at' r) acc s' = some y))
  case atStart => exact ⟨z.1, z.2, p, Nat.le_refl _, rfl, hv, hst2, hx2, HY⟩
  case round =>
    obtain ⟨acc, ⟨r', b'⟩, p, hgk, rfl, HV, hst, HX, HS⟩ := hrel
    have hst : RS wr q ts r' b' := hst
    have HV : Hid (b' = fine → VX w.heap.size acc (.pointer p) wr) := HV
    clear hv hst2 hx2
    obtain ⟨g', rfl⟩ : ∃ g', gk = g' + 1 := by
      cases gk with
      | zero => have := HS.out; simp [nex] at this
      | succ g' => exact ⟨g', rfl⟩
    obtain ⟨h1, h2, h3, h4⟩ := hst.hd
    have hmem : hd r' ∈ ts := List.mem_of_getElem? h1
    have htl := hst.tl _ hmem
    have htx := hst.txt _ hmem
    obtain ⟨i, hi⟩ : ∃ i, i = (ts.length - r'.length) * 3 := ⟨_, rfl⟩
    obtain ⟨n, hn⟩ : ∃ n, n = r'.length := ⟨_, rfl⟩
    obtain ⟨c, hc⟩ : ∃ c, c = q.cap - (ts.length - r'.length) := ⟨_, rfl⟩
    have d0 : wr.cell? ⟨q.rb, 0, none⟩ = some (.slice (some ⟨q.tb, i, none⟩) n c) := by rw [hi, hn, hc]; exact hst.c0
    have dk : wr.cell? ⟨q.tb, i, none⟩ = some (.int .i64 (kd (hd r'))) := by rw [hi]; exact (hst.toks _ _ h1).c0
    have d1 : wr.cell? ⟨q.tb, i + 1, none⟩ = some (.string (bs (tx r'))) := by rw [hi]; exact (hst.toks _ _ h1).c1
    have gl : wr.cell? ⟨3, k, none⟩ = some (.string (bs (lvw k))) := by rw [hst.gl.lv k HK5.out, rlv_at k HK5.out]
    have hgb := lt_of_cell gl
    have hn0 : (0 : Int) < n := by omega
    have hrl := lt_of_cell hst.c0
    have htb := lt_of_cell dk
    obtain ⟨m, hm⟩ := hst.gl.ml
    have HOK : Hid (∀ nn, Calls Tryz.prog 13 #[.pointer (some ⟨q.rb, 0, none⟩)] (wr.drewN nn) fun e w' => e = .returned (.bool (decide (b' = fine))) ∧ ∃ m, w' = (wr.drewN nn).drewN m) := fun nn => rok_q (hst.below (below_dn wr nn))
    have HON : Hid (∀ nn, Calls Tryz.prog 40 #[.string (bs (tx r')), .string (bs (lvw k))] (wr.drewN nn) fun e w' => e = .returned (.bool (decide (Tp.lvl (tx r') = k))) ∧ w' = wr.drewN nn) := fun nn => by
      have := oneOf_any (tx r') (lvw k) _ _ (rfl : bs _ = bs _) (rfl : bs _ = bs _) m (wr.drewN nn) (by have := htl.1; simp only [tx]; omega) (lvw_len k) (((below_dn wr nn).cell (p := ⟨5, 0, none⟩) (lt_of_cell hm)).trans hm)
      rw [lvw_one k HK5.out] at this
      exact this
    have HI : Hid (i = (ts.length - r'.length) * 3 ∧ n = r'.length ∧ c = q.cap - (ts.length - r'.length)) := ⟨hi, hn, hc⟩
    by_cases hf : b' = fine
    · by_cases hk0 : (hd r').kind = 0
      · have hkd : kd (hd r') = 4 := by simp [kd, hk0]
        have htx0 : tx r' = [] := htx hk0
        have HE : Hid (y = (acc, (r', b'))) := by
          have := HS.out
          rw [nexL_end (fun h => by rw [htx0] at h; have h2 := h.2; have h5 : Tp.lvl [] = 5 := (by decide); have := HK5.out; omega)] at this
          exact (Option.some.inj this).symm
        have HV2 := HV.out hf
        rw [decide_eq_true hf] at HOK
        rw [hkd] at dk
        have HEND : Hid (∀ nn, RPost q ts w y (.returned (.pointer p)) (wr.drewN nn)) := fun nn => by
          rw [HE.out]
          exact ⟨p, rfl, fun _ => VX.ext (b := q.rb) (Ext.below (below_dn wr nn)) (by omega) HV2, hst.below (below_dn wr nn), HX.out.trans (Ext.below (below_dn wr nn))⟩
        clear hf hk0 hkd htx0 htx HV2 HE HS hi hn hc h1 h2 h3 h4 hm HON
        go_wp2_with fail
        go_quiet (first | (go_at_call 13; exact Calls.quiet_of (HOK.out _)))
        go_wp2_with fail
        exact bodyPost_ret (v := .pointer p) (by simp [results, Tryz.results94, go_sem]) rfl (HEND.out _)
      · have hkd : (kd (hd r') != 4) = true := by have := htl.2.2; simp [kd, hk0]; omega
        rw [decide_eq_true hf] at HOK
        have HK0 := Lib.hid hk0
        have hn2 : (2 : Int) ≤ n ∧ (n : Int) ≤ c := by
          obtain ⟨_, y4, y5, _, _⟩ := hst.stp_of hk0
          have : 0 < r'.tail.length := List.length_pos_iff.2 y4
          have := hst.cp
          omega
        obtain ⟨hn2, hnc⟩ := hn2
        generalize kd (hd r') = kk at *
        clear htx hk0 hi hn hc h1 h2 h3 h4 hm htl hmem
        subst hf
        have HVX := Lib.hid (HV.out rfl)
        by_cases hl : Tp.lvl (tx r') = k
        · rw [decide_eq_true hl] at HON
          have HS2 := HS.out
          rw [nexL_on hl] at HS2
          obtain ⟨z2, hz2, hy2⟩ := bind_some' HS2
          have HY2 := Lib.hid hy2
          have hcall := fun W hW => HL.out g' (by omega) W (stp r') z2 hW hz2
          have HC2 := Lib.hid hcall
          clear hl HS HS2 hz2 hy2 hcall HV
          go_wp2_with fail
          go_quiet (first | (go_at_call 13; exact Calls.quiet_of (HOK.out _)) | (go_at_call 40; exact Calls.quiet_of_same (HON.out _)))
          have e0 : (wr.drewN nq).cell? ⟨q.rb, 0, none⟩ = some (.slice (some ⟨q.tb, i, none⟩) n c) := ((below_dn wr nq).cell (p := ⟨q.rb, 0, none⟩) hrl).trans d0
          have e1 : (wr.drewN nq).cell? ⟨q.tb, i + 1, none⟩ = some (.string (bs (tx r'))) := ((below_dn wr nq).cell (p := ⟨q.tb, i + 1, none⟩) htb).trans d1
          have ez : (wr.drewN nq).frozen? ⟨q.rb, 0, none⟩ = false := (hst.below (below_dn wr nq)).fz 0
          have hst5 := hst.stepped HK0.out (below_dn wr nq) (i := i + 3) (n := n - 1) (k := c - 1) (by rw [HI.out.1]) (by rw [HI.out.2.1]) (by rw [HI.out.2.2])
          have HX5 : Hid (Ext q.rb w ((wr.drewN nq).setCell ⟨q.rb, 0, none⟩ (.slice (some ⟨q.tb, i + 3, none⟩) (n - 1) (c - 1)))) := (HX.out.trans (Ext.below (below_dn wr nq))).set 0 _
          have HV5 := Lib.hid (VX.ext (b := q.rb) (((Ext.below (below_dn wr nq)).set 0 (.slice (some ⟨q.tb, i + 3, none⟩) (n - 1) (c - 1)))) hpl HVX.out)
          clear d0 dk d1 gl hgb hst HOK HON HX HVX
          generalize wr.drewN nq = wd at *
          go_wp2_with fail
          clear e0 e1 ez
          generalize wd.setCell ⟨q.rb, 0, none⟩ (.slice (some ⟨q.tb, i + 3, none⟩) (n - 1) (c - 1)) = w5 at *
          refine (HC2.out w5 hst5).mono ?_
          rintro e w7 ⟨p2, rfl, hv7, hst7, hx7⟩
          have HX7 := Lib.hid (HX5.out.trans hx7)
          have HV7 := Lib.hid (VX.ext hx7 hpl HV5.out)
          have hsz5 := HX5.out.size
          have hsz7 := HX7.out.size
          have HZ7 := Lib.hid hv7
          clear hst5 HX5 HV5 hv7 hx7
          go_wp2_with fail
          go_roundg g'
          case measure => omega
          case rel =>
            have hal : Below w7.heap.size w7 (w7.alloc (.cells (xcells 5 (at' r) 0 ⟨#[]⟩ ⟨#[]⟩ (bs (tx r')) (.pointer p) (.pointer p2) (.slice none 0 0)) 108)) := (Below.refl _ _).alloc (Nat.le_refl _) _
            refine ⟨[⟨5, at' r, 0, [], [], tx r', acc, z2.1, []⟩], z2.2, _, by omega, rfl, fun hf => ?_, hst7.below hal, HX7.out.trans (Ext.below hal), HY2⟩
            exact VX.node hsz7 (new_blk w7 _) (Or.inr (VX.ext (b := q.rb) (Ext.below hal) hpl HV7.out)) (Or.inr ((VX.ext (b := q.rb) (Ext.below hal) (by omega) (HZ7.out hf)).base hsz5)) (Or.inl ⟨rfl, rfl⟩)
        · rw [decide_eq_false hl] at HON
          have HE : Hid (y = (acc, (r', fine))) := by
            have := HS.out
            rw [nexL_end (fun h => hl h.2)] at this
            exact (Option.some.inj this).symm
          have HEND : Hid (∀ nn, RPost q ts w y (.returned (.pointer p)) (wr.drewN nn)) := fun nn => by
            rw [HE.out]
            exact ⟨p, rfl, fun _ => VX.ext (b := q.rb) (Ext.below (below_dn wr nn)) (by omega) HVX.out, hst.below (below_dn wr nn), HX.out.trans (Ext.below (below_dn wr nn))⟩
          clear hl HE HS HVX HV
          go_wp2_with fail
          go_quiet (first | (go_at_call 13; exact Calls.quiet_of (HOK.out _)) | (go_at_call 40; exact Calls.quiet_of_same (HON.out _)))
          go_wp2_with fail
          exact bodyPost_ret (v := .pointer p) (by simp [results, Tryz.results94, go_sem]) rfl (HEND.out _)
    · rw [decide_eq_false hf] at HOK
      have HE : Hid (y = (acc, (r', b'))) := by
        have := HS.out
        rw [nexL_end (fun h => hf h.1)] at this
        exact (Option.some.inj this).symm
      have HEND : Hid (∀ nn, RPost q ts w y (.returned (.pointer p)) (wr.drewN nn)) := fun nn => by
        rw [HE.out]
        exact ⟨p, rfl, fun h => absurd h hf, hst.below (below_dn wr nn), HX.out.trans (Ext.below (below_dn wr nn))⟩
      clear hf htx HE HS hi hn hc h1 h2 h3 h4 hm HON HV
      go_wp2_with fail
      go_quiet (first | (go_at_call 13; exact Calls.quiet_of (HOK.out _)))
      go_wp2_with fail
      exact bodyPost_ret (v := .pointer p) (by simp [results, Tryz.results94, go_sem]) rfl (HEND.out _)
theorem lev_post {q : Rp} {ts : List Tok} {g : Nat} (hL : LevR q ts g) (hO : OneR q ts (g + 1)) : LevR q ts (g + 1) := by
  intro w r k ones y h hk ho hy
  by_cases h5 : k = 5
  · subst h5
    exact lev_one hO h ho hy
  · exact lev_some hL h (by omega) ho hy
end Go.Proofs.YtfcdphgggdioeaaGreatDoor
