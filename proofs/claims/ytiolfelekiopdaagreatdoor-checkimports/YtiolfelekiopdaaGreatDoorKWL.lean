import Derived.Test.YtiolfelekiopdaaGreatDoorKWK
/- scan. -/
namespace Go.Proofs.YtiolfelekiopdaaGreatDoor
open Go.RowKit
open Tp (Tok hd tx at' stp)

theorem pastI_stop {f : UInt8 → Bool} {l : List UInt8} : ∀ (n i : Nat), l.length - i ≤ n → (h : pastI f l i < l.length) → f l[pastI f l i] = false := by
  intro n
  induction n with
  | zero =>
    intro i hn h
    have : ¬ i < l.length := by omega
    rw [pastI_end this] at h
    exact absurd h this
  | succ n ih =>
    intro i hn h
    by_cases hi : i < l.length
    · cases hb : f l[i]
      · have e := pastI_no hi hb
        simp only [e, hb]
      · have e := pastI_yes hi hb
        have := ih (i + 1) (by omega) (by rw [e]; exact h)
        simp only [e] at this
        exact this
    · rw [pastI_end hi] at h
      exact absurd h hi
theorem TxAt.ofBytes (w : World) (e : TypeId) (l : List UInt8) : TxAt (Lib.bytesWorld w e (bs l)) w.heap.size l := by
  intro j c hj
  have hjl : j < l.length := by rw [List.getElem?_eq_some_iff] at hj; exact hj.1
  rw [Lib.bytesWorld_cell w e (bs l) j (by simpa [bs, ByteArray.size] using hjl)]
  simp [bs, List.getD_eq_getElem?_getD, hj]
theorem below_bytes (w : World) (e : TypeId) (s : ByteArray) : Below w.heap.size w (Lib.bytesWorld w e s) :=
  ⟨by simp only [Lib.bytesWorld, World.freeze]; repeat (first | rfl | split), by simp only [Lib.bytesWorld, World.freeze]; repeat (first | rfl | split), by simp only [Lib.bytesWorld, World.freeze]; repeat (first | rfl | split), by rw [Lib.bytesWorld_size]; omega, fun k hk => Lib.bytesWorld_at_old w e s k hk⟩
def ScanP (w : World) (l : List UInt8) (e : Ending) (w' : World) : Prop :=
  match SC 0 0 l with
  | .ok ts => ∃ v, e = .returned v ∧ w'.ownsRow w.heap.size 100 3 v ts.length (tksC ts)
  | .error er => Thrown w.heap.size er e w'
theorem news3 (w : World) (v0 v1 v2 : Value) (t : TypeId) : ∀ j u, [v0, v1, v2][j]? = some u → (w.alloc (.cells #[v0, v1, v2] t)).cell? ((⟨w.heap.size, 0, none⟩ : Addr).add j) = some u := by
  intro j u hj
  rw [Addr.add_lit, cell_blk (new_blk _ _), Nat.zero_add]
  simpa using hj
theorem owns_below {w w' : World} {base e size n : Nat} {v : Value} {xs : List Value} (h : w.ownsRow base e size v n xs) (k : Below w.heap.size w w') : w'.ownsRow base e size v n xs := by
  refine ⟨h.1, ?_⟩
  rcases h.2 with h1 | ⟨g, cap, cur, h1, h2, h3, h4⟩
  · exact Or.inl h1
  · refine Or.inr ⟨g, cap, cur, h1, h2, ?_, h4⟩
    have hg : g < w.heap.size := by rw [Array.getElem?_eq_some_iff] at h3; exact h3.1
    rw [k.block g hg]; exact h3
theorem tksC_snoc (l : List Tok) (t : Tok) : tksC (l ++ [t]) = tksC l ++ tcells t := by simp [tksC]
theorem tksC_len (l : List Tok) : (tksC l).length = 3 * l.length := by
  induction l with
  | nil => rfl
  | cons t l ih => simp only [tksC, List.map_cons, List.flatten_cons, List.length_append, List.length_cons] at ih ⊢; rw [ih]; simp [tcells]; omega
set_option maxRecDepth 100000 in
set_option maxHeartbeats 1000000 in
theorem scan_post (w : World) (l : List UInt8) (hl : l.length ≤ 100000) (hmk : Mk w) :
    Calls Tryz.prog 25 #[.string (bs l)] w fun e w' => Below w.heap.size w w' ∧ ScanP w l e w' := by
  obtain ⟨i0, hi0, hz0, hz1, hz2⟩ := info_parts Tryz.infoToken
  have hcv := Lib.run_convert_string_bytes (P := Tryz.prog) w 9 93 5 (bs l) Tryz.underlying9 Tryz.underlying93 Tryz.underlying5
  have hszl : (bs l).size = l.length := by simp [bs, ByteArray.size]
  have hge := grownCap_ge w (bs l).size 0 5
  have hT := TxAt.ofBytes w 5 l
  have hB := below_bytes w 5 (bs l)
  have hS0 := Lib.bytesWorld_size w 5 (bs l)
  rw [hszl] at hcv hge
  generalize grownCap w l.length 0 5 = cap at hcv hge
  generalize Lib.bytesWorld w 5 (bs l) = W0 at hcv hT hB hS0
  go_enter Tryz.func25, Tryz.ntmps25
  go_wp2_with fail
  refine (past_blank hT 0 (by omega) hl).mono ?_
  rintro e w1 ⟨rfl, rfl⟩
  have hmk1 := hmk.below hB hmk.1
  have hp0 := pastI_le (f := Tp.blank) (l := l) (i := 0) (by omega)
  have HT : Hid (TxAt w1 w.heap.size l) := hT
  have HB : Hid (Below w.heap.size w w1) := hB
  have HM : Hid (Mk w1) := hmk1
  have hS1 : w.heap.size < w1.heap.size := by omega
  clear hT hB hmk1 hcv hmk hS0
  go_wp2_with fail
  go_loopg [5, 6] (l.length + 1) (fun k v vi wr => ∃ (acc : List Tok) (i : Nat), vi = .int .i64 (i : Int) ∧ i ≤ l.length ∧ l.length - i < k ∧ acc.length ≤ 600 ∧ wr.ownsRow w1.heap.size 100 3 v acc.length (tksC acc) ∧ Below w1.heap.size w1 wr ∧ addT acc (SC acc.length i (l.drop i)) = SC 0 0 l ∧ (∀ h : i < l.length, Tp.blank l[i] = false))
  case atStart =>
    refine ⟨[], pastI Tp.blank l 0, rfl, hp0.2, by omega, by simp, World.ownsRow_nil _ _ _ _, Below.refl _ _, ?_, fun h => pastI_stop l.length 0 (by omega) h⟩
    rw [List.length_nil, SC_past l.length 0 (by omega) (by omega), List.drop_zero]
    cases SC 0 0 l <;> rfl
  case round =>
    obtain ⟨acc, i, rfl, hil, hik, hac, hown, hbel, hspec, hnb⟩ := hrel
    have HS : Hid (addT acc (SC acc.length i (l.drop i)) = SC 0 0 l) := hspec
    have HNB : Hid (∀ h : i < l.length, Tp.blank l[i] = false) := hnb
    obtain ⟨ao, cp, hvv⟩ := owns_shape hown
    subst hvv
    have hsz := hbel.size
    clear hspec hnb
    by_cases hlt : i < l.length
    · have hlt' : (i : Int) < (l.length : Int) := by omega
      have hTr := HT.out.below hbel (by omega)
      have hMr := HM.out.below hbel HM.out.1
      have HTr : Hid (TxAt wr w.heap.size l) := hTr
      generalize hq : Tp.cut (l.drop i) = c
      cases c with
      | none =>
        have HQ : Hid (Tp.cut (l.drop i) = none) := hq
        clear hq
        go_wp2_with fail
        refine (cut_none hTr (by omega) hMr i hlt hl hge HQ).mono ?_
        rintro e w2 ⟨hth, hb2⟩
        obtain ⟨ab, q1, rfl, q2, q3⟩ := hth.out
        have HTH : Hid (Thrown wr.heap.size (3, i) _ w2) := hth
        have HBB : Hid (Below w.heap.size w w2) := HB.out.trans ((hbel.trans (hb2.mono hsz)).mono (by omega))
        clear hth q1 q2 q3
        go_wp2_with fail
        refine ⟨rfl, HBB.out, ?_⟩
        have e1 := HQ.out
        have e2 := HNB.out hlt
        unfold ScanP
        rw [List.drop_eq_getElem_cons hlt] at e1
        rw [← HS.out, List.drop_eq_getElem_cons hlt, SC_none e2 e1]
        exact HTH.out.mono (by omega)
      | some kn =>
        obtain ⟨kd, n⟩ := kn
        have HQ : Hid (Tp.cut (l.drop i) = some (kd, n)) := hq
        have hn := cut_pos hq
        clear hq
        simp only [List.length_drop] at hn
        go_wp2_with fail
        refine (cut_some hTr (by omega) hMr i hlt hl hge HQ).mono ?_
        rintro e w2 ⟨rfl, hb2⟩
        have hT2 := HTr.out.below hb2 (by omega)
        have hown2 := owns_below hown hb2
        have hxl : ((l.drop i).take n).length = n := by simp; omega
        have hcv : ∀ c, (convert 93 9 (.slice (some ⟨w.heap.size, i, none⟩) n c)).run Tryz.prog w2 = .ok (.string (bs ((l.drop i).take n))) w2 := by
          intro c
          have q := conv_at (cap := c) (m := (l.drop i).take n) hT2 (by rw [hxl])
          rw [hxl] at q
          exact q
        clear hTr hMr hown hT2
        by_cases h6 : acc.length = 600
        · have h6' : (acc.length : Int) = 600 := by omega
          clear h6
          go_wp2_with fail
          refine (throw_any 4 i w2).mono ?_
          rintro e w3 ⟨hth, hb3⟩
          obtain ⟨ab, q1, rfl, q2, q3⟩ := hth.out
          have HTH : Hid (Thrown w2.heap.size (4, i) _ w3) := hth
          have hs2 := hb2.size
          have HBB : Hid (Below w.heap.size w w3) := HB.out.trans (((hbel.trans (hb2.mono hsz)).trans (hb3.mono (by omega))).mono (by omega))
          clear hth q1 q2 q3
          go_wp2_with fail
          refine ⟨rfl, HBB.out, ?_⟩
          have e1 := HQ.out
          have e2 := HNB.out hlt
          unfold ScanP
          rw [List.drop_eq_getElem_cons hlt] at e1
          rw [← HS.out, List.drop_eq_getElem_cons hlt, show acc.length = 600 by omega, SC_full e2 e1]
          exact HTH.out.mono (by omega)
        · have h6' : ¬ (acc.length : Int) = 600 := by omega
          have h6b : ((acc.length : Int) == 600) = false := by simpa using h6'
          generalize hx : (l.drop i).take n = x at hcv hxl
          have hci : (i : Int) < (cap : Int) := by omega
          have hcn : (i : Int) + (n : Int) ≤ (cap : Int) := by omega
          have hs2 := hb2.size
          go_wp2_with (at_builtin; refine wpList_append_own _ rfl _ _ 61 rfl w1.heap.size 100 i0 (.agg #[.int .i64 0, .int .i64 0, .string ⟨#[]⟩]) 3 32 Tryz.underlying61 hi0 hz0 hz1 hz2 rfl (by decide) _ _ _ rfl (hown2.alloc _) ⟨w2.heap.size, 0, none⟩ 1 1 [.int .i64 (kd : Int), .int .i64 (i : Int), .string (bs x)] rfl rfl ?c1 ?c2 ?c3 ?c4 ?c5 ?_)
          case c1 => exact news3 _ _ _ _ _
          case c2 => intro u hu; simp at hu; rcases hu with rfl | rfl | rfl <;> rfl
          case c3 => unfold maxLen; omega
          case c4 => omega
          case c5 => simp; omega
          · intro v' w3 hown3 hgrow _
            have hb3 : Below w1.heap.size w2 w3 := ((Below.refl _ _).alloc (by omega) _).trans ((Below.refl _ _).grown hgrow (by simp; omega) (owns_row hown2))
            have hb13 : Below w1.heap.size w1 w3 := (hbel.trans (hb2.mono hsz)).trans hb3
            have HO : Hid (w3.ownsRow w1.heap.size 100 3 v' (acc ++ [(⟨kd, i, x⟩ : Tok)]).length (tksC (acc ++ [(⟨kd, i, x⟩ : Tok)]))) := by unfold Hid; rw [tksC_snoc]; simpa [tcells] using hown3
            clear hgrow hown2 hown3 hb3
            have hT3 := HT.out.below hb13 (by omega)
            go_wp2_with fail
            refine (past_blank hT3 (i + n) (by omega) hl).mono ?_
            rintro e w4 ⟨rfl, rfl⟩
            have hpn := pastI_le (f := Tp.blank) (l := l) (i := i + n) (by omega)
            clear hT3
            go_wp2_with fail
            go_roundg (gk - 1)
            case measure => omega
            case rel =>
              refine ⟨acc ++ [⟨kd, i, x⟩], pastI Tp.blank l (i + n), rfl, hpn.2, by omega, by simp; omega, HO.out, hb13, ?_, fun h => pastI_stop l.length (i + n) (by omega) h⟩
              have e1 := HQ.out
              have e2 := HNB.out hlt
              rw [← HS.out, SC_past l.length (i + n) (by omega) (by omega)]
              rw [List.drop_eq_getElem_cons hlt] at e1 ⊢
              rw [SC_tok e2 e1 h6, addT_consT, ← List.drop_eq_getElem_cons hlt, List.drop_drop, hx]
              simp
    · have hlt' : ¬ (i : Int) < (l.length : Int) := by omega
      go_wp2_with (at_builtin; refine wpList_append_own _ rfl _ _ 61 rfl w1.heap.size 100 i0 (.agg #[.int .i64 0, .int .i64 0, .string ⟨#[]⟩]) 3 32 Tryz.underlying61 hi0 hz0 hz1 hz2 rfl (by decide) _ _ _ rfl (hown.alloc _) ⟨wr.heap.size, 0, none⟩ 1 1 [.int .i64 0, .int .i64 (l.length : Int), .string ⟨#[]⟩] rfl rfl ?c1 ?c2 ?c3 ?c4 ?c5 ?_)
      case c2 => exact ⟨rfl, rfl, rfl⟩
      case c3 => unfold maxLen; omega
      case c4 => omega
      case c5 => omega
      · intro v' w3 hown3 hgrow _
        have hb3 : Below w1.heap.size wr w3 := ((Below.refl _ _).alloc hsz _).trans ((Below.refl _ _).grown hgrow (by simp; omega) (owns_row hown))
        have hb13 : Below w1.heap.size w1 w3 := hbel.trans hb3
        have HO : Hid (w3.ownsRow w1.heap.size 100 3 v' (acc ++ [(⟨0, l.length, []⟩ : Tok)]).length (tksC (acc ++ [(⟨0, l.length, []⟩ : Tok)]))) := by unfold Hid; rw [tksC_snoc]; simpa [tcells, bs] using hown3
        have HBB : Hid (Below w.heap.size w w3) := HB.out.trans (hb13.mono (by omega))
        clear hgrow hown hown3 hb3 hb13
        go_wp2_with fail
        go_ret
        refine ⟨HBB.out, ?_⟩
        have e0 : i = l.length := by omega
        unfold ScanP
        rw [← HS.out, e0, List.drop_length, SC_nil]
        exact ⟨_, rfl, owns_base HO.out (by omega)⟩
end Go.Proofs.YtiolfelekiopdaaGreatDoor
