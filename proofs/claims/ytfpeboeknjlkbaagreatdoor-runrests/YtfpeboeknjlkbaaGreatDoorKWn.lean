import Derived.Test.YtfpeboeknjlkbaaGreatDoorKWm
import Derived.Test.YtfpeboeknjlkbaaGreatDoorKWl
import Derived.Test.YtfpeboeknjlkbaaGreatDoorKPc
import Derived.Defers
import Derived.Recover
/- scan. -/
namespace Go.Proofs.YtfpeboeknjlkbaaGreatDoor
open Go.RowKit
open Tp (Tok hd tx at' stp)

theorem pastI_stop {f : UInt8 → Bool} {l : List UInt8} : ∀ (n i : Nat), l.length - i ≤ n → (h : pastI f l i < l.length) → f l[pastI f l i] = false := by
  intro n
  induction n with
  | zero =>
    intro i hn h
    have : ¬ i < l.length := by omega
    rw [pastI_end this] at h
    exact absurd h this
  | succ n ih =>
    intro i hn h
    by_cases hi : i < l.length
    · cases hb : f l[i]
      · have e := pastI_no hi hb
        simp only [e, hb]
      · have e := pastI_yes hi hb
        have := ih (i + 1) (by omega) (by rw [e]; exact h)
        simp only [e] at this
        exact this
    · rw [pastI_end hi] at h
      exact absurd h hi
theorem TxAt.ofBytes (w : World) (e : TypeId) (l : List UInt8) : TxAt (Lib.bytesWorld w e (bs l)) w.heap.size l := by
  intro j c hj
  have hjl : j < l.length := by rw [List.getElem?_eq_some_iff] at hj; exact hj.1
  rw [Lib.bytesWorld_cell w e (bs l) j (by simpa [bs, ByteArray.size] using hjl)]
  simp [bs, List.getD_eq_getElem?_getD, hj]
theorem below_bytes (w : World) (e : TypeId) (s : ByteArray) : Below w.heap.size w (Lib.bytesWorld w e s) :=
  ⟨by simp only [Lib.bytesWorld, World.freeze]; repeat (first | rfl | split), by simp only [Lib.bytesWorld, World.freeze]; repeat (first | rfl | split), by simp only [Lib.bytesWorld, World.freeze]; repeat (first | rfl | split), by rw [Lib.bytesWorld_size]; omega, fun k hk => Lib.bytesWorld_at_old w e s k hk⟩
def ScanP (w : World) (l : List UInt8) (e : Ending) (w' : World) : Prop :=
  match SC 0 0 l with
  | .ok ts => ∃ v, e = .returned v ∧ w'.ownsRow w.heap.size 132 3 v ts.length (tksC ts)
  | .error er => Thrown w.heap.size er e w'
theorem news3 (w : World) (v0 v1 v2 : Value) (t : TypeId) : ∀ j u, [v0, v1, v2][j]? = some u → (w.alloc (.cells #[v0, v1, v2] t)).cell? ((⟨w.heap.size, 0, none⟩ : Addr).add j) = some u := by
  intro j u hj
  rw [Addr.add_lit, cell_blk (new_blk _ _), Nat.zero_add]
  simpa using hj
theorem owns_below {w w' : World} {base e size n : Nat} {v : Value} {xs : List Value} (h : w.ownsRow base e size v n xs) (k : Below w.heap.size w w') : w'.ownsRow base e size v n xs := by
  refine ⟨h.1, ?_⟩
  rcases h.2 with h1 | ⟨g, cap, cur, h1, h2, h3, h4⟩
  · exact Or.inl h1
  · refine Or.inr ⟨g, cap, cur, h1, h2, ?_, h4⟩
    have hg : g < w.heap.size := by rw [Array.getElem?_eq_some_iff] at h3; exact h3.1
    rw [k.block g hg]; exact h3
theorem tksC_snoc (l : List Tok) (t : Tok) : tksC (l ++ [t]) = tksC l ++ tcells t := by simp [tksC]
theorem tksC_len (l : List Tok) : (tksC l).length = 3 * l.length := by
  induction l with
  | nil => rfl
  | cons t l ih => simp only [tksC, List.map_cons, List.flatten_cons, List.length_append, List.length_cons] at ih ⊢; rw [ih]; simp [tcells]; omega
set_option maxRecDepth 100000 in
set_option maxHeartbeats 1000000 in
theorem scan_post (w : World) (l : List UInt8) (hl : l.length ≤ 100000) (hmk : Mk w) :
    Calls Tryz.prog 36 #[.string (bs l)] w fun e w' => Below w.heap.size w w' ∧ ScanP w l e w' := by
  obtain ⟨i0, hi0, hz0, hz1, hz2⟩ := info_parts Tryz.infoToken
  have hcv := Lib.run_convert_string_bytes (P := Tryz.prog) w 9 106 5 (bs l) Tryz.underlying9 Tryz.underlying106 Tryz.underlying5
  have hszl : (bs l).size = l.length := by simp [bs, ByteArray.size]
  have hge := grownCap_ge w (bs l).size 0 5
  have hT := TxAt.ofBytes w 5 l
  have hB := below_bytes w 5 (bs l)
  have hS0 := Lib.bytesWorld_size w 5 (bs l)
  rw [hszl] at hcv hge
  generalize grownCap w l.length 0 5 = cap at hcv hge
  generalize Lib.bytesWorld w 5 (bs l) = W0 at hcv hT hB hS0
  go_enter Tryz.func36, Tryz.ntmps36
  go_wp2_with fail
  refine (past_blank hT 0 (by omega) hl).mono ?_
  rintro e w1 ⟨rfl, rfl⟩
  have hmk1 := hmk.below hB hmk.1
  have hp0 := pastI_le (f := Tp.blank) (l := l) (i := 0) (by omega)
  have HT : Hid (TxAt w1 w.heap.size l) := hT
  have HB : Hid (Below w.heap.size w w1) := hB
  have HM : Hid (Mk w1) := hmk1
  have hS1 : w.heap.size < w1.heap.size := by omega
  clear hT hB hmk1 hcv hmk hS0
  go_wp2_with fail
  go_loopg [5, 6] (l.length + 1) (fun k v vi wr => ∃ (acc : List Tok) (i : Nat), vi = .int .i64 (i : Int) ∧ i ≤ l.length ∧ l.length - i < k ∧ acc.length ≤ 600 ∧ wr.ownsRow w1.heap.size 132 3 v acc.length (tksC acc) ∧ Below w1.heap.size w1 wr ∧ addT acc (SC acc.length i (l.drop i)) = SC 0 0 l ∧ (∀ h : i < l.length, Tp.blank l[i] = false))
  case atStart =>
    refine ⟨[], pastI Tp.blank l 0, rfl, hp0.2, by omega, by simp, World.ownsRow_nil _ _ _ _, Below.refl _ _, ?_, fun h => pastI_stop l.length 0 (by omega) h⟩
    rw [List.length_nil, SC_past l.length 0 (by omega) (by omega), List.drop_zero]
    cases SC 0 0 l <;> rfl
  case round =>
    obtain ⟨acc, i, rfl, hil, hik, hac, hown, hbel, hspec, hnb⟩ := hrel
    have HS : Hid (addT acc (SC acc.length i (l.drop i)) = SC 0 0 l) := hspec
    have HNB : Hid (∀ h : i < l.length, Tp.blank l[i] = false) := hnb
    obtain ⟨ao, cp, hvv⟩ := owns_shape hown
    subst hvv
    have hsz := hbel.size
    clear hspec hnb
    by_cases hlt : i < l.length
    · have hlt' : (i : Int) < (l.length : Int) := by omega
      have hTr := HT.out.below hbel (by omega)
      have hMr := HM.out.below hbel HM.out.1
      have HTr : Hid (TxAt wr w.heap.size l) := hTr
      generalize hq : Tp.cut (l.drop i) = c
      cases c with
      | none =>
        have HQ : Hid (Tp.cut (l.drop i) = none) := hq
        clear hq
        go_wp2_with fail
        refine (cut_none hTr (by omega) hMr i hlt hl hge HQ).mono ?_
        rintro e w2 ⟨hth, hb2⟩
        obtain ⟨ab, q1, rfl, q2, q3⟩ := hth.out
        have HTH : Hid (Thrown wr.heap.size (3, i) _ w2) := hth
        have HBB : Hid (Below w.heap.size w w2) := HB.out.trans ((hbel.trans (hb2.mono hsz)).mono (by omega))
        clear hth q1 q2 q3
        go_wp2_with fail
        refine ⟨rfl, HBB.out, ?_⟩
        have e1 := HQ.out
        have e2 := HNB.out hlt
        unfold ScanP
        rw [List.drop_eq_getElem_cons hlt] at e1
        rw [← HS.out, List.drop_eq_getElem_cons hlt, SC_none e2 e1]
        exact HTH.out.mono (by omega)
      | some kn =>
        obtain ⟨kd, n⟩ := kn
        have HQ : Hid (Tp.cut (l.drop i) = some (kd, n)) := hq
        have hn := cut_pos hq
        clear hq
        simp only [List.length_drop] at hn
        go_wp2_with fail
        refine (cut_some hTr (by omega) hMr i hlt hl hge HQ).mono ?_
        rintro e w2 ⟨rfl, hb2⟩
        have hT2 := HTr.out.below hb2 (by omega)
        have hown2 := owns_below hown hb2
        have hxl : ((l.drop i).take n).length = n := by simp; omega
        have hcv : ∀ c, (convert 106 9 (.slice (some ⟨w.heap.size, i, none⟩) n c)).run Tryz.prog w2 = .ok (.string (bs ((l.drop i).take n))) w2 := by
          intro c
          have q := conv_at (cap := c) (m := (l.drop i).take n) hT2 (by rw [hxl])
          rw [hxl] at q
          exact q
        clear hTr hMr hown hT2
        by_cases h6 : acc.length = 600
        · have h6' : (acc.length : Int) = 600 := by omega
          clear h6
          go_wp2_with fail
          refine (throw_any 4 i w2).mono ?_
          rintro e w3 ⟨hth, hb3⟩
          obtain ⟨ab, q1, rfl, q2, q3⟩ := hth.out
          have HTH : Hid (Thrown w2.heap.size (4, i) _ w3) := hth
          have hs2 := hb2.size
          have HBB : Hid (Below w.heap.size w w3) := HB.out.trans (((hbel.trans (hb2.mono hsz)).trans (hb3.mono (by omega))).mono (by omega))
          clear hth q1 q2 q3
          go_wp2_with fail
          refine ⟨rfl, HBB.out, ?_⟩
          have e1 := HQ.out
          have e2 := HNB.out hlt
          unfold ScanP
          rw [List.drop_eq_getElem_cons hlt] at e1
          rw [← HS.out, List.drop_eq_getElem_cons hlt, show acc.length = 600 by omega, SC_full e2 e1]
          exact HTH.out.mono (by omega)
        · have h6' : ¬ (acc.length : Int) = 600 := by omega
          have h6b : ((acc.length : Int) == 600) = false := by simpa using h6'
          generalize hx : (l.drop i).take n = x at hcv hxl
          have hci : (i : Int) < (cap : Int) := by omega
          have hcn : (i : Int) + (n : Int) ≤ (cap : Int) := by omega
          have hs2 := hb2.size
          go_wp2_with (at_builtin; refine wpList_append_own _ rfl _ _ 81 rfl w1.heap.size 132 i0 (.agg #[.int .i64 0, .int .i64 0, .string ⟨#[]⟩]) 3 32 Tryz.underlying81 hi0 hz0 hz1 hz2 rfl (by decide) _ _ _ rfl (hown2.alloc _) ⟨w2.heap.size, 0, none⟩ 1 1 [.int .i64 (kd : Int), .int .i64 (i : Int), .string (bs x)] rfl rfl ?c1 ?c2 ?c3 ?c4 ?c5 ?_)
          case c1 => exact news3 _ _ _ _ _
          case c2 => intro u hu; simp at hu; rcases hu with rfl | rfl | rfl <;> rfl
          case c3 => unfold maxLen; omega
          case c4 => omega
          case c5 => simp; omega
          · intro v' w3 hown3 hgrow _
            have hb3 : Below w1.heap.size w2 w3 := ((Below.refl _ _).alloc (by omega) _).trans ((Below.refl _ _).grown hgrow (by simp; omega) (owns_row hown2))
            have hb13 : Below w1.heap.size w1 w3 := (hbel.trans (hb2.mono hsz)).trans hb3
            have HO : Hid (w3.ownsRow w1.heap.size 132 3 v' (acc ++ [(⟨kd, i, x⟩ : Tok)]).length (tksC (acc ++ [(⟨kd, i, x⟩ : Tok)]))) := by unfold Hid; rw [tksC_snoc]; simpa [tcells] using hown3
            clear hgrow hown2 hown3 hb3
            have hT3 := HT.out.below hb13 (by omega)
            go_wp2_with fail
            refine (past_blank hT3 (i + n) (by omega) hl).mono ?_
            rintro e w4 ⟨rfl, rfl⟩
            have hpn := pastI_le (f := Tp.blank) (l := l) (i := i + n) (by omega)
            clear hT3
            go_wp2_with fail
            go_roundg (gk - 1)
            case measure => omega
            case rel =>
              refine ⟨acc ++ [⟨kd, i, x⟩], pastI Tp.blank l (i + n), rfl, hpn.2, by omega, by simp; omega, HO.out, hb13, ?_, fun h => pastI_stop l.length (i + n) (by omega) h⟩
              have e1 := HQ.out
              have e2 := HNB.out hlt
              rw [← HS.out, SC_past l.length (i + n) (by omega) (by omega)]
              rw [List.drop_eq_getElem_cons hlt] at e1 ⊢
              rw [SC_tok e2 e1 h6, addT_consT, ← List.drop_eq_getElem_cons hlt, List.drop_drop, hx]
              simp
    · have hlt' : ¬ (i : Int) < (l.length : Int) := by omega
      go_wp2_with (at_builtin; refine wpList_append_own _ rfl _ _ 81 rfl w1.heap.size 132 i0 (.agg #[.int .i64 0, .int .i64 0, .string ⟨#[]⟩]) 3 32 Tryz.underlying81 hi0 hz0 hz1 hz2 rfl (by decide) _ _ _ rfl (hown.alloc _) ⟨wr.heap.size, 0, none⟩ 1 1 [.int .i64 0, .int .i64 (l.length : Int), .string ⟨#[]⟩] rfl rfl ?c1 ?c2 ?c3 ?c4 ?c5 ?_)
      case c2 => exact ⟨rfl, rfl, rfl⟩
      case c3 => unfold maxLen; omega
      case c4 => omega
      case c5 => omega
      · intro v' w3 hown3 hgrow _
        have hb3 : Below w1.heap.size wr w3 := ((Below.refl _ _).alloc hsz _).trans ((Below.refl _ _).grown hgrow (by simp; omega) (owns_row hown))
        have hb13 : Below w1.heap.size w1 w3 := hbel.trans hb3
        have HO : Hid (w3.ownsRow w1.heap.size 132 3 v' (acc ++ [(⟨0, l.length, []⟩ : Tok)]).length (tksC (acc ++ [(⟨0, l.length, []⟩ : Tok)]))) := by unfold Hid; rw [tksC_snoc]; simpa [tcells, bs] using hown3
        have HBB : Hid (Below w.heap.size w w3) := HB.out.trans (hb13.mono (by omega))
        clear hgrow hown hown3 hb3 hb13
        go_wp2_with fail
        go_ret
        refine ⟨HBB.out, ?_⟩
        have e0 : i = l.length := by omega
        unfold ScanP
        rw [← HS.out, e0, List.drop_length, SC_nil]
        exact ⟨_, rfl, owns_base HO.out (by omega)⟩
end Go.Proofs.YtfpeboeknjlkbaaGreatDoor
/- caught, and what Parse defers. -/
namespace Go.Proofs.YtfpeboeknjlkbaaGreatDoor
open Go.RowKit
open Tp (Tok hd tx at' stp X S G Pr)

set_option maxRecDepth 100000 in
set_option maxHeartbeats 400000 in
theorem caught_at (a : Option Addr) (w : World) :
    Calls Tryz.prog 35 #[.iface 124 (.pointer a)] w fun e w' => e = .returned (.iface 124 (.pointer a)) ∧ w' = w := by
  have hta : ∀ (a : Option Addr) (w : World), (Instr.typeAssert (.iface 124 (.pointer a)) 20 124 true).run Tryz.prog w = .ok (.tuple #[.pointer a, .bool true]) w := fun a w => by kernel_rfl
  go_enter Tryz.func35, Tryz.ntmps35
  go_wp2
  go_ret
  exact ⟨rfl, rfl⟩
def m0 : Array Value := #[.string ⟨#[]⟩, .slice none 0 0, .slice none 0 0, .slice none 0 0, .slice none 0 0]
set_option maxRecDepth 100000 in
set_option maxHeartbeats 800000 in
theorem late_panicking (mb eb ab : Nat) (older : List PanicEntry) (w : World) (c0 : ∀ i, i < 5 → (w.cell? ⟨mb, i, none⟩).isSome = true) (z0 : ∀ i, w.frozen? ⟨mb, i, none⟩ = false) (ce : (w.cell? ⟨eb, 0, none⟩).isSome = true) (ze : w.frozen? ⟨eb, 0, none⟩ = false) (hne : mb ≠ eb) :
    CallsD Tryz.prog 34 #[.pointer (some ⟨mb, 0, none⟩), .pointer (some ⟨eb, 0, none⟩)] (.panicking ({ v := .iface 124 (.pointer (some ⟨ab, 0, none⟩)), recovered := false } :: older)) w fun e u' w' =>
      e = .returned (.tuple #[]) ∧ u' = .panicking ({ v := .iface 124 (.pointer (some ⟨ab, 0, none⟩)), recovered := true } :: older) ∧ w' = (((((w.setCell ⟨mb, 0, none⟩ (.string ⟨#[]⟩)).setCell ⟨mb, 1, none⟩ (.slice none 0 0)).setCell ⟨mb, 2, none⟩ (.slice none 0 0)).setCell ⟨mb, 3, none⟩ (.slice none 0 0)).setCell ⟨mb, 4, none⟩ (.slice none 0 0)).setCell ⟨eb, 0, none⟩ (.iface 124 (.pointer (some ⟨ab, 0, none⟩))) := by
  refine callsD_of_wpS Tryz.func34 rfl fun c₀ cs hu => ?_
  apply wpS_seq
  apply wpS_region
  simp [wpOpsS, go_sem, recoverD, hu, Tryz.ntmps34, Exit.thenS]
  refine wpS_of_wp ?_
  have k0 := c0 0 (by omega)
  have k1 := c0 1 (by omega)
  have k2 := c0 2 (by omega)
  have k3 := c0 3 (by omega)
  have k4 := c0 4 (by omega)
  rw [Option.isSome_iff_exists] at k0 k1 k2 k3 k4 ce
  obtain ⟨x0, k0⟩ := k0
  obtain ⟨x1, k1⟩ := k1
  obtain ⟨x2, k2⟩ := k2
  obtain ⟨x3, k3⟩ := k3
  obtain ⟨x4, k4⟩ := k4
  obtain ⟨xe, ke⟩ := ce
  have hne' : eb ≠ mb := fun e => hne e.symm
  generalize hQ : (fun (e : Exit) (a' : Act) (w' : World) => bodyPostS Tryz.prog _ _ _ _ e a' _ w') = Q
  show Code.wp Tryz.prog _ _ { tmps := #[.pointer (some ⟨mb, 0, none⟩), .pointer (some ⟨eb, 0, none⟩), .iface 124 (.pointer (some ⟨ab, 0, none⟩)), .iface 124 (.pointer (some ⟨ab, 0, none⟩)), undef, undef, undef, undef, undef], defers := [] } w
  go_wp2_with fail
  refine (caught_at _ w).mono ?_
  rintro e w' ⟨rfl, rfl⟩
  go_wp2_with fail
  subst hQ
  simp [bodyPostS, results, Tryz.results34]
set_option maxRecDepth 100000 in
set_option maxHeartbeats 800000 in
theorem late_idle (m e : Addr) (w : World) :
    CallsD Tryz.prog 34 #[.pointer (some m), .pointer (some e)] .returning w fun e u' w' => e = .returned (.tuple #[]) ∧ u' = .returning ∧ w' = w := by
  refine callsD_of_wpS Tryz.func34 rfl fun c₀ cs hu => ?_
  apply wpS_seq
  apply wpS_region
  simp [wpOpsS, go_sem, recoverD, hu, Tryz.ntmps34, Exit.thenS]
  refine wpS_of_wp ?_
  generalize hQ : (fun (e : Exit) (a' : Act) (w' : World) => bodyPostS Tryz.prog _ _ _ _ e a' _ w') = Q
  show Code.wp Tryz.prog _ _ { tmps := #[.pointer (some m), .pointer (some e), .nilIface, .nilIface, undef, undef, undef, undef, undef], defers := [] } w
  go_wp2_with fail
  subst hQ
  cases c₀
  simp_all [bodyPostS, results, Tryz.results34]
end Go.Proofs.YtfpeboeknjlkbaaGreatDoor
/- Parse. -/
namespace Go.Proofs.YtfpeboeknjlkbaaGreatDoor
open Go.RowKit
open Tp (Tok hd tx at' stp X S G Pr)

theorem toks_of {w : World} {base tb n cap : Nat} {ts : List Tok} (h : w.ownsRow base 132 3 (.slice (some ⟨tb, 0, none⟩) n cap) ts.length (tksC ts)) : n = ts.length ∧ base ≤ tb ∧ tb < w.heap.size ∧ ∀ i t, ts[i]? = some t → TokAt w tb i t := by
  rcases h.2 with ⟨q, _⟩ | ⟨g, c, cur, q0, q1, q2, q3, q4, q5, q6⟩
  · cases q
  · cases q0
    refine ⟨rfl, q1, lt_blk q2, fun i t hi => ?_⟩
    have hil : i < ts.length := by rw [List.getElem?_eq_some_iff] at hi; exact hi.1
    have hcell : ∀ j, j < 3 → w.cell? ⟨tb, i * 3 + j, none⟩ = (tksC ts)[i * 3 + j]? := by
      intro j hj
      rw [cell_blk q2, ← Array.getElem?_toList, ← q6, List.getElem?_take_of_lt (by omega)]
    have hget : ∀ (l : List Tok) (i j : Nat) (t : Tok), l[i]? = some t → j < 3 → (tksC l)[i * 3 + j]? = (tcells t)[j]? := by
      intro l
      induction l with
      | nil => intro i j t h; cases h
      | cons u l ih =>
        intro i j t h hj
        have e : tksC (u :: l) = tcells u ++ tksC l := by simp [tksC]
        have hl : (tcells u).length = 3 := by simp [tcells]
        rw [e]
        cases i with
        | zero => simp at h; subst h; rw [List.getElem?_append_left (by omega)]; simp
        | succ i =>
          rw [List.getElem?_append_right (by omega), hl, show (i + 1) * 3 + j - 3 = i * 3 + j by omega]
          exact ih i j t (by simpa using h) hj
    refine ⟨?_, ?_, ?_⟩
    · have := hcell 0 (by omega); rw [hget ts i 0 t hi (by omega)] at this; simpa [tcells] using this
    · have := hcell 1 (by omega); rw [hget ts i 1 t hi (by omega)] at this; simpa [tcells] using this
    · have := hcell 2 (by omega); rw [hget ts i 2 t hi (by omega)] at this; simpa [tcells] using this
theorem Ext.toBelow {b B : Nat} {w w' : World} (h : Ext b w w') (hb : B ≤ b) (hB : B ≤ w.heap.size) : Below B w w' := ⟨h.os, h.tape, h.output, h.size, fun k hk => h.block k (by omega) (by omega)⟩
theorem VM.mono {w w' : World} {B B' : Nat} {m : Tp.M} {v : Value} (h : VM B m v w) (hB : B' ≤ B) (hk : ∀ b, B ≤ b → b < w.heap.size → w'.heap[b]? = w.heap[b]?) : VM B' m v w' := by
  obtain ⟨ia, ga, pa, ba, ic, gc, pc, bc, pcs, bcs, h0, h1, h2, h3, h4, h5, h6⟩ := h
  have hD : ∀ b, B ≤ b → b < w.heap.size → w'.heap[b]? = w.heap[b]? ∧ B' ≤ b := fun b hb hl => ⟨hk b hb hl, by omega⟩
  exact ⟨ia, ga, pa, ba, ic, gc, pc, bc, pcs, bcs, h0, h1.mono hD, h2.mono hD, RepP.mono hD _ _ h3, h4.mono hD, h5.mono' hD, h6.mono hD⟩
/- what Parse leaves -/
def ParseP (w : World) (l : List UInt8) (e : Ending) (w' : World) : Prop :=
  match Tp.parse l with
  | .ok m => ∃ v, e = .returned (.tuple #[v, .nilIface]) ∧ VM w.heap.size m v w'
  | .error er => ∃ ab, e = .returned (.tuple #[.agg m0, .iface 124 (.pointer (some ⟨ab, 0, none⟩))]) ∧ w.heap.size ≤ ab ∧ w'.cell? ⟨ab, 0, none⟩ = some (.int .i64 (er.1 : Int)) ∧ w'.cell? ⟨ab, 1, none⟩ = some (.int .i64 (er.2 : Int))
theorem cells5 {w : World} {b : Nat} {v0 v1 v2 v3 v4 : Value} {t : Nat} (h : w.heap[b]? = some (.cells #[v0, v1, v2, v3, v4] t (0, 0))) : ∀ i, i < 5 → (w.cell? ⟨b, i, none⟩).isSome = true := by
  intro i hi
  rw [cell_blk h]
  match i, hi with
  | 0, _ => rfl
  | 1, _ => rfl
  | 2, _ => rfl
  | 3, _ => rfl
  | 4, _ => rfl
def late (w : World) (mb eb ab : Nat) : World := (((((w.setCell ⟨mb, 0, none⟩ (.string ⟨#[]⟩)).setCell ⟨mb, 1, none⟩ (.slice none 0 0)).setCell ⟨mb, 2, none⟩ (.slice none 0 0)).setCell ⟨mb, 3, none⟩ (.slice none 0 0)).setCell ⟨mb, 4, none⟩ (.slice none 0 0)).setCell ⟨eb, 0, none⟩ (.iface 124 (.pointer (some ⟨ab, 0, none⟩)))
theorem late_below (w : World) (mb ab : Nat) : Below mb w (late w mb (mb + 1) ab) := below_set (below_set5 w mb _ _ _ _ _) (by simp) 0 _
theorem late_cell {w : World} {mb ab b j : Nat} (hb : mb + 1 < b) : (late w mb (mb + 1) ab).cell? ⟨b, j, none⟩ = w.cell? ⟨b, j, none⟩ := by
  refine World.cell?_of_block (w := w) ?_
  unfold late
  rw [Below.heap_setCell _ _ _ _ (by simp; omega), Below.heap_setCell _ _ _ _ (by simp; omega), Below.heap_setCell _ _ _ _ (by simp; omega), Below.heap_setCell _ _ _ _ (by simp; omega), Below.heap_setCell _ _ _ _ (by simp; omega), Below.heap_setCell _ _ _ _ (by simp; omega)]
theorem late_blk {w : World} {mb ab : Nat} (h1 : w.heap[mb]? = some (.cells m0 32 (0, 0))) (h2 : w.heap[mb + 1]? = some (.cells #[.nilIface] 34 (0, 0))) : (∀ i, (late w mb (mb + 1) ab).cell? ⟨mb, i, none⟩ = m0[i]?) ∧ (late w mb (mb + 1) ab).cell? ⟨mb + 1, 0, none⟩ = some (.iface 124 (.pointer (some ⟨ab, 0, none⟩))) := by
  have a1 := set_blk 4 (.slice none 0 0) (set_blk 3 (.slice none 0 0) (set_blk 2 (.slice none 0 0) (set_blk 1 (.slice none 0 0) (set_blk 0 (.string ⟨#[]⟩) h1))))
  have a2 := (Below.heap_setCell (((((w.setCell ⟨mb, 0, none⟩ (.string ⟨#[]⟩)).setCell ⟨mb, 1, none⟩ (.slice none 0 0)).setCell ⟨mb, 2, none⟩ (.slice none 0 0)).setCell ⟨mb, 3, none⟩ (.slice none 0 0)).setCell ⟨mb, 4, none⟩ (.slice none 0 0)) ⟨mb + 1, 0, none⟩ (.iface 124 (.pointer (some ⟨ab, 0, none⟩))) mb (by simp)).trans a1
  refine ⟨fun i => (cell_blk a2).trans rfl, ?_⟩
  unfold late
  have b1 : (((((w.setCell ⟨mb, 0, none⟩ (.string ⟨#[]⟩)).setCell ⟨mb, 1, none⟩ (.slice none 0 0)).setCell ⟨mb, 2, none⟩ (.slice none 0 0)).setCell ⟨mb, 3, none⟩ (.slice none 0 0)).setCell ⟨mb, 4, none⟩ (.slice none 0 0)).heap[mb + 1]? = some (.cells #[.nilIface] 34 (0, 0)) := by
    rw [Below.heap_setCell _ _ _ _ (by simp), Below.heap_setCell _ _ _ _ (by simp), Below.heap_setCell _ _ _ _ (by simp), Below.heap_setCell _ _ _ _ (by simp), Below.heap_setCell _ _ _ _ (by simp)]
    exact h2
  exact (cell_blk (set_blk 0 (.iface 124 (.pointer (some ⟨ab, 0, none⟩))) b1)).trans rfl
set_option maxRecDepth 100000 in
set_option maxHeartbeats 2000000 in
theorem parse_post (w : World) (l : List UInt8) (hl : l.length ≤ 100000) (hmk : Mk w) (hlv : Lv w) :
    Calls Tryz.prog 12 #[.string (bs l)] w fun e w' => Below w.heap.size w w' ∧ ParseP w l e w' := by
  have hmf : ∀ (fn : Fn) (first cap : Array Value) (w : World), (Instr.makeFunc fn first cap).run Tryz.prog w = .ok (.func fn first cap) w := fun _ _ _ _ => rfl
  obtain ⟨mb, hmb⟩ : ∃ mb, mb = w.heap.size := ⟨_, rfl⟩
  have hm1 := hmk.1
  have hl1 := hlv.1
  go_enter_defers Tryz.func12, Tryz.ntmps12
  go_wp2_with fail
  have hb0 : Below w.heap.size w ((w.alloc (.cells #[.string ⟨#[]⟩, .slice none 0 0, .slice none 0 0, .slice none 0 0, .slice none 0 0] 32)).alloc (.cells #[.nilIface] 34)) := ((Below.refl _ _).alloc (Nat.le_refl _) _).alloc (by simp) _
  have hsz0 : ((w.alloc (.cells #[.string ⟨#[]⟩, .slice none 0 0, .slice none 0 0, .slice none 0 0, .slice none 0 0] 32)).alloc (.cells #[.nilIface] 34)).heap.size = w.heap.size + 2 := by simp
  have hbm : ((w.alloc (.cells #[.string ⟨#[]⟩, .slice none 0 0, .slice none 0 0, .slice none 0 0, .slice none 0 0] 32)).alloc (.cells #[.nilIface] 34)).heap[w.heap.size]? = some (.cells #[.string ⟨#[]⟩, .slice none 0 0, .slice none 0 0, .slice none 0 0, .slice none 0 0] 32 (0, 0)) := (Below.heap_alloc _ _ _ (by simp)).trans (new_blk _ _)
  have hbe : ((w.alloc (.cells #[.string ⟨#[]⟩, .slice none 0 0, .slice none 0 0, .slice none 0 0, .slice none 0 0] 32)).alloc (.cells #[.nilIface] 34)).heap[w.heap.size + 1]? = some (.cells #[.nilIface] 34 (0, 0)) := by
    have := new_blk (w.alloc (.cells #[.string ⟨#[]⟩, .slice none 0 0, .slice none 0 0, .slice none 0 0, .slice none 0 0] 32)) (.cells #[.nilIface] 34)
    simpa using this
  generalize ((w.alloc (.cells #[.string ⟨#[]⟩, .slice none 0 0, .slice none 0 0, .slice none 0 0, .slice none 0 0] 32)).alloc (.cells #[.nilIface] 34)) = w1 at hb0 hsz0 hbm hbe ⊢
  have hmk1 := hmk.below hb0 hm1
  have hlv1 := hlv.below hb0 hl1
  have hm2 : 1 < mb := by omega
  have hl2 : 3 < mb := by omega
  have hsz1 : mb + 2 ≤ w1.heap.size := by omega
  have HB0 : Hid (Below mb w w1) := by rw [hmb]; exact hb0
  have HMB : Hid (w.heap.size = mb) := hmb.symm
  rw [← hmb] at hbm hbe ⊢
  clear hb0 hsz0 hm1 hl1 hmk hlv hmb
  -- the way out by a panic
  have HOUT : Hid (∀ (wX : World) (er : Tp.Er) (ab : Nat), Below (mb + 2) w1 wX → mb + 2 ≤ ab → wX.cell? ⟨ab, 0, none⟩ = some (.int .i64 (er.1 : Int)) → wX.cell? ⟨ab, 1, none⟩ = some (.int .i64 (er.2 : Int)) → Tp.parse l = .error er →
      Below w.heap.size w (late wX mb (mb + 1) ab) ∧ ParseP w l (.returned (.tuple #[.agg m0, .iface 124 (.pointer (some ⟨ab, 0, none⟩))])) (late wX mb (mb + 1) ab)) := by
    intro wX er ab h1 h2 h3 h4 h5
    rw [HMB.out]
    refine ⟨(HB0.out.trans (h1.mono (by omega))).trans (late_below wX mb ab), ?_⟩
    unfold ParseP
    rw [h5, HMB.out]
    exact ⟨ab, rfl, by omega, (late_cell (by omega)).trans h3, (late_cell (by omega)).trans h4⟩
  have HBM : Hid (∀ wX, Below (mb + 2) w1 wX → (∀ i, i < 5 → (wX.cell? ⟨mb, i, none⟩).isSome = true) ∧ (∀ i, wX.frozen? ⟨mb, i, none⟩ = false) ∧ (wX.cell? ⟨mb + 1, 0, none⟩).isSome = true ∧ wX.frozen? ⟨mb + 1, 0, none⟩ = false) := by
    intro wX hb
    have e1 := (hb.block mb (by omega)).trans hbm
    have e2 := (hb.block (mb + 1) (by omega)).trans hbe
    exact ⟨cells5 e1, fun i => frozen_blk e1, by rw [cell_blk e2]; rfl, frozen_blk e2⟩
  have HLB : Hid (∀ wX ab, Below (mb + 2) w1 wX → (∀ i, (late wX mb (mb + 1) ab).cell? ⟨mb, i, none⟩ = m0[i]?) ∧ (late wX mb (mb + 1) ab).cell? ⟨mb + 1, 0, none⟩ = some (.iface 124 (.pointer (some ⟨ab, 0, none⟩)))) := by
    intro wX ab hb
    exact late_blk ((hb.block mb (by omega)).trans hbm) ((hb.block (mb + 1) (by omega)).trans hbe)
  refine (scan_post w1 l hl hmk1).mono ?_
  rintro e w3 ⟨hb3, hq⟩
  unfold ScanP at hq
  generalize hsc : SC 0 0 l = res at hq
  have hsz3 := hb3.size
  rcases res with er | tks
  · obtain ⟨ab, q1, rfl, q2, q3⟩ := hq.out
    have HP : Hid (Tp.parse l = .error er) := by show _ = _; unfold Tp.parse; rw [show Tp.scan (l.length + 1) 0 0 l = .error er from hsc]; rfl
    clear hsc
    go_wp2_with fail
    obtain ⟨c0, z0, ce, ze⟩ := HBM.out w3 (hb3.mono hsz1)
    refine leaves_cons (f := 34) (args := #[.pointer (some ⟨mb, 0, none⟩), .pointer (some ⟨mb + 1, 0, none⟩)]) (by simp) (by simp [go_sem]) ?_
    refine (late_panicking mb (mb + 1) ab [] w3 c0 z0 ce ze (by omega)).mono ?_
    rintro e u' w'' ⟨rfl, rfl, hw⟩
    have hout := HOUT.out w3 er ab (hb3.mono hsz1) (by omega) q2 q3 HP.out
    obtain ⟨k1, k2⟩ := HLB.out w3 ab (hb3.mono hsz1)
    have hw' : w'' = late w3 mb (mb + 1) ab := hw
    rw [← hw'] at hout k1 k2
    simp only [m0] at k1 hout
    clear hw hw'
    simp [Leaves, settle, results, Tryz.results12, go_sem, k1, k2]
    exact hout
  · obtain ⟨v, rfl, hown⟩ := hq
    have HSC : Hid (Tp.scan (l.length + 1) 0 0 l = .ok tks) := hsc
    clear hsc
    obtain ⟨tk1, tk2, tk3, tt, tz, tk4, tk5⟩ := Tp.scan_tks _ _ _ _ _ HSC.out
    have hlen := tk3 (by omega)
    have hne : tks ≠ [] := by rw [tk4]; simp
    have HLAST : Hid (∀ t, tks.getLast? = some t → t.kind = 0) := by intro t ht; rw [tk4, List.getLast?_concat] at ht; cases ht; exact tk5
    clear tk4 tk5
    obtain ⟨ta, tc, rfl⟩ := owns_shape hown
    obtain ⟨tb, rfl⟩ : ∃ tb, ta = some ⟨tb, 0, none⟩ := by
      rcases hown.2 with ⟨q, q'⟩ | ⟨g, c, cur, q0, _⟩
      · exact absurd (List.eq_nil_of_length_eq_zero q') hne
      · cases q0; exact ⟨g, rfl⟩
    obtain ⟨_, t1, t2, t3⟩ := toks_of hown
    go_wp2_with fail
    refine (keptWords_any w3).mono ?_
    rintro e w4 ⟨rfl, hw4⟩
    have hb4 : Below w3.heap.size w3 w4 := by rw [hw4]; exact (Below.refl _ _).alloc (Nat.le_refl _) _
    have hk4 : w4.heap[w3.heap.size]? = some (.map (ents 21) 21) := by rw [hw4]; exact new_blk _ _
    have hs4 : w3.heap.size < w4.heap.size := by rw [hw4]; simp
    clear hw4
    go_wp2_with fail
    have hal : Below w4.heap.size w4 (w4.alloc (.cells #[.slice (some ⟨tb, 0, none⟩) tks.length tc, .int .i64 0, .map (some w3.heap.size), .int .i64 0, .int .i64 0] 86)) := (Below.refl _ _).alloc (Nat.le_refl _) _
    have hpb : (w4.alloc (.cells #[.slice (some ⟨tb, 0, none⟩) tks.length tc, .int .i64 0, .map (some w3.heap.size), .int .i64 0, .int .i64 0] 86)).heap[w4.heap.size]? = some (.cells #[.slice (some ⟨tb, 0, none⟩) tks.length tc, .int .i64 0, .map (some w3.heap.size), .int .i64 0, .int .i64 0] 86 (0, 0)) := new_blk _ _
    have hs5 : w4.heap.size < (w4.alloc (.cells #[.slice (some ⟨tb, 0, none⟩) tks.length tc, .int .i64 0, .map (some w3.heap.size), .int .i64 0, .int .i64 0] 86)).heap.size := by simp
    generalize w4.alloc (.cells #[.slice (some ⟨tb, 0, none⟩) tks.length tc, .int .i64 0, .map (some w3.heap.size), .int .i64 0, .int .i64 0] 86) = w5 at hal hpb hs5 ⊢
    have hb35 : Below w3.heap.size w3 w5 := hb4.trans (hal.mono hb4.size)
    have hb15 : Below w1.heap.size w1 w5 := hb3.trans (hb35.mono hsz3)
    have hst : St w5 ⟨w4.heap.size, tb, w3.heap.size, tc⟩ tks tks 0 0 := by
      refine ⟨(cell_blk hpb).trans rfl, (cell_blk hpb).trans (by simp), (cell_blk hpb).trans rfl, (cell_blk hpb).trans rfl, (cell_blk hpb).trans rfl, fun j => frozen_blk hpb, (hal.block _ hs4).trans hk4, fun i t hi => ?_, by simp, hne, by omega, HLAST.out, ⟨by show tb < w4.heap.size; omega, hs4⟩, fun t ht hk c hc => ((tk1 t ht).k2 hk).2 c hc, fun t ht => ?_, hlv1.below hb15 (by omega), by show 3 < w4.heap.size; omega⟩
      · have := t3 i t hi
        exact ⟨(hb35.cell (p := ⟨tb, _, none⟩) t2).trans this.c0, (hb35.cell (p := ⟨tb, _, none⟩) t2).trans this.c1, (hb35.cell (p := ⟨tb, _, none⟩) t2).trans this.c2⟩
      · have := Tp.scan_tl _ _ _ _ _ HSC.out t ht
        omega
    have hno : Tp.module (20 * tks.length + 20) tks ≠ .error (99, 0) := Tp.module_ne tk1.gd (by omega)
    have hcall := module_post (f := 20 * tks.length + 20) (by omega) hst hno
    generalize hres : Tp.module (20 * tks.length + 20) tks = res at hcall
    have HP : Hid (Tp.parse l = res) := by
      show _ = _
      unfold Tp.parse
      rw [HSC.out]
      exact hres
    clear hres hno
    refine hcall.mono ?_
    intro e w6 hq
    have hm5 : mb + 2 ≤ w5.heap.size := by omega
    have hm4 : mb + 2 ≤ w4.heap.size := by omega
    rcases res with er | m
    · obtain ⟨ht, hx⟩ := hq
      obtain ⟨ab, q1, rfl, q2, q3⟩ := ht.out
      have hb6 : Below (mb + 2) w1 w6 := (hb15.mono hsz1).trans (hx.toBelow hm4 hm5)
      go_wp2_with fail
      obtain ⟨c0, z0, ce, ze⟩ := HBM.out w6 hb6
      refine leaves_cons (f := 34) (args := #[.pointer (some ⟨mb, 0, none⟩), .pointer (some ⟨mb + 1, 0, none⟩)]) (by simp) (by simp [go_sem]) ?_
      refine (late_panicking mb (mb + 1) ab [] w6 c0 z0 ce ze (by omega)).mono ?_
      rintro e u' w'' ⟨rfl, rfl, hw⟩
      have hout := HOUT.out w6 er ab hb6 (by omega) q2 q3 HP.out
      obtain ⟨k1, k2⟩ := HLB.out w6 ab hb6
      have hw' : w'' = late w6 mb (mb + 1) ab := hw
      rw [← hw'] at hout k1 k2
      simp only [m0] at k1 hout
      clear hw hw'
      simp [Leaves, settle, results, Tryz.results12, go_sem, k1, k2]
      exact hout
    · obtain ⟨v, rfl, hv, hx⟩ := hq
      have hb6 : Below (mb + 2) w1 w6 := (hb15.mono hsz1).trans (hx.toBelow hm4 hm5)
      have e1 := (hb6.block mb (by omega)).trans hbm
      have e2 := (hb6.block (mb + 1) (by omega)).trans hbe
      obtain ⟨ia, ga, pa, ba, ic, gc, pc, bc, pcs, bcs, hvv, hvr⟩ := hv
      have HVR : Hid (VM w5.heap.size m (.agg (mcells (bs m.name) (.slice ia m.imports.length ic) (.slice ga m.vars.length gc) (.slice pa m.procs.length pc) (.slice ba m.body.length bc))) w6) := ⟨ia, ga, pa, ba, ic, gc, pc, bc, pcs, bcs, rfl, hvr⟩
      subst hvv
      clear hvr
      simp only [mcells]
      have y : ∀ i, w6.cell? ⟨mb, i, none⟩ = m0[i]? := fun i => cell_blk e1
      have z : ∀ i, w6.frozen? ⟨mb, i, none⟩ = false := fun i => frozen_blk e1
      have ye : w6.cell? ⟨mb + 1, 0, none⟩ = some .nilIface := (cell_blk e2).trans rfl
      have ze : w6.frozen? ⟨mb + 1, 0, none⟩ = false := frozen_blk e2
      simp only [m0] at y
      go_wp2_with fail
      obtain ⟨wd, hwd⟩ : ∃ wd, wd = (((((w6.setCell ⟨mb, 0, none⟩ (.string (bs m.name))).setCell ⟨mb, 1, none⟩ (.slice ia m.imports.length ic)).setCell ⟨mb, 2, none⟩ (.slice ga m.vars.length gc)).setCell ⟨mb, 3, none⟩ (.slice pa m.procs.length pc)).setCell ⟨mb, 4, none⟩ (.slice ba m.body.length bc)).setCell ⟨mb + 1, 0, none⟩ .nilIface := ⟨_, rfl⟩
      have a1 := set_blk 4 (.slice ba m.body.length bc) (set_blk 3 (.slice pa m.procs.length pc) (set_blk 2 (.slice ga m.vars.length gc) (set_blk 1 (.slice ia m.imports.length ic) (set_blk 0 (.string (bs m.name)) e1))))
      have hx : ∀ b, b ≠ mb → b ≠ mb + 1 → wd.heap[b]? = w6.heap[b]? := by
        intro b h1 h2
        rw [hwd, Below.heap_setCell _ _ _ _ (by simpa using h2), Below.heap_setCell _ _ _ _ (by simpa using h1), Below.heap_setCell _ _ _ _ (by simpa using h1), Below.heap_setCell _ _ _ _ (by simpa using h1), Below.heap_setCell _ _ _ _ (by simpa using h1), Below.heap_setCell _ _ _ _ (by simpa using h1)]
      have hk1 : wd.heap[mb]? = some (.cells (mcells (bs m.name) (.slice ia m.imports.length ic) (.slice ga m.vars.length gc) (.slice pa m.procs.length pc) (.slice ba m.body.length bc)) 32 (0, 0)) := by
        rw [hwd, Below.heap_setCell _ _ _ _ (by simp)]; exact a1
      have hk2 : wd.cell? ⟨mb + 1, 0, none⟩ = some .nilIface := by
        rw [hwd]
        have b1 : (((((w6.setCell ⟨mb, 0, none⟩ (.string (bs m.name))).setCell ⟨mb, 1, none⟩ (.slice ia m.imports.length ic)).setCell ⟨mb, 2, none⟩ (.slice ga m.vars.length gc)).setCell ⟨mb, 3, none⟩ (.slice pa m.procs.length pc)).setCell ⟨mb, 4, none⟩ (.slice ba m.body.length bc)).heap[mb + 1]? = some (.cells #[.nilIface] 34 (0, 0)) := by
          rw [Below.heap_setCell _ _ _ _ (by simp), Below.heap_setCell _ _ _ _ (by simp), Below.heap_setCell _ _ _ _ (by simp), Below.heap_setCell _ _ _ _ (by simp), Below.heap_setCell _ _ _ _ (by simp)]
          exact e2
        exact (cell_blk (set_blk 0 .nilIface b1)).trans rfl
      have hbd : Below mb w6 wd := by rw [hwd]; exact below_set (below_set5 w6 mb _ _ _ _ _) (by simp) 0 _
      have k1 : ∀ i, wd.cell? ⟨mb, i, none⟩ = (mcells (bs m.name) (.slice ia m.imports.length ic) (.slice ga m.vars.length gc) (.slice pa m.procs.length pc) (.slice ba m.body.length bc))[i]? := fun i => cell_blk hk1
      rw [← hwd]
      have hfin : Below w.heap.size w wd ∧ ParseP w l (.returned (.tuple #[.agg (mcells (bs m.name) (.slice ia m.imports.length ic) (.slice ga m.vars.length gc) (.slice pa m.procs.length pc) (.slice ba m.body.length bc)), .nilIface])) wd := by
        rw [HMB.out]
        refine ⟨(HB0.out.trans (hb6.mono (by omega))).trans hbd, ?_⟩
        unfold ParseP
        rw [HP.out, HMB.out]
        exact ⟨_, rfl, HVR.out.mono (by omega) (fun b h1 h2 => hx b (by omega) (by omega))⟩
      clear hwd a1 hx hk1 hbd
      simp only [mcells] at k1 hfin
      refine leaves_cons (f := 34) (args := #[.pointer (some ⟨mb, 0, none⟩), .pointer (some ⟨mb + 1, 0, none⟩)]) (by simp) (by simp [go_sem]) ?_
      refine (late_idle ⟨mb, 0, none⟩ ⟨mb + 1, 0, none⟩ wd).mono ?_
      rintro e u' w'' ⟨rfl, rfl, rfl⟩
      simp [Leaves, settle, results, Tryz.results12, go_sem, k1, hk2]
      exact hfin
end Go.Proofs.YtfpeboeknjlkbaaGreatDoor
