import Derived.Test.YthkdefhngkangaaDoorKWK
import Derived.Lib.AppendStr
import Derived.Lib.OthersKept
import Derived.Shelf.Strconv.AppendIntPublic10
import Derived.CellFam
import Derived.Lib.Hide
/- scan. -/
namespace Go.Proofs.YthkdefhngkangaaDoor
open Go.RowKit
open Tp (Tok hd tx at' stp)

theorem pastI_stop {f : UInt8 → Bool} {l : List UInt8} : ∀ (n i : Nat), l.length - i ≤ n → (h : pastI f l i < l.length) → f l[pastI f l i] = false := by
  intro n
  induction n with
  | zero =>
    intro i hn h
    have : ¬ i < l.length := by omega
    rw [pastI_end this] at h
    exact absurd h this
  | succ n ih =>
    intro i hn h
    by_cases hi : i < l.length
    · cases hb : f l[i]
      · have e := pastI_no hi hb
        simp only [e, hb]
      · have e := pastI_yes hi hb
        have := ih (i + 1) (by omega) (by rw [e]; exact h)
        simp only [e] at this
        exact this
    · rw [pastI_end hi] at h
      exact absurd h hi
theorem TxAt.ofBytes (w : World) (e : TypeId) (l : List UInt8) : TxAt (Lib.bytesWorld w e (bs l)) w.heap.size l := by
  intro j c hj
  have hjl : j < l.length := by rw [List.getElem?_eq_some_iff] at hj; exact hj.1
  rw [Lib.bytesWorld_cell w e (bs l) j (by simpa [bs, ByteArray.size] using hjl)]
  simp [bs, List.getD_eq_getElem?_getD, hj]
theorem below_bytes (w : World) (e : TypeId) (s : ByteArray) : Below w.heap.size w (Lib.bytesWorld w e s) :=
  ⟨by simp only [Lib.bytesWorld, World.freeze]; repeat (first | rfl | split), by simp only [Lib.bytesWorld, World.freeze]; repeat (first | rfl | split), by simp only [Lib.bytesWorld, World.freeze]; repeat (first | rfl | split), by rw [Lib.bytesWorld_size]; omega, fun k hk => Lib.bytesWorld_at_old w e s k hk⟩
def ScanP (w : World) (l : List UInt8) (e : Ending) (w' : World) : Prop :=
  match SC 0 0 l with
  | .ok ts => ∃ v, e = .returned v ∧ w'.ownsRow w.heap.size 84 3 v ts.length (tksC ts)
  | .error er => Thrown w.heap.size er e w'
theorem news3 (w : World) (v0 v1 v2 : Value) (t : TypeId) : ∀ j u, [v0, v1, v2][j]? = some u → (w.alloc (.cells #[v0, v1, v2] t)).cell? ((⟨w.heap.size, 0, none⟩ : Addr).add j) = some u := by
  intro j u hj
  rw [Addr.add_lit, cell_blk (new_blk _ _), Nat.zero_add]
  simpa using hj
theorem owns_below {w w' : World} {base e size n : Nat} {v : Value} {xs : List Value} (h : w.ownsRow base e size v n xs) (k : Below w.heap.size w w') : w'.ownsRow base e size v n xs := by
  refine ⟨h.1, ?_⟩
  rcases h.2 with h1 | ⟨g, cap, cur, h1, h2, h3, h4⟩
  · exact Or.inl h1
  · refine Or.inr ⟨g, cap, cur, h1, h2, ?_, h4⟩
    have hg : g < w.heap.size := by rw [Array.getElem?_eq_some_iff] at h3; exact h3.1
    rw [k.block g hg]; exact h3
theorem tksC_snoc (l : List Tok) (t : Tok) : tksC (l ++ [t]) = tksC l ++ tcells t := by simp [tksC]
theorem tksC_len (l : List Tok) : (tksC l).length = 3 * l.length := by
  induction l with
  | nil => rfl
  | cons t l ih => simp only [tksC, List.map_cons, List.flatten_cons, List.length_append, List.length_cons] at ih ⊢; rw [ih]; simp [tcells]; omega
set_option maxRecDepth 100000 in
set_option maxHeartbeats 1000000 in
theorem scan_post (w : World) (l : List UInt8) (hl : l.length ≤ 100000) (hmk : Mk w) :
    Calls Tryd.prog 22 #[.string (bs l)] w fun e w' => Below w.heap.size w w' ∧ ScanP w l e w' := by
  obtain ⟨i0, hi0, hz0, hz1, hz2⟩ := info_parts Tryd.infoToken
  have hcv := Lib.run_convert_string_bytes (P := Tryd.prog) w 9 62 5 (bs l) Tryd.underlying9 Tryd.underlying62 Tryd.underlying5
  have hszl : (bs l).size = l.length := by simp [bs, ByteArray.size]
  have hge := grownCap_ge w (bs l).size 0 5
  have hT := TxAt.ofBytes w 5 l
  have hB := below_bytes w 5 (bs l)
  have hS0 := Lib.bytesWorld_size w 5 (bs l)
  rw [hszl] at hcv hge
  generalize grownCap w l.length 0 5 = cap at hcv hge
  generalize Lib.bytesWorld w 5 (bs l) = W0 at hcv hT hB hS0
  go_enter Tryd.func22, Tryd.ntmps22
  go_wp2_with fail
  refine (past_blank hT 0 (by omega) hl).mono ?_
  rintro e w1 ⟨rfl, rfl⟩
  have hmk1 := hmk.below hB hmk.1
  have hp0 := pastI_le (f := Tp.blank) (l := l) (i := 0) (by omega)
  have HT : Hid (TxAt w1 w.heap.size l) := hT
  have HB : Hid (Below w.heap.size w w1) := hB
  have HM : Hid (Mk w1) := hmk1
  have hS1 : w.heap.size < w1.heap.size := by omega
  clear hT hB hmk1 hcv hmk hS0
  go_wp2_with fail
  go_loopg [5, 6] (l.length + 1) (fun k v vi wr => ∃ (acc : List Tok) (i : Nat), vi = .int .i64 (i : Int) ∧ i ≤ l.length ∧ l.length - i < k ∧ acc.length ≤ 600 ∧ wr.ownsRow w1.heap.size 84 3 v acc.length (tksC acc) ∧ Below w1.heap.size w1 wr ∧ addT acc (SC acc.length i (l.drop i)) = SC 0 0 l ∧ (∀ h : i < l.length, Tp.blank l[i] = false))
  case atStart =>
    refine ⟨[], pastI Tp.blank l 0, rfl, hp0.2, by omega, by simp, World.ownsRow_nil _ _ _ _, Below.refl _ _, ?_, fun h => pastI_stop l.length 0 (by omega) h⟩
    rw [List.length_nil, SC_past l.length 0 (by omega) (by omega), List.drop_zero]
    cases SC 0 0 l <;> rfl
  case round =>
    obtain ⟨acc, i, rfl, hil, hik, hac, hown, hbel, hspec, hnb⟩ := hrel
    have HS : Hid (addT acc (SC acc.length i (l.drop i)) = SC 0 0 l) := hspec
    have HNB : Hid (∀ h : i < l.length, Tp.blank l[i] = false) := hnb
    obtain ⟨ao, cp, hvv⟩ := owns_shape hown
    subst hvv
    have hsz := hbel.size
    clear hspec hnb
    by_cases hlt : i < l.length
    · have hlt' : (i : Int) < (l.length : Int) := by omega
      have hTr := HT.out.below hbel (by omega)
      have hMr := HM.out.below hbel HM.out.1
      have HTr : Hid (TxAt wr w.heap.size l) := hTr
      generalize hq : Tp.cut (l.drop i) = c
      cases c with
      | none =>
        have HQ : Hid (Tp.cut (l.drop i) = none) := hq
        clear hq
        go_wp2_with fail
        refine (cut_none hTr (by omega) hMr i hlt hl hge HQ).mono ?_
        rintro e w2 ⟨hth, hb2⟩
        obtain ⟨ab, q1, rfl, q2, q3⟩ := hth.out
        have HTH : Hid (Thrown wr.heap.size (3, i) _ w2) := hth
        have HBB : Hid (Below w.heap.size w w2) := HB.out.trans ((hbel.trans (hb2.mono hsz)).mono (by omega))
        clear hth q1 q2 q3
        go_wp2_with fail
        refine ⟨rfl, HBB.out, ?_⟩
        have e1 := HQ.out
        have e2 := HNB.out hlt
        unfold ScanP
        rw [List.drop_eq_getElem_cons hlt] at e1
        rw [← HS.out, List.drop_eq_getElem_cons hlt, SC_none e2 e1]
        exact HTH.out.mono (by omega)
      | some kn =>
        obtain ⟨kd, n⟩ := kn
        have HQ : Hid (Tp.cut (l.drop i) = some (kd, n)) := hq
        have hn := cut_pos hq
        clear hq
        simp only [List.length_drop] at hn
        go_wp2_with fail
        refine (cut_some hTr (by omega) hMr i hlt hl hge HQ).mono ?_
        rintro e w2 ⟨rfl, hb2⟩
        have hT2 := HTr.out.below hb2 (by omega)
        have hown2 := owns_below hown hb2
        have hxl : ((l.drop i).take n).length = n := by simp; omega
        have hcv : ∀ c, (convert 62 9 (.slice (some ⟨w.heap.size, i, none⟩) n c)).run Tryd.prog w2 = .ok (.string (bs ((l.drop i).take n))) w2 := by
          intro c
          have q := conv_at (cap := c) (m := (l.drop i).take n) hT2 (by rw [hxl])
          rw [hxl] at q
          exact q
        clear hTr hMr hown hT2
        by_cases h6 : acc.length = 600
        · have h6' : (acc.length : Int) = 600 := by omega
          clear h6
          go_wp2_with fail
          refine (throw_any 4 i w2).mono ?_
          rintro e w3 ⟨hth, hb3⟩
          obtain ⟨ab, q1, rfl, q2, q3⟩ := hth.out
          have HTH : Hid (Thrown w2.heap.size (4, i) _ w3) := hth
          have hs2 := hb2.size
          have HBB : Hid (Below w.heap.size w w3) := HB.out.trans (((hbel.trans (hb2.mono hsz)).trans (hb3.mono (by omega))).mono (by omega))
          clear hth q1 q2 q3
          go_wp2_with fail
          refine ⟨rfl, HBB.out, ?_⟩
          have e1 := HQ.out
          have e2 := HNB.out hlt
          unfold ScanP
          rw [List.drop_eq_getElem_cons hlt] at e1
          rw [← HS.out, List.drop_eq_getElem_cons hlt, show acc.length = 600 by omega, SC_full e2 e1]
          exact HTH.out.mono (by omega)
        · have h6' : ¬ (acc.length : Int) = 600 := by omega
          have h6b : ((acc.length : Int) == 600) = false := by simpa using h6'
          generalize hx : (l.drop i).take n = x at hcv hxl
          have hci : (i : Int) < (cap : Int) := by omega
          have hcn : (i : Int) + (n : Int) ≤ (cap : Int) := by omega
          have hs2 := hb2.size
          go_wp2_with (at_builtin; refine wpList_append_own _ rfl _ _ 55 rfl w1.heap.size 84 i0 (.agg #[.int .i64 0, .int .i64 0, .string ⟨#[]⟩]) 3 32 Tryd.underlying55 hi0 hz0 hz1 hz2 rfl (by decide) _ _ _ rfl (hown2.alloc _) ⟨w2.heap.size, 0, none⟩ 1 1 [.int .i64 (kd : Int), .int .i64 (i : Int), .string (bs x)] rfl rfl ?c1 ?c2 ?c3 ?c4 ?c5 ?_)
          case c1 => exact news3 _ _ _ _ _
          case c2 => intro u hu; simp at hu; rcases hu with rfl | rfl | rfl <;> rfl
          case c3 => unfold maxLen; omega
          case c4 => omega
          case c5 => simp; omega
          · intro v' w3 hown3 hgrow _
            have hb3 : Below w1.heap.size w2 w3 := ((Below.refl _ _).alloc (by omega) _).trans ((Below.refl _ _).grown hgrow (by simp; omega) (owns_row hown2))
            have hb13 : Below w1.heap.size w1 w3 := (hbel.trans (hb2.mono hsz)).trans hb3
            have HO : Hid (w3.ownsRow w1.heap.size 84 3 v' (acc ++ [(⟨kd, i, x⟩ : Tok)]).length (tksC (acc ++ [(⟨kd, i, x⟩ : Tok)]))) := by unfold Hid; rw [tksC_snoc]; simpa [tcells] using hown3
            clear hgrow hown2 hown3 hb3
            have hT3 := HT.out.below hb13 (by omega)
            go_wp2_with fail
            refine (past_blank hT3 (i + n) (by omega) hl).mono ?_
            rintro e w4 ⟨rfl, rfl⟩
            have hpn := pastI_le (f := Tp.blank) (l := l) (i := i + n) (by omega)
            clear hT3
            go_wp2_with fail
            go_roundg (gk - 1)
            case measure => omega
            case rel =>
              refine ⟨acc ++ [⟨kd, i, x⟩], pastI Tp.blank l (i + n), rfl, hpn.2, by omega, by simp; omega, HO.out, hb13, ?_, fun h => pastI_stop l.length (i + n) (by omega) h⟩
              have e1 := HQ.out
              have e2 := HNB.out hlt
              rw [← HS.out, SC_past l.length (i + n) (by omega) (by omega)]
              rw [List.drop_eq_getElem_cons hlt] at e1 ⊢
              rw [SC_tok e2 e1 h6, addT_consT, ← List.drop_eq_getElem_cons hlt, List.drop_drop, hx]
              simp
    · have hlt' : ¬ (i : Int) < (l.length : Int) := by omega
      go_wp2_with (at_builtin; refine wpList_append_own _ rfl _ _ 55 rfl w1.heap.size 84 i0 (.agg #[.int .i64 0, .int .i64 0, .string ⟨#[]⟩]) 3 32 Tryd.underlying55 hi0 hz0 hz1 hz2 rfl (by decide) _ _ _ rfl (hown.alloc _) ⟨wr.heap.size, 0, none⟩ 1 1 [.int .i64 0, .int .i64 (l.length : Int), .string ⟨#[]⟩] rfl rfl ?c1 ?c2 ?c3 ?c4 ?c5 ?_)
      case c2 => exact ⟨rfl, rfl, rfl⟩
      case c3 => unfold maxLen; omega
      case c4 => omega
      case c5 => omega
      · intro v' w3 hown3 hgrow _
        have hb3 : Below w1.heap.size wr w3 := ((Below.refl _ _).alloc hsz _).trans ((Below.refl _ _).grown hgrow (by simp; omega) (owns_row hown))
        have hb13 : Below w1.heap.size w1 w3 := hbel.trans hb3
        have HO : Hid (w3.ownsRow w1.heap.size 84 3 v' (acc ++ [(⟨0, l.length, []⟩ : Tok)]).length (tksC (acc ++ [(⟨0, l.length, []⟩ : Tok)]))) := by unfold Hid; rw [tksC_snoc]; simpa [tcells, bs] using hown3
        have HBB : Hid (Below w.heap.size w w3) := HB.out.trans (hb13.mono (by omega))
        clear hgrow hown hown3 hb3 hb13
        go_wp2_with fail
        go_ret
        refine ⟨HBB.out, ?_⟩
        have e0 : i = l.length := by omega
        unfold ScanP
        rw [← HS.out, e0, List.drop_length, SC_nil]
        exact ⟨_, rfl, owns_base HO.out (by omega)⟩
end Go.Proofs.YthkdefhngkangaaDoor
/- append of a text to a slice of one's own: where the new one lies; strconv.AppendInt: nothing but the slice's own block is written. -/
namespace Go.Proofs.YthkdefhngkangaaDoor
open Go.RowKit

/- what was written: the slice's own block, or new ones -/
structure Exact (v v' : Value) (w w' : World) : Prop where
  size : w.heap.size ≤ w'.heap.size
  block : ∀ k, k < w.heap.size → v.ownBlock ≠ some k → w'.heap[k]? = w.heap[k]?
  lies : ∀ g, v'.ownBlock = some g → v.ownBlock = some g ∨ w.heap.size ≤ g
theorem Exact.of {v v' : Value} {w w' : World} (h : w.grownBy w' v.ownBlock) (hw : ∀ g, v'.ownBlock = some g → v.ownBlock = some g ∨ w.heap.size ≤ g) : Exact v v' w w' :=
  ⟨h.size, fun k hk hn => h.block k hk (fun e => hn e.symm), hw⟩
theorem Exact.ahead {v v' : Value} {w w1 w' : World} (h : Below w.heap.size w w1) (k : Exact v v' w1 w') : Exact v v' w w' :=
  ⟨Nat.le_trans h.size k.size, fun i hi hn => (k.block i (Nat.lt_of_lt_of_le hi h.size) hn).trans (h.block i hi), fun g hg => (k.lies g hg).imp id (Nat.le_trans h.size)⟩
theorem run_append_where_string {P : Program} (w : World) (base : Nat) (t u ty e : TypeId) (i : TypeInfo) (ht : P.underlying t = some (.slice e)) (hu : P.underlying u = some .string) (hi : P.info? e = some i) (hz : i.zero = some (.int .u8 0))
    (hsize : i.size = 1) (hby : i.bytes = 1) (v : Value) (n : Nat) (xs : List Value) (hown : w.ownsRow base e 1 v n xs) (s : ByteArray)
    (h63 : n + s.size ≤ maxLen) (hbytes : n + s.size ≤ 140737488355328) (hbase : base ≤ w.heap.size) :
    ∃ v' w', (Builtin.append_ #[t, u] ty #[v, .string s]).run P w = .ok v' w' ∧ w'.ownsRow base e 1 v' (n + s.size) (xs ++ Lib.strCells s) ∧ w.grownBy w' v.ownBlock ∧ Exact v v' w w' := by
  obtain ⟨v', w', r1, r2, r3, _⟩ := Lib.run_append_own_string (P := P) w base t u ty e i ht hu hi hz hsize hby v n xs hown s h63 hbytes hbase
  refine ⟨v', w', r1, r2, r3, Exact.of r3 ?_⟩
  rcases hown.2 with ⟨rfl, rfl⟩ | ⟨g, cap, cur, rfl, q1, q2, q3, q4, q5, q6⟩
  · have hx : xs = [] := List.eq_nil_of_length_eq_zero (by simpa using hown.1)
    subst hx
    obtain ⟨v2, w2, s1, s2, _⟩ := Lib.run_append_own_string (P := P) w w.heap.size t u ty e i ht hu hi hz hsize hby (.slice none 0 0) 0 [] (World.ownsRow_nil _ _ _ _) s h63 hbytes (Nat.le_refl _)
    rw [r1] at s1
    cases s1
    intro g hg
    exact Or.inr (owns_row s2 g hg)
  · by_cases hroom : n + s.size ≤ cap
    · have s1 := Lib.run_append_room_string (P := P) w t u ty e i ht hu hi hsize g n cap cur q2 s hroom (by omega)
      rw [r1] at s1
      cases s1
      intro g' hg
      exact Or.inl hg
    · have s1 := Lib.run_append_grow_string (P := P) w t u ty e i (.int .u8 0) ht hu hi hz ⟨g, 0, none⟩ n cap xs (by rw [hsize]; exact hown.1) (hown.cells (g := g) rfl) s (by omega) (by unfold maxLen at h63; omega) (by rw [hby]; exact growslice_fits (by omega) (by omega))
      rw [r1] at s1
      cases s1
      intro g' hg
      simp [Value.ownBlock] at hg
      exact Or.inr (by omega)
theorem wpList_append_where_string {P : Program} (w : World) {ops : Array Oper} {rest : List Oper} {o : Oper} {a : Act} {Q : Exit → Act → World → Prop} (hgd : o.guard = none) (sl x : Operand) (t u : TypeId)
    (ho : o.op = .call { callee := .builtin .append, args := #[sl, x], argTypes := #[t, u] })
    (base : Nat) (e : TypeId) (i : TypeInfo) (ht : P.underlying t = some (.slice e)) (hu : P.underlying u = some .string) (hi : P.info? e = some i) (hz : i.zero = some (.int .u8 0))
    (hsize : i.size = 1) (hby : i.bytes = 1)
    (v : Value) (n : Nat) (xs : List Value) (hs : a.eval sl = v) (hown : w.ownsRow base e 1 v n xs) (s : ByteArray) (hx : a.eval x = .string s)
    (h63 : n + s.size ≤ maxLen) (hbytes : n + s.size ≤ 140737488355328) (hbase : base ≤ w.heap.size)
    (h : ∀ v' w', w'.ownsRow base e 1 v' (n + s.size) (xs ++ Lib.strCells s) → w.grownBy w' v.ownBlock → Exact v v' w w' → wpList P ops Q rest (a.put o.dst v') w') : wpList P ops Q (o :: rest) a w := by
  refine wpList_plain hgd fun K hK => ?_
  obtain ⟨v', w', r1, r2, r3, r4⟩ := run_append_where_string (P := P) w base t u o.type e i ht hu hi hz hsize hby v n xs hown s h63 hbytes hbase
  unfold Oper.wp
  simp [execOp, ho, resolve, invoke, builtin, hs, hx, r1, Result.andThen]
  exact hK _ _ (h v' w' r2 r3 r4)
end Go.Proofs.YthkdefhngkangaaDoor
/- strconv.AppendInt of a number from 0 on, to base 10: nothing but the slice's own block is written. -/
namespace Go.Proofs.YthkdefhngkangaaDoor
open Go.RowKit Go.Shelf Go.Sort Go.Lib
variable {P : Program} {ρ : Ren}

/- what AppendInt and those that it calls leave -/
def AppPost (e : TypeId) (B n : Nat) (xs : List Value) (l : List UInt8) (sv : Value) (w : World) (r : Ending) (w' : World) : Prop :=
  ∃ v', r = .returned v' ∧ w'.ownsRow B e 1 v' (n + l.length) (xs ++ Lib.byteCells l) ∧ Below B w w' ∧ Lib.OthersKept e none w w' ∧ Exact sv v' w w'
set_option maxHeartbeats 6400000 in
set_option maxRecDepth 100000 in
theorem appUint_small (L : LaysM.n288 P ρ) (B n u : Nat) (hu : u < 100) (sv : Value) (xs : List Value) (w : World) (hown : w.ownsRow B (ρ.t 5) 1 sv n xs) (hBw : B ≤ w.heap.size) (hlim : n + 20 ≤ 140737488355328) :
    Calls P (ρ.f 288) #[sv, .int .u64 u, .int .i64 10] w (AppPost (ρ.t 5) B n xs (Lib.decDigits u) sv w) := by
  have mixed := L.mixed
  have t5 := L.t5; have a5 := L.a5; have z5 := L.z5; have v5 := L.v5
  have t37 := L.t37; have u37 := run_underlying L.t37; have a37 := L.a37; have z37 := L.z37; have v37 := L.v37
  have t53 := L.t53; have a53 := L.a53; have z53 := L.z53; have v53 := L.v53
  have t3 := L.t3; have a3 := L.a3; have z3 := L.z3; have v3 := L.v3
  have t4 := L.t4; have a4 := L.a4; have z4 := L.z4; have v4 := L.v4
  have t9 := L.t9; have a9 := L.a9; have z9 := L.z9; have v9 := L.v9
  have t171 := L.t171; have a171 := L.a171; have z171 := L.z171; have v171 := L.v171
  have t0 := L.t0; have a0 := L.a0; have z0 := L.z0; have v0 := L.v0
  have t173 := L.t173; have a173 := L.a173; have z173 := L.z173; have v173 := L.v173
  have e283 : ∀ args w, (callFunc (ρ.f 283) args).run P w = .ok (.enter (ρ.f 283) args) w := enters_of L.f283 (by kernel_rfl) rfl
  obtain ⟨i0, hi, hz0, hz1, hz2⟩ := info_parts L.i5
  have hlen : (Lib.decDigits u).length ≤ 20 := by
    rw [Lib.decDigits_length]
    by_cases h10 : u < 10
    · rw [Lib.nDigits_small h10]; omega
    · rw [Lib.nDigits_big h10, Lib.nDigits_small (show u / 10 < 10 by omega)]; omega
  have hsz : (⟨(Lib.decDigits u).toArray⟩ : ByteArray).size = (Lib.decDigits u).length := by simp [ByteArray.size]
  go_enter L.f288, Body.n288_ntmps ρ
  go_wp2_with (first
    | (go_at_fn (ρ.f 283); refine (Any.internal_strconv_small { L with } u hu _).mono ?_; rintro e w' ⟨rfl, rfl⟩)
    | (at_builtin; refine wpList_append_where_string _ rfl _ _ (ρ.t 37) (ρ.t 9) rfl B (ρ.t 5) i0 L.t37 L.t9 hi hz0 hz1 hz2 _ _ _ rfl hown ⟨(Lib.decDigits u).toArray⟩ rfl (by rw [hsz]; unfold maxLen; omega) (by rw [hsz]; omega) hBw ?_))
  intro v' w1 hown' hgrow hex
  have HX : Hid (Exact sv v' _ w1) := hex
  clear hex
  go_wp2
  go_ret
  refine ⟨v', rfl, ?_, (Below.refl B _).grown hgrow hBw (fun k hk => (hown.lt k hk).1), (Lib.OthersKept.refl _ _ _).grown hgrow (Lib.ownsRow_kind hown), HX.out⟩
  first | exact hown' | (rw [hsz] at hown'; exact hown')

set_option maxHeartbeats 12800000 in
set_option maxRecDepth 100000 in
theorem appUint_big (L : LaysM.n288 P ρ) (B n u : Nat) (hu : 100 ≤ u) (hu64 : u < 18446744073709551616) (sv : Value) (xs : List Value) (w : World) (hown : w.ownsRow B (ρ.t 5) 1 sv n xs) (hBw : B ≤ w.heap.size) (hlim : n + 20 ≤ 140737488355328)
    (htab : Lib.TabIs P w "internal/strconv.uint64pow10" .u64 Lib.pow10Tab) :
    Calls P (ρ.f 288) #[sv, .int .u64 u, .int .i64 10] w (AppPost (ρ.t 5) B n xs (Lib.decDigits u) sv w) := by
  have mixed := L.mixed
  have t5 := L.t5; have a5 := L.a5; have z5 := L.z5; have v5 := L.v5
  have t37 := L.t37; have u37 := run_underlying L.t37; have a37 := L.a37; have z37 := L.z37; have v37 := L.v37
  have t53 := L.t53; have a53 := L.a53; have z53 := L.z53; have v53 := L.v53
  have t3 := L.t3; have a3 := L.a3; have z3 := L.z3; have v3 := L.v3
  have t4 := L.t4; have a4 := L.a4; have z4 := L.z4; have v4 := L.v4
  have t9 := L.t9; have a9 := L.a9; have z9 := L.z9; have v9 := L.v9
  have t171 := L.t171; have a171 := L.a171; have z171 := L.z171; have v171 := L.v171
  have t0 := L.t0; have a0 := L.a0; have z0 := L.z0; have v0 := L.v0
  have t173 := L.t173; have a173 := L.a173; have z173 := L.z173; have v173 := L.v173
  have e284 : ∀ args w, (callFunc (ρ.f 284) args).run P w = .ok (.enter (ρ.f 284) args) w := enters_of L.f284 (by kernel_rfl) rfl
  have e285 : ∀ args w, (callFunc (ρ.f 285) args).run P w = .ok (.enter (ρ.f 285) args) w := enters_of L.f285 (by kernel_rfl) rfl
  obtain ⟨i0, hi, hz0, hz1, hz2⟩ := info_parts L.i5
  have hu1 : 1 ≤ u := by omega
  have hnd20 : Lib.nDigits u ≤ 20 := by have := Lib.numDigits_eq u hu1 hu64; split at this <;> omega
  have hal : P.arrayLen (ρ.t 171) = 24 := by simp [Program.arrayLen, L.t171]
  have hsl : ∀ W, (Instr.sliceAt (ρ.t 171) (.pointer (some ⟨w.heap.size, 0, none⟩)) none (some (.int .i64 (Lib.nDigits u : Int))) none).run P W = .ok (.slice (some ⟨w.heap.size, 0, none⟩) (Lib.nDigits u) 24) W := fun W => by
    rw [run_sliceAt_array_h W (ρ.t 171) ⟨w.heap.size, 0, none⟩ (by simp [Program.arrayLen, Program.elem, L.t171]) .i64 (Lib.nDigits u : Int) (by omega) (by rw [hal]; omega)]
    go_simp
  have hH0 := Lib.holds_zero0 w (ρ.t 171) (Lib.nDigits u) (by omega)
  have hfmt := Any.internal_strconv_formatBase10 { L with } w.heap.size 0 24 u (Array.replicate (Lib.nDigits u) 0) (w.alloc (.cells Lib.zeros24 (ρ.t 171))) hH0 (by rw [Array.size_replicate]; exact Lib.lt_pow_nDigits u) hu64 (by rw [Array.size_replicate]; omega)
  rw [Array.size_replicate] at hfmt
  have HH0 := Lib.hid hH0
  have iu : (100 : Int) ≤ (u : Int) := by omega
  clear hH0 hal
  go_enter L.f288, Body.n288_ntmps ρ
  go_wp2_with (first
    | (go_at_fn (ρ.f 284); refine (Any.internal_strconv_numDigits { L with } u hu1 hu64 _ (Lib.tabIs_alloc htab _)).mono ?_; rintro e w' ⟨rfl, rfl⟩))
  go_at_fn (ρ.f 285)
  refine hfmt.mono ?_
  rintro e w' ⟨rfl, k, v', dk, rfl, hF⟩
  have hcells : ∀ j u', (Lib.byteCells (Lib.decDigits u))[j]? = some u' → ((putRow (fun (b : UInt8) => Value.int .u8 (b.toNat : Int)) (w.alloc (.cells Lib.zeros24 (ρ.t 171))) w.heap.size 0 dk).drewN k).cell? ((⟨w.heap.size, 0, none⟩ : Addr).add j) = some u' := by
    intro j u' hj
    have hjl : j < (Lib.decDigits u).length := by
      have h5 := (List.getElem?_eq_some_iff.1 hj).1
      rwa [Lib.byteCells_length] at h5
    have e5 : (Lib.byteCells (Lib.decDigits u))[j]? = some (Value.int .u8 ((Lib.decDigits u)[j].toNat : Int)) := by simp [Lib.byteCells, hjl]
    rw [e5] at hj
    cases hj
    rw [Lib.row_is_numeral hF j hjl, Lib.add_plain, World.cell?_drewN]
    exact cell?_putRow (fun (b : UInt8) => Value.int .u8 (b.toNat : Int)) _ w.heap.size 0 _ dk HH0.out (by rw [hF.size, Array.size_replicate]) j (by rw [hF.size]; rw [Lib.decDigits_length] at hjl; exact hjl)
  obtain ⟨os, eo⟩ := Lib.fin_at w (.cells Lib.zeros24 (ρ.t 171)) dk k 0
  have hbel2 : Below w.heap.size w ((putRow (fun (b : UInt8) => Value.int .u8 (b.toNat : Int)) (w.alloc (.cells Lib.zeros24 (ρ.t 171))) w.heap.size 0 dk).drewN k) := by rw [eo]; exact Lib.below_grow w.heap.size w (Nat.le_refl _) k os
  have hown2 := owns_below hown hbel2
  generalize (putRow (fun (b : UInt8) => Value.int .u8 (b.toNat : Int)) (w.alloc (.cells Lib.zeros24 (ρ.t 171))) w.heap.size 0 dk).drewN k = W2 at hcells hown2 hbel2 ⊢
  have hsz2 : w.heap.size ≤ W2.heap.size := hbel2.size
  have HB2 : Hid (Below w.heap.size w W2) := hbel2
  clear eo HH0 hfmt hbel2
  go_wp2_with (at_builtin; refine wpList_append_where _ rfl _ _ (ρ.t 37) rfl B (ρ.t 5) i0 (.int .u8 0) 1 1 L.t37 hi hz0 hz1 hz2 rfl (by decide) _ _ _ rfl hown2 ⟨w.heap.size, 0, none⟩ (Lib.nDigits u) 24 (Lib.byteCells (Lib.decDigits u)) rfl ?c0 hcells ?c2 ?c3 ?c4 ?c5 ?_)
  case c0 => rw [Lib.byteCells_length, Lib.decDigits_length, Nat.mul_one]
  case c2 => intro u' hu'; simp only [Lib.byteCells, List.mem_map] at hu'; obtain ⟨b, _, rfl⟩ := hu'; rfl
  case c3 => unfold maxLen; omega
  case c4 => omega
  case c5 => omega
  intro v2 w3 hown' hgrow hlies
  have HX : Hid (Exact sv v2 w w3) := (Exact.of hgrow hlies).ahead HB2.out
  have HBL : Hid (Below B w w3) := (HB2.out.mono hBw).grown hgrow (by omega) (fun k hk => (hown2.lt k hk).1)
  have HOT : Hid (Lib.OthersKept (ρ.t 5) none w w3) := ((Lib.OthersKept.refl _ _ w).below HB2.out).grown hgrow (Lib.ownsRow_kind hown2)
  clear hgrow hlies
  go_wp2
  go_ret
  refine ⟨v2, rfl, ?_, HBL.out, HOT.out, HX.out⟩
  rw [Lib.decDigits_length]
  exact hown'
theorem appUint (L : LaysM.n288 P ρ) (B n u : Nat) (hu64 : u < 18446744073709551616) (sv : Value) (xs : List Value) (w : World) (hown : w.ownsRow B (ρ.t 5) 1 sv n xs) (hBw : B ≤ w.heap.size) (hlim : n + 20 ≤ 140737488355328)
    (htab : Lib.TabIs P w "internal/strconv.uint64pow10" .u64 Lib.pow10Tab) :
    Calls P (ρ.f 288) #[sv, .int .u64 u, .int .i64 10] w (AppPost (ρ.t 5) B n xs (Lib.decDigits u) sv w) := by
  by_cases h : u < 100
  · exact appUint_small { L with } B n u h sv xs w hown hBw hlim
  · exact appUint_big { L with } B n u (by omega) hu64 sv xs w hown hBw hlim htab
set_option maxHeartbeats 6400000 in
set_option maxRecDepth 100000 in
theorem appInt_in (L : LaysM.n249 P ρ) (B n u : Nat) (hu : u ≤ 9223372036854775807) (sv : Value) (xs : List Value) (w : World) (hown : w.ownsRow B (ρ.t 5) 1 sv n xs) (hBw : B ≤ w.heap.size) (hlim : n + 21 ≤ 140737488355328)
    (htab : Lib.TabIs P w "internal/strconv.uint64pow10" .u64 Lib.pow10Tab) :
    Calls P (ρ.f 249) #[sv, .int .i64 u, .int .i64 10] w (AppPost (ρ.t 5) B n xs (Lib.decDigits u) sv w) := by
  have mixed := L.mixed
  have t5 := L.t5; have a5 := L.a5; have z5 := L.z5; have v5 := L.v5
  have t37 := L.t37; have u37 := run_underlying L.t37; have a37 := L.a37; have z37 := L.z37; have v37 := L.v37
  have t2 := L.t2; have a2 := L.a2; have z2 := L.z2; have v2 := L.v2
  have t3 := L.t3; have a3 := L.a3; have z3 := L.z3; have v3 := L.v3
  have t53 := L.t53; have a53 := L.a53; have z53 := L.z53; have v53 := L.v53
  have t4 := L.t4; have a4 := L.a4; have z4 := L.z4; have v4 := L.v4
  have e288 : ∀ args w, (callFunc (ρ.f 288) args).run P w = .ok (.enter (ρ.f 288) args) w := enters_of L.f288 (by kernel_rfl) rfl
  have HC : Hid (Calls P (ρ.f 288) #[sv, .int .u64 u, .int .i64 10] w (AppPost (ρ.t 5) B n xs (Lib.decDigits u) sv w)) := appUint { L with } B n u (by omega) sv xs w hown hBw (by omega) htab
  go_enter L.f249, Body.n249_ntmps ρ
  go_wp2_with (go_at_fn (ρ.f 288); refine HC.out.mono ?_; rintro e w2 ⟨v2, rfl, hp⟩)
  have HP := Lib.hid hp
  clear hp
  go_wp2
  first | go_ret | go_ret2
  exact ⟨v2, rfl, HP.out⟩
set_option maxRecDepth 100000 in
theorem appInt (L : LaysM.n176 P ρ) (B n u : Nat) (hu : u ≤ 9223372036854775807) (sv : Value) (xs : List Value) (w : World) (hown : w.ownsRow B (ρ.t 5) 1 sv n xs) (hBw : B ≤ w.heap.size) (hlim : n + 21 ≤ 140737488355328)
    (htab : Lib.TabIs P w "internal/strconv.uint64pow10" .u64 Lib.pow10Tab) :
    Calls P (ρ.f 176) #[sv, .int .i64 u, .int .i64 10] w (AppPost (ρ.t 5) B n xs (Lib.decDigits u) sv w) := by
  have mixed := L.mixed
  have t5 := L.t5; have a5 := L.a5; have z5 := L.z5; have v5 := L.v5
  have t37 := L.t37; have u37 := run_underlying L.t37; have a37 := L.a37; have z37 := L.z37; have v37 := L.v37
  have t2 := L.t2; have a2 := L.a2; have z2 := L.z2; have v2 := L.v2
  have t3 := L.t3; have a3 := L.a3; have z3 := L.z3; have v3 := L.v3
  have e249 : ∀ args w, (callFunc (ρ.f 249) args).run P w = .ok (.enter (ρ.f 249) args) w := enters_of L.f249 (by kernel_rfl) rfl
  have HC : Hid (Calls P (ρ.f 249) #[sv, .int .i64 u, .int .i64 10] w (AppPost (ρ.t 5) B n xs (Lib.decDigits u) sv w)) := appInt_in { L with } B n u hu sv xs w hown hBw hlim htab
  go_enter L.f176, Body.n176_ntmps ρ
  go_wp2_with (go_at_fn (ρ.f 249); refine HC.out.mono ?_; rintro e w2 ⟨v2, rfl, hp⟩)
  have HP := Lib.hid hp
  clear hp
  go_wp2
  go_ret
  exact ⟨v2, rfl, HP.out⟩
end Go.Proofs.YthkdefhngkangaaDoor
