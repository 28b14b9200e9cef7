import Derived.Test.YthkdefhngkangaaDoorKYE
import Derived.Test.YthkdefhngkangaaDoorKSh4
import Derived.Laws.AppendOwnNone
/- Slices of Syms and of texts: append, Clone, ContainsFunc, Contains. -/
namespace Go.Proofs.YthkdefhngkangaaDoor
open Go.RowKit Go.Sort
open Tp (Sy)

theorem enc_one (l : List Sy) : ∀ u ∈ sycs l, u.oneCell' = true := by
  intro u hu
  simp only [sycs, List.mem_flatten, List.mem_map] at hu
  obtain ⟨x, ⟨s, _, rfl⟩, hx⟩ := hu
  simp [encSy] at hx
  rcases hx with rfl | rfl | rfl <;> rfl
theorem wpList_append_sl {ops : Array Oper} {rest : List Oper} {o : Oper} {a : Act} {Q : Exit → Act → World → Prop} (hgd : o.guard = none) (s x : Operand)
    (ho : o.op = .call { callee := .builtin .append, args := #[s, x], argTypes := #[45, 45] })
    {w : World} {base B2 : Nat} {v v2 : Value} {l1 l2 : List Sy} (hown : w.ownsRow base 50 3 v l1.length (sycs l1)) (hsl : SL w B2 v2 l2) (hs : a.eval s = v) (hx : a.eval x = v2) (hb : l1.length + l2.length ≤ 1000) (hbase : base ≤ w.heap.size)
    (h : ∀ v' w', w'.ownsRow base 50 3 v' (l1 ++ l2).length (sycs (l1 ++ l2)) → w.grownBy w' v.ownBlock → wpList Tryd.prog ops Q rest (a.put o.dst v') w') : wpList Tryd.prog ops Q (o :: rest) a w := by
  obtain ⟨i3, hi3, hz30, hz31, hz32⟩ := info_parts Tryd.infoSym
  rcases hsl with ⟨rfl, rfl⟩ | ⟨g, cap, rfl, _, hrow⟩
  · refine wpList_append_own_none hgd s x 45 ho base 50 i3 3 Tryd.underlying45 hi3 v _ _ hs hown hx ?_
    refine h v w ?_ ⟨rfl, rfl, rfl, Nat.le_refl _, fun _ _ _ => rfl⟩
    rw [List.append_nil]; exact hown
  · obtain ⟨cur, r1, r2, r3⟩ := hrow.b
    refine wpList_append_where w hgd s x 45 ho base 50 i3 (.agg #[.string ⟨#[]⟩, .int .i64 0, .int .i64 0]) 3 32 Tryd.underlying45 hi3 hz30 hz31 hz32 rfl (by decide) v l1.length (sycs l1) hs hown ⟨g, 0, none⟩ l2.length cap (sycs l2) hx (sycs_len l2) ?_ (enc_one l2) (by unfold maxLen; omega) (by omega) hbase ?_
    · intro j u hj
      have hjl : j < l2.length * 3 := by rw [← sycs_len]; exact (List.getElem?_eq_some_iff.1 hj).1
      rw [Addr.add_lit, cell_blk r1, Nat.zero_add, ← Array.getElem?_toList, ← hj, ← r3, List.getElem?_take_of_lt hjl]
    · intro v' w' q1 q2 _
      refine h v' w' ?_ q2
      rw [sycs_app, List.length_append]
      exact q1
theorem Tryd.eqNil (w : World) : (binOp .eql 45 (.slice none 0 0) (.slice none 0 0)).run Tryd.prog w = .ok (.bool true) w := by kernel_rfl
theorem Tryd.eqSome (w : World) (a : Addr) (n c : Nat) : (binOp .eql 45 (.slice (some a) n c) (.slice none 0 0)).run Tryd.prog w = .ok (.bool false) w := by kernel_rfl
set_option maxRecDepth 100000 in
theorem clone_post {w : World} {B : Nat} {v : Value} {l : List Sy} (h : SL w B v l) (hn : l.length ≤ 100) :
    Calls Tryd.prog 18 #[v] w fun e w' => ∃ v', e = .returned v' ∧ Below w.heap.size w w' ∧ w'.ownsRow w.heap.size 50 3 v' l.length (sycs l) := by
  have hq0 := Tryd.eqNil
  have hq1 := Tryd.eqSome
  rcases h with ⟨rfl, rfl⟩ | ⟨g, cap, rfl, hB, hrow⟩
  · go_enter Tryd.func18, Tryd.ntmps18
    go_wp2_with fail
    go_ret
    exact ⟨_, rfl, Below.refl _ _, World.ownsRow_nil _ _ _ _⟩
  · have hal : Below w.heap.size w (w.alloc (.cells #[] 50)) := (Below.refl _ _).alloc (Nat.le_refl _) _
    have hsl : SL (w.alloc (.cells #[] 50)) B (.slice (some ⟨g, 0, none⟩) l.length cap) l := SL.on (Or.inr ⟨g, cap, rfl, hB, hrow⟩) hal
    have hown : (w.alloc (.cells #[] 50)).ownsRow w.heap.size 50 3 (.slice (some ⟨w.heap.size, 0, none⟩) 0 0) ([] : List Sy).length (sycs []) :=
      ⟨rfl, Or.inr ⟨w.heap.size, 0, #[], rfl, Nat.le_refl _, new_blk _ _, Nat.le_refl _, by unfold maxLen; omega, rfl, rfl⟩⟩
    have HSL := Lib.hid hsl
    have HO := Lib.hid hown
    have HAL := Lib.hid hal
    clear hsl hown hal hrow
    obtain ⟨n, hnl⟩ : ∃ n, n = l.length := ⟨_, rfl⟩
    rw [← hnl] at HSL ⊢
    have HN := Lib.hid hnl
    clear hnl
    go_enter Tryd.func18, Tryd.ntmps18
    go_wp2_with (at_builtin; refine wpList_append_sl rfl _ _ rfl HO.out HSL.out rfl rfl ?c1 ?c2 ?_)
    case c1 => simp; omega
    case c2 => simp
    intro v3 w3 h3 g3
    have HB3 : Hid (Below w.heap.size w w3) := HAL.out.trans ((Below.refl w.heap.size _).grown g3 (by simp) (fun k hk => (HO.out.lt k hk).1))
    have HO3 : Hid (w3.ownsRow w.heap.size 50 3 v3 n (sycs l)) := by unfold Hid; rw [HN.out]; simpa using h3
    clear h3 g3
    go_wp2_with fail
    go_ret
    exact ⟨_, rfl, HB3.out, HO3.out⟩
set_option maxRecDepth 100000 in
theorem long_post (n : List UInt8) (w : World) : Calls Tryd.prog 16 #[.string (bs n)] w fun e w' => e = .returned (.bool (decide (40 < n.length))) ∧ w' = w := by
  by_cases h : 40 < n.length
  · have hs : (40 : Int) < ((bs n).size : Int) := by rw [bs_size]; omega
    rw [decide_eq_true h]
    go_enter Tryd.func16, Tryd.ntmps16
    go_wp2_with fail
    go_ret
    exact ⟨by first | rfl | simp [hs], rfl⟩
  · have hs : ¬ (40 : Int) < ((bs n).size : Int) := by rw [bs_size]; omega
    rw [decide_eq_false h]
    go_enter Tryd.func16, Tryd.ntmps16
    go_wp2_with fail
    go_ret
    exact ⟨by first | rfl | (simp; omega), rfl⟩
set_option maxRecDepth 100000 in
set_option maxHeartbeats 1000000 in
theorem indexS_post {w : World} {ns : List (List UInt8)} {na : Option Addr} {nc : Nat} (hns : StrsAt w ns na) (hnn : ns.length ≤ 1000) :
    Calls Tryd.prog 31 #[.slice na ns.length nc, .func (.func 16) #[] #[]] w fun e w' => (∃ k : Int, e = .returned (.int .i64 k) ∧ ((0 ≤ k ∧ k ≤ 1000) ∨ k = -1 ∧ ∀ n ∈ ns, n.length ≤ 40)) ∧ w' = w := by
  have hnn' : (ns.length : Int) ≤ 1000 := by omega
  have HNS := Lib.hid hns
  obtain ⟨nn, hnq⟩ : ∃ nn, nn = ns.length := ⟨_, rfl⟩
  rw [← hnq] at hnn' ⊢
  have HNQ := Lib.hid hnq
  clear hns hnq
  go_enter Tryd.func31, Tryd.ntmps31
  go_wp2_with fail
  go_loopg [8] nn (fun k vi wr => ∃ i : Nat, i ≤ nn ∧ k = nn - i ∧ vi = .int .i64 (i : Int) ∧ Hid (∀ k (hk : k < ns.length), k < i → ns[k].length ≤ 40) ∧ wr = w)
  case atStart => exact ⟨0, by omega, by omega, rfl, fun k _ hk => by omega, rfl⟩
  case round =>
    obtain ⟨i, hid, hk, rfl, HI, rfl⟩ := hrel
    by_cases hlt : i < nn
    · have hlt' : (i : Int) < (nn : Int) := by omega
      have hia : i < ns.length := by have := HNQ.out; omega
      obtain ⟨b, o, rfl, hbl, hcell⟩ := HNS.out.c i hia
      have HF := Lib.hid (long_post ns[i] wr)
      have HNX : Hid (¬ 40 < ns[i].length → ∀ k (hk : k < ns.length), k < i + 1 → ns[k].length ≤ 40) := by
        intro hne k hk hlt
        by_cases e : k = i
        · subst e; omega
        · exact HI.out k hk (by omega)
      generalize ns[i] = x at *
      go_wp2_with fail
      refine HF.out.mono ?_
      rintro e w3 ⟨rfl, rfl⟩
      by_cases hx : 40 < x.length
      · rw [decide_eq_true hx]
        go_wp2_with fail
        go_ret
        exact ⟨⟨(i : Int), rfl, Or.inl ⟨by omega, by omega⟩⟩, rfl⟩
      · rw [decide_eq_false hx]
        have HI3 := Lib.hid (HNX.out hx)
        go_wp2_with fail
        go_roundg (nn - (i + 1))
        case measure => omega
        case rel => exact ⟨i + 1, by omega, rfl, by go_num, HI3, rfl⟩
    · have hlt' : ¬ (i : Int) < (nn : Int) := by omega
      have hall : ∀ n ∈ ns, n.length ≤ 40 := by
        intro n hn
        obtain ⟨k, hk, rfl⟩ := List.getElem_of_mem hn
        exact HI.out k hk (by have := HNQ.out; omega)
      go_wp2_with fail
      go_ret
      exact ⟨⟨-1, rfl, Or.inr ⟨rfl, hall⟩⟩, rfl⟩
set_option maxRecDepth 100000 in
theorem contF_post {w : World} {ns : List (List UInt8)} {na : Option Addr} {nc : Nat} (hns : StrsAt w ns na) (hnn : ns.length ≤ 1000) :
    Calls Tryd.prog 15 #[.slice na ns.length nc, .func (.func 16) #[] #[]] w fun e w' => (e = .returned (.bool true) ∨ e = .returned (.bool false) ∧ ∀ n ∈ ns, n.length ≤ 40) ∧ w' = w := by
  have HC := Lib.hid (indexS_post (nc := nc) hns hnn)
  clear hns
  generalize ns.length = nn at *
  go_enter Tryd.func15, Tryd.ntmps15
  go_wp2_with fail
  refine HC.out.mono ?_
  rintro e w1 ⟨⟨k, rfl, hk⟩, rfl⟩
  rcases hk with ⟨h1, h2⟩ | ⟨rfl, h2⟩
  · go_wp2_with fail
    go_ret
    exact ⟨Or.inl (by first | rfl | simp [h1]), rfl⟩
  · have H2 := Lib.hid h2
    go_wp2_with fail
    go_ret
    exact ⟨Or.inr ⟨rfl, H2.out⟩, rfl⟩
theorem cont_post {w : World} {ns : List (List UInt8)} {na : Option Addr} {nc : Nat} (hns : StrsAt w ns na) (hnn : ns.length ≤ 1000) (x : List UInt8) :
    Calls Tryd.prog 17 #[.slice na ns.length nc, .string (bs x)] w fun e w' => (e = .returned (.bool true) ∨ e = .returned (.bool false) ∧ x ∉ ns) ∧ w' = w := by
  by_cases h0 : ns.length = 0
  · have := Any.slices_Contains_string_empty Tryd.laysCont na nc (bs x) w
    rw [h0]
    refine this.mono ?_
    rintro e w' ⟨rfl, rfl⟩
    refine ⟨Or.inr ⟨rfl, ?_⟩, rfl⟩
    rw [List.eq_nil_of_length_eq_zero h0]; simp
  · obtain ⟨b, o, rfl, _, _⟩ := hns.c 0 (by omega)
    have hc : ∀ j, j < (ns.map bs).length → w.cell? ⟨b, o + j, none⟩ = some (.string ((ns.map bs).getD j ByteArray.empty)) := by
      intro j hj
      have hj' : j < ns.length := by simpa using hj
      obtain ⟨b', o', e1, _, e2⟩ := hns.c j hj'
      cases e1
      rw [e2]
      simp [hj']
    have := Any.slices_Contains_string Tryd.laysCont b o ns.length nc (ns.map bs) (bs x) w (by simp) (by omega) hc
    refine this.mono ?_
    rintro e w' ⟨rfl, rfl⟩
    refine ⟨?_, rfl⟩
    cases hcs : Lib.containsS (List.take ns.length (ns.map bs)) (bs x) with
    | true => exact Or.inl rfl
    | false =>
      refine Or.inr ⟨rfl, fun hx => ?_⟩
      have : Lib.containsS (List.take ns.length (ns.map bs)) (bs x) = true := by
        rw [Lib.containsS_iff]
        rw [List.take_of_length_le (by simp)]
        exact List.mem_map_of_mem hx
      rw [hcs] at this
      cases this
end Go.Proofs.YthkdefhngkangaaDoor
/- SymNeeds, walked. -/
namespace Go.Proofs.YthkdefhngkangaaDoor
open Go.RowKit Go.Sort
open Tp (Sy)

theorem swp_mem {d : Array Sy} {i j : Nat} {s : Sy} (hi : i < d.size) (hj : j < d.size) (h : s ∈ (swp d i j).toList) : s ∈ d.toList := by
  rw [Array.mem_toList_iff] at h ⊢
  have h' : s ∈ (d.setIfInBounds i d[j]!).setIfInBounds j d[i]! := h
  rcases Array.mem_or_eq_of_mem_setIfInBounds h' with h1 | h1
  · rcases Array.mem_or_eq_of_mem_setIfInBounds h1 with h2 | h2
    · exact h2
    · rw [h2, getElem!_pos d j hj]; exact Array.getElem_mem hj
  · rw [h1, getElem!_pos d i hi]; exact Array.getElem_mem hi
theorem insInner_mem {lt : Sy → Sy → Bool} (a : Nat) : ∀ (j : Nat) (d : Array Sy) (s : Sy), j < d.size → s ∈ (Sort.insInner lt a j d).toList → s ∈ d.toList := by
  intro j
  induction j with
  | zero => intro d s _ h; exact h
  | succ j ih =>
    intro d s hj h
    rw [Sort.insInner] at h
    split at h
    · have := ih _ _ (by simp [swp]; omega) h
      exact swp_mem hj (by omega) this
    · exact h
theorem insOuter_mem {lt : Sy → Sy → Bool} (a b : Nat) : ∀ (k i : Nat) (d : Array Sy) (s : Sy), b - i = k → b ≤ d.size → s ∈ (Sort.insOuter lt a b i d).toList → s ∈ d.toList := by
  intro k
  induction k with
  | zero => intro i d s h _ hs; rw [Sort.insOuter, if_neg (by omega)] at hs; exact hs
  | succ k ih =>
    intro i d s h hb hs
    rw [Sort.insOuter] at hs
    split at hs
    · have := ih (i + 1) _ s (by omega) (by rw [insInner_size]; exact hb) hs
      exact insInner_mem a i d s (by omega) this
    · exact hs
theorem srt_mem {l : List Sy} {s : Sy} (h : s ∈ srt l) : s ∈ l := by
  unfold srt insS Sort.insertionSort at h
  have := insOuter_mem 0 l.length _ 1 l.toArray s rfl (by simp) h
  simpa using this
theorem okn_len {n : List UInt8} (h : Tp.okn n) : n.length ≤ 10 := by
  unfold Tp.okn at h
  omega
theorem syms_small {m : Tp.M} (hm : Tp.WM m) : AllSmall (srt (Tp.symsOf m)) ∧ (srt (Tp.symsOf m)).length ≤ 20 := by
  constructor
  · intro s hs
    have := srt_mem hs
    unfold Tp.symsOf at this
    rw [List.mem_append, List.mem_map, List.mem_map] at this
    rcases this with ⟨g, hg, rfl⟩ | ⟨p, hp, rfl⟩
    · have hw := hm.g g (List.mem_filter.1 hg).1
      have := okn_len hw.n
      have := hw.l
      simp only [Tp.syG]
      refine ⟨by omega, by decide, by decide, by omega⟩
    · have hw := hm.p p (List.mem_filter.1 hp).1
      have h1 := okn_len hw.n
      have h2 := hw.c
      simp only [Tp.syP]
      refine ⟨by omega, by omega, by omega, by omega⟩
  · rw [srt_len]
    unfold Tp.symsOf
    have h1 := filt_len (fun g : Tp.G => g.seen) Tp.syG m.vars
    have h2 := filt_len (fun p : Tp.Pr => p.seen) Tp.syP m.procs
    have := hm.gc
    have := hm.pc
    rw [List.length_append]
    omega
end Go.Proofs.YthkdefhngkangaaDoor
