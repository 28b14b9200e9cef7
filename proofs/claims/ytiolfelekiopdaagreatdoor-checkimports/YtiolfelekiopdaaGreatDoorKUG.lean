import Derived.Test.YtiolfelekiopdaaGreatDoorKUE
import Derived.Test.YtiolfelekiopdaaGreatDoorKUF
import Derived.Laws.AppendOwnNone
/- CheckImports: what is not used, what is called so; Clone and DeleteFunc at Syms. -/
namespace Go.Proofs.YtiolfelekiopdaaGreatDoor
open Go.RowKit
open Tp (Bs Sy Seen)

set_option maxRecDepth 100000 in
theorem unused_post {W : World} {cb : Nat} {a : Option Addr} {c : Nat} {l : List Bs} (hc : W.cell? ⟨cb, 0, none⟩ = some (.slice a l.length c)) (hs : StrsAt W l a) (hl : l.length ≤ 100000) (s : Sy) :
    Calls Tryz.prog 17 #[.agg #[.string (bs s.1), .int .i64 (s.2.1 : Int), .int .i64 s.2.2], .pointer (some ⟨cb, 0, none⟩)] W fun e w' => e = .returned (.bool (!decide (s.1 ∈ l))) ∧ Below W.heap.size W w' := by
  have hcl := lt_of_cell hc
  have HC : Hid (∀ W', Below W.heap.size W W' → Calls Tryz.prog 18 #[.slice a l.length c, .string (bs s.1)] W' fun e w' => (e = .returned (.bool (decide (s.1 ∈ l)))) ∧ w' = W') := fun W' hW => cont_post (hs.on hW) (by omega) s.1
  go_enter Tryz.func17, Tryz.ntmps17
  go_wp2_with fail
  refine (HC.out _ ((Below.refl _ _).alloc (Nat.le_refl _) _)).mono ?_
  rintro e w' ⟨rfl, rfl⟩
  have HB : Hid (∀ o, Below W.heap.size W (W.alloc o)) := fun o => (Below.refl _ _).alloc (Nat.le_refl _) _
  go_wp2_with fail
  go_ret
  exact ⟨rfl, HB.out _⟩
set_option maxRecDepth 100000 in
theorem called_post {W : World} {cb g cap : Nat} {l : List Sy} (hc : W.cell? ⟨cb, 0, none⟩ = some (.slice (some ⟨g, 0, none⟩) l.length cap)) (h0 : 0 < l.length) (hr : SyRow W g cap l) (s : Sy) :
    Calls Tryz.prog 19 #[.agg #[.string (bs s.1), .int .i64 (s.2.1 : Int), .int .i64 s.2.2], .pointer (some ⟨cb, 0, none⟩)] W fun e w' => e = .returned (.bool (decide (s.1 = l[0].1))) ∧ Below W.heap.size W w' := by
  have hcl := lt_of_cell hc
  have h0' : (0 : Int) < (l.length : Int) := by omega
  have hk := hr.cellAt 0 h0 0 (by omega)
  have kc0 : W.cell? ⟨g, 0, none⟩ = some (.string (bs l[0].1)) := hk
  obtain ⟨cur, r1, r2, r3⟩ := hr.b
  have hgl := lt_blk r1
  clear hr r1 r2 r3 hk
  generalize l[0].1 = y at *
  generalize l.length = n at *
  go_enter Tryz.func19, Tryz.ntmps19
  go_wp2_with fail
  go_quiet (fail)
  have HB : Hid (∀ o n, Below W.heap.size W ((W.alloc o).drewN n)) := fun o n => below_drewN ((Below.refl _ _).alloc (Nat.le_refl _) _) n
  go_wp2_with fail
  go_ret
  refine ⟨?_, HB.out _ _⟩
  show Ending.returned (.bool ((bs s.1).toList == (bs y).toList)) = _
  rw [bs_toList, bs_toList]
  have : (s.1 == y) = decide (s.1 = y) := by by_cases h : s.1 = y <;> simp [h]
  rw [this]
theorem enc_one (l : List Sy) : ∀ u ∈ sycs l, u.oneCell' = true := by
  intro u hu
  simp only [sycs, List.mem_flatten, List.mem_map] at hu
  obtain ⟨x, ⟨s, _, rfl⟩, hx⟩ := hu
  simp [encSy] at hx
  rcases hx with rfl | rfl | rfl <;> rfl
theorem Tryz.eqNilS (w : World) : (binOp .eql 45 (.slice none 0 0) (.slice none 0 0)).run Tryz.prog w = .ok (.bool true) w := by kernel_rfl
theorem Tryz.eqSomeS (w : World) (a : Addr) (n c : Nat) : (binOp .eql 45 (.slice (some a) n c) (.slice none 0 0)).run Tryz.prog w = .ok (.bool false) w := by kernel_rfl
set_option maxRecDepth 100000 in
theorem cloneS {w : World} {B : Nat} {v : Value} {l : List Sy} (h : SL w B v l) (hn : l.length ≤ 1000) :
    Calls Tryz.prog 16 #[v] w fun e w' => ∃ v', e = .returned v' ∧ Below w.heap.size w w' ∧ SL w' w.heap.size v' l := by
  have hq0 := Tryz.eqNilS
  have hq1 := Tryz.eqSomeS
  obtain ⟨i0, hi, hz0, hz1, hz2⟩ := info_parts Tryz.infoSym
  rcases h with ⟨rfl, rfl⟩ | ⟨g, cap, rfl, hB, hrow⟩
  · go_enter Tryz.func16, Tryz.ntmps16
    go_wp2_with fail
    go_ret
    exact ⟨_, rfl, Below.refl _ _, Or.inl ⟨rfl, rfl⟩⟩
  · obtain ⟨cur, hb, hsz, htk⟩ := hrow.b
    have hal : Below w.heap.size w (w.alloc (.cells #[] 48)) := (Below.refl _ _).alloc (Nat.le_refl _) _
    have hown : (w.alloc (.cells #[] 48)).ownsRow w.heap.size 48 3 (.slice (some ⟨w.heap.size, 0, none⟩) 0 0) 0 [] :=
      ⟨rfl, Or.inr ⟨w.heap.size, 0, #[], rfl, Nat.le_refl _, new_blk _ _, Nat.le_refl _, by unfold maxLen; omega, rfl, rfl⟩⟩
    have hb' : (w.alloc (.cells #[] 48)).heap[g]? = some (.cells cur 48 (0, 0)) := (Below.heap_alloc _ _ _ (lt_blk hb)).trans hb
    have hnews : ∀ j u, (sycs l)[j]? = some u → (w.alloc (.cells #[] 48)).cell? ((⟨g, 0, none⟩ : Addr).add j) = some u := by
      intro j u hj
      have hjl : j < l.length * 3 := by rw [← sycs_len]; exact (List.getElem?_eq_some_iff.1 hj).1
      rw [Addr.add_lit, cell_blk hb', Nat.zero_add, ← Array.getElem?_toList, ← hj, ← htk, List.getElem?_take_of_lt hjl]
    have HO := Lib.hid hown
    have HAL := Lib.hid hal
    have HNW := Lib.hid hnews
    obtain ⟨n, hnl⟩ : ∃ n, n = l.length := ⟨_, rfl⟩
    have HL : Hid ((sycs l).length = n * 3) := by unfold Hid; rw [hnl]; exact sycs_len l
    rw [← hnl] at hn ⊢
    clear hown hal hb' hb hnews hsz htk hrow hnl
    go_enter Tryz.func16, Tryz.ntmps16
    go_wp2_with (at_builtin; refine wpList_append_where _ rfl _ _ 45 rfl w.heap.size 48 i0 (.agg #[.string ⟨#[]⟩, .int .i64 0, .int .i64 0]) 3 32 Tryz.underlying45 hi hz0 hz1 hz2 rfl (by decide) _ 0 [] rfl HO.out ⟨g, 0, none⟩ n cap (sycs l) rfl HL.out HNW.out (enc_one l) (by unfold maxLen; omega) (by omega) (by simp) ?_)
    intro v3 w3 h3 g3 _
    have HB3 : Hid (Below w.heap.size w w3) := HAL.out.trans ((Below.refl w.heap.size _).grown g3 (by simp) (fun k hk => (HO.out.lt k hk).1))
    have HO3 : Hid (SL w3 w.heap.size v3 l) := by
      have : w3.ownsRow w.heap.size 48 3 v3 n (sycs l) := by simpa using h3
      exact (own_syrow this).2
    clear h3 g3
    go_wp2_with fail
    go_ret
    exact ⟨_, rfl, HB3.out, HO3.out⟩
/- of none, none -/
set_option maxRecDepth 100000 in
theorem indexAnil {w : World} {cb : Nat} : Calls Tryz.prog 41 #[.slice none 0 0, .func (.func 17) #[] #[.pointer (some ⟨cb, 0, none⟩)]] w fun e w' => e = .returned (.int .i64 (-1)) ∧ w' = w := by
  go_enter Tryz.func41, Tryz.ntmps41
  go_wp2_with fail
  go_loopg [8] 1 (fun k vi wr => k = 1 ∧ vi = .int .i64 0 ∧ wr = w)
  case atStart => exact ⟨rfl, rfl, rfl⟩
  case round =>
    obtain ⟨rfl, rfl, rfl⟩ := hrel
    go_wp2_with fail
    go_ret
    exact ⟨rfl, rfl⟩
set_option maxRecDepth 100000 in
theorem deleteAall {w : World} {B cb : Nat} {v : Value} {l : List Sy} {del : Sy → Bool} (hs : SL w B v l) (hB : B ≤ w.heap.size) (hn : l.length ≤ 1000) (hd : ∀ W s, s ∈ l → Below B w W → Calls Tryz.prog 17 #[.agg #[.string (bs s.1), .int .i64 (s.2.1 : Int), .int .i64 s.2.2], .pointer (some ⟨cb, 0, none⟩)] W fun e w' => e = .returned (.bool (del s)) ∧ Below W.heap.size W w') :
    Calls Tryz.prog 15 #[v, .func (.func 17) #[] #[.pointer (some ⟨cb, 0, none⟩)]] w fun e w' => ∃ v', e = .returned v' ∧ SL w' B v' (l.filter fun s => !del s) ∧ Below B w w' := by
  rcases hs with ⟨rfl, rfl⟩ | ⟨g, cap, rfl, hg, hrow⟩
  · have HI := Lib.hid (@indexAnil w cb)
    clear hd
    go_enter Tryz.func15, Tryz.ntmps15
    go_wp2_with fail
    refine HI.out.mono ?_
    rintro e w' ⟨rfl, rfl⟩
    go_wp2_with fail
    go_ret
    exact ⟨_, rfl, Or.inl ⟨rfl, rfl⟩, Below.refl _ _⟩
  · refine (deleteA hrow hn (fun W s hs hx => hd W s hs (ext_below hx hg hB))).mono ?_
    rintro e w' ⟨⟨n, rfl, rfl⟩, hr, hx⟩
    exact ⟨_, rfl, Or.inr ⟨g, cap, rfl, hg, hr⟩, ext_below hx hg hB⟩
/- of none, none -/
set_option maxRecDepth 100000 in
theorem indexBnil {w : World} {cb : Nat} : Calls Tryz.prog 41 #[.slice none 0 0, .func (.func 19) #[] #[.pointer (some ⟨cb, 0, none⟩)]] w fun e w' => e = .returned (.int .i64 (-1)) ∧ w' = w := by
  go_enter Tryz.func41, Tryz.ntmps41
  go_wp2_with fail
  go_loopg [8] 1 (fun k vi wr => k = 1 ∧ vi = .int .i64 0 ∧ wr = w)
  case atStart => exact ⟨rfl, rfl, rfl⟩
  case round =>
    obtain ⟨rfl, rfl, rfl⟩ := hrel
    go_wp2_with fail
    go_ret
    exact ⟨rfl, rfl⟩
set_option maxRecDepth 100000 in
theorem deleteBall {w : World} {B cb : Nat} {v : Value} {l : List Sy} {del : Sy → Bool} (hs : SL w B v l) (hB : B ≤ w.heap.size) (hn : l.length ≤ 1000) (hd : ∀ W s, s ∈ l → Below B w W → Calls Tryz.prog 19 #[.agg #[.string (bs s.1), .int .i64 (s.2.1 : Int), .int .i64 s.2.2], .pointer (some ⟨cb, 0, none⟩)] W fun e w' => e = .returned (.bool (del s)) ∧ Below W.heap.size W w') :
    Calls Tryz.prog 15 #[v, .func (.func 19) #[] #[.pointer (some ⟨cb, 0, none⟩)]] w fun e w' => ∃ v', e = .returned v' ∧ SL w' B v' (l.filter fun s => !del s) ∧ Below B w w' := by
  rcases hs with ⟨rfl, rfl⟩ | ⟨g, cap, rfl, hg, hrow⟩
  · have HI := Lib.hid (@indexBnil w cb)
    clear hd
    go_enter Tryz.func15, Tryz.ntmps15
    go_wp2_with fail
    refine HI.out.mono ?_
    rintro e w' ⟨rfl, rfl⟩
    go_wp2_with fail
    go_ret
    exact ⟨_, rfl, Or.inl ⟨rfl, rfl⟩, Below.refl _ _⟩
  · refine (deleteB hrow hn (fun W s hs hx => hd W s hs (ext_below hx hg hB))).mono ?_
    rintro e w' ⟨⟨n, rfl, rfl⟩, hr, hx⟩
    exact ⟨_, rfl, Or.inr ⟨g, cap, rfl, hg, hr⟩, ext_below hx hg hB⟩
end Go.Proofs.YtiolfelekiopdaaGreatDoor
/- CheckImports: of all others just what is used. No program stands in it. -/
namespace Go.Proofs.YtiolfelekiopdaaGreatDoor
open Go.RowKit
open Tp (Bs Sy Seen)

def usedF (m : Tp.M) (Sn : Seen) (k : Bs) : List Sy := ((Sn k).getD []).filter fun s => decide (s.1 ∈ Tp.usedR m k)
def lessOf (m : Tp.M) (Sn : Seen) (i : Nat) : Seen := fun k => if k ∈ m.imports.take i then some (usedF m Sn k) else none
theorem lessOf_zero (m : Tp.M) (Sn : Seen) : lessOf m Sn 0 = fun _ => none := by funext k; simp [lessOf]
theorem lessOf_succ {m : Tp.M} {Sn : Seen} {i : Nat} (hi : i < m.imports.length) : lessOf m Sn (i + 1) = fun k => if k = m.imports[i] then some (usedF m Sn m.imports[i]) else lessOf m Sn i k := by
  funext k
  simp only [lessOf, List.take_succ_eq_append_getElem hi, List.mem_append, List.mem_singleton]
  by_cases e : k = m.imports[i]
  · simp [e]
  · simp [e]
theorem check_lessOf {m : Tp.M} {Sn : Seen} (h : Tp.check m Sn = none) : Tp.check m (lessOf m Sn m.imports.length) = none := by
  refine Tp.check_less h (fun n hn => ⟨fun s => decide (s.1 ∈ Tp.usedR m n), ?_, fun s hs => by simpa using hs⟩)
  simp only [lessOf, List.take_length, if_pos hn, usedF]
theorem lessOf_gone {m : Tp.M} {Sn : Seen} {n : Nat} {k : Bs} {l : List Sy} (hl : lessOf m Sn n k = some l) (h0 : 0 < l.length) : Tp.check m (fun q => if q = k then some (l.filter fun s => !decide (s.1 = l[0].1)) else lessOf m Sn n q) ≠ none := by
  have hu : l[0].1 ∈ Tp.usedR m k := by
    unfold lessOf at hl
    split at hl
    · cases hl
      have hm : ∀ x ∈ usedF m Sn k, x.1 ∈ Tp.usedR m k := fun x hx => by
        unfold usedF at hx
        rw [List.mem_filter] at hx
        simpa using hx.2
      exact hm _ (List.getElem_mem h0)
    · cases hl
  refine Tp.check_gone hu ?_
  intro s hs
  simp at hs
  exact hs.2
theorem used_filter {m : Tp.M} {Sn : Seen} {k : Bs} {l : List Bs} (h : ∀ x, x ∈ l ↔ x ∈ Tp.usedR m k) : (((Sn k).getD []).filter fun s => !(!decide (s.1 ∈ l))) = usedF m Sn k := by
  unfold usedF
  congr 1
  funext s
  simp [h]
theorem usedF_len {m : Tp.M} {Sn : Seen} {k : Bs} (h : ((Sn k).getD []).length ≤ 1000) : (usedF m Sn k).length ≤ 1000 := Nat.le_trans (List.length_filter_le _ _) h
theorem skey_inv {key : Value} {kl : Lit} (h : keyOf Tryz.prog 9 key = some kl) : ∃ x : Bs, key = .string (bs x) ∧ kl = .string x := by
  have hk := Tryz.underlying9
  cases key <;> simp [keyOf, hk, mapKey] at h
  rename_i s
  refine ⟨s.data.toList, by cases s; simp [bs], ?_⟩
  first | exact h.2.symm | exact h.symm | simp_all
theorem range_entry {D : DataW Value} {f : Bs → Option Value} (hD : ∀ s, Maps.has D (.string s) = (f s).isSome ∧ ∀ v, f s = some v → ∀ z, D.atKey (.string s) z = .held v) {x : Bs} {c : Value} (hat : ∀ zd, D.atKey (.string x) zd = .held c) : f x = some c := by
  obtain ⟨e1, e2⟩ := hD x
  cases hf : f x with
  | none =>
    rw [hf] at e1
    have h1 := hat (.map [])
    rw [Maps.atKey_of_not_has e1] at h1
    cases h1
  | some u =>
    have h1 := e2 u hf (.map [])
    rw [hat] at h1
    injection h1 with h1
    rw [h1]
end Go.Proofs.YtiolfelekiopdaaGreatDoor
