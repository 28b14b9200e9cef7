import Derived.Test.YtadgeapgoggljaaGreatDoorKEb
import Derived.Test.YtadgeapgoggljaaGreatDoorKLc
import Derived.Test.YtadgeapgoggljaaGreatDoorKUa
import Derived.Test.YtadgeapgoggljaaGreatDoorKMb
import Derived.Test.YtadgeapgoggljaaGreatDoorKUb
import Derived.Test.YtadgeapgoggljaaGreatDoorKPb
/- Chapter 9: the names of a map, sorted. -/
namespace Go.Proofs.YtadgeapgoggljaaGreatDoor
open Go.RowKit Go.Maps Go.Sort Go.Shelf
open Tp (Bs)

def sK (K : List Bs) : List Bs := K.mergeSort (fun x y => decide (x ≤ y))
theorem sK_len (K : List Bs) : (sK K).length = K.length := by simp [sK]
theorem sK_mem {K : List Bs} {x : Bs} : x ∈ sK K ↔ x ∈ K := by simp [sK]
theorem sK_nodup {K : List Bs} (h : K.Nodup) : (sK K).Nodup := (List.mergeSort_perm K _).nodup_iff.2 h
theorem sK_perm {K L : List Bs} (h : K.Perm L) : sK K = sK L := mergeSort_of_perm h
theorem perm_of {K L : List Bs} (hK : K.Nodup) (hL : L.Nodup) (h : ∀ x, x ∈ K ↔ x ∈ L) : K.Perm L := (List.perm_ext_iff_of_nodup hK hL).2 h
theorem sortsZ (m : Nat) : AnyZ.SortsIn Tryz.prog Tryz.sortedZ_ren Fence.wide m :=
  ⟨fun blk off cap ss W hH hblk hsz => callsIn_wide.2 (AnyM.slices_Sort_string Tryz.sortZ blk off cap ss W hH hblk hsz),
   fun p cap W => callsIn_wide.2 (AnyM.slices_Sort_string_none Tryz.sortZ p cap W)⟩
theorem keysC (mb : Option Nat) (W : World) : Calls Tryz.prog 18 #[.map mb] W fun e w' => e = .returned (.func (.func 36) #[] #[.pointer (some ⟨W.heap.size, 0, none⟩)]) ∧ w' = W.alloc (.cells #[.map mb] 25) :=
  (callsIn_wide (n := 5)).1 (AnyZ.keys_in Tryz.keysZ Fence.wide 5 trivial rfl mb W)
set_option maxHeartbeats 1000000 in
theorem sortedC {w : World} {mb n : Nat} {f : Bs → Option Value} {K : List Bs} {im : Bs → List Bs} (h : Mods w mb n f K im) :
    Calls Tryz.prog 17 #[.func (.func 36) #[] #[.pointer (some ⟨w.heap.size, 0, none⟩)]] (w.alloc (.cells #[.map (some mb)] 25)) fun e w' => ∃ a c, e = .returned (.slice a K.length c) ∧ w'.ownsRow w.heap.size 9 1 (.slice a K.length c) K.length (strs (sK K)) ∧ Below w.heap.size w w' := by
  obtain ⟨D0, hown, hD⟩ := h.m.own
  obtain ⟨K2, k1, k2, k3, k4⟩ := own_keys hown hD
  have hbl := hown.lt
  have hn := h.n
  have hlen : K.length = K2.length := Nat.le_antisymm (Tp.nodup_le h.nd (fun x hx => (k2 x).2 ((h.key x).1 hx))) (Tp.nodup_le k1 (fun x hx => (h.key x).2 ((k2 x).1 hx)))
  have hsz : Maps.size D0 ≤ 100 := by omega
  have hseq : SeqGives Fence.wide 2 Tryz.prog 36 #[.pointer (some ⟨w.heap.size, 0, none⟩)] encStr (fun ss => ss.Perm (strKeys D0)) (Maps.size D0) (w.alloc (.cells #[.map (some mb)] 25)) :=
    AnyZ.keys_gives (ρ := Tryz.keysZ_ren) { Tryz.keysZ with } Fence.wide _ trivial rfl (by omega) w.heap.size mb n D0 _ (by simp) (by simp) (by
      obtain ⟨es, clock, hb, Ft, hs, hD⟩ := hown
      exact ⟨es, clock, (Below.heap_alloc _ _ mb hbl).trans hb, Ft, hs, hD⟩)
  have hs := (callsIn_wide (n := 5)).1 (AnyZ.sorted_in Tryz.sortedZ Fence.wide 5 trivial trivial trivial trivial rfl (by omega) (sortsZ _) (enters_of Tryz.func8 (by kernel_rfl) rfl) 36 #[.pointer (some ⟨w.heap.size, 0, none⟩)] trivial (enters_of Tryz.func36 (by kernel_rfl) rfl) _ _ (by unfold maxLen; omega) (by omega) _ hseq)
  have hal : Below w.heap.size w (w.alloc (.cells #[.map (some mb)] 25)) := (Below.refl _ _).alloc (Nat.le_refl _) _
  have hpk : K.Perm (strKeys D0) := by
    obtain ⟨es, hes, hpw⟩ := hown.tidy skey
    subst hes
    refine perm_strKeys hpw (fun p hp => ?_) h.nd (fun x => ?_)
    · obtain ⟨es2, clock, hb, F, hsz2, e2⟩ := hown
      have hq : es = (es2.toList.map (WideElems.rg Tryz.prog 9 heldV)).foldr DataW.insert [] := by injection e2
      rw [hq] at hp
      obtain ⟨x, hx, rfl⟩ := List.mem_map.1 (mem_sorted.1 hp)
      obtain ⟨y, hy⟩ := F.reads x hx
      obtain ⟨s, _, h2⟩ := skey_inv' (WideElems.rd_key hy)
      exact ⟨s, by rw [WideElems.rg_of hy]; exact h2⟩
    · rw [h.key x, (hD x).1]
  refine hs.mono ?_
  rintro e w' ⟨v, ss, rfl, hS, hrow, hnil, hb⟩
  have hp : ss.Perm K := hS.trans hpk.symm
  have hl := hp.length_eq
  rw [hl] at hrow
  have e1 : (ss.mergeSort (fun x y => decide (x ≤ y))).map encStr = strs (sK K) := by rw [mergeSort_of_perm hp]; rfl
  rw [e1] at hrow
  obtain ⟨a, c, rfl⟩ := owns_shape hrow
  exact ⟨a, c, rfl, own_base hrow hal.size, hal.trans (hb.mono hal.size)⟩
end Go.Proofs.YtadgeapgoggljaaGreatDoor
/- Chapter 9: what others saw, and see now: differs; who uses what is otherwise. -/
namespace Go.Proofs.YtadgeapgoggljaaGreatDoor
open Go.RowKit Go.Maps Go.Sort
open Tp (Bs Sy)

theorem swp_mem {d : Array Sy} {i j : Nat} {s : Sy} (hi : i < d.size) (hj : j < d.size) (h : s ∈ (swp d i j).toList) : s ∈ d.toList := by
  rw [Array.mem_toList_iff] at h ⊢
  have h' : s ∈ (d.setIfInBounds i d[j]!).setIfInBounds j d[i]! := h
  rcases Array.mem_or_eq_of_mem_setIfInBounds h' with h1 | h1
  · rcases Array.mem_or_eq_of_mem_setIfInBounds h1 with h2 | h2
    · exact h2
    · rw [h2, getElem!_pos d j hj]; exact Array.getElem_mem hj
  · rw [h1, getElem!_pos d i hi]; exact Array.getElem_mem hi
theorem insInner_mem {lt : Sy → Sy → Bool} (a : Nat) : ∀ (j : Nat) (d : Array Sy) (s : Sy), j < d.size → s ∈ (Sort.insInner lt a j d).toList → s ∈ d.toList := by
  intro j
  induction j with
  | zero => intro d s _ h; exact h
  | succ j ih =>
    intro d s hj h
    rw [Sort.insInner] at h
    split at h
    · have := ih _ _ (by simp [swp]; omega) h
      exact swp_mem hj (by omega) this
    · exact h
theorem insOuter_mem {lt : Sy → Sy → Bool} (a b : Nat) : ∀ (k i : Nat) (d : Array Sy) (s : Sy), b - i = k → b ≤ d.size → s ∈ (Sort.insOuter lt a b i d).toList → s ∈ d.toList := by
  intro k
  induction k with
  | zero => intro i d s h _ hs; rw [Sort.insOuter, if_neg (by omega)] at hs; exact hs
  | succ k ih =>
    intro i d s h hb hs
    rw [Sort.insOuter] at hs
    split at hs
    · have := ih (i + 1) _ s (by omega) (by rw [insInner_size]; exact hb) hs
      exact insInner_mem a i d s (by omega) this
    · exact hs
theorem srt_mem {l : List Sy} {s : Sy} (h : s ∈ srt l) : s ∈ l := by
  unfold srt insS Sort.insertionSort at h
  have := insOuter_mem 0 l.length _ 1 l.toArray s rfl (by simp) h
  simpa using this
def ofS (m : Tp.M) : List Tp.Sy := srt (Tp.symsOf m)
theorem ofS_mem (m : Tp.M) : ∀ s ∈ ofS m, s ∈ Tp.symsOf m := fun _ hs => srt_mem hs
theorem ofS_len {m : Tp.M} (hg : m.vars.length ≤ 10) (hp : m.procs.length ≤ 10) : (ofS m).length ≤ 1000 := by
  unfold ofS
  rw [srt_len]
  unfold Tp.symsOf
  have h1 := List.length_filter_le (fun g : Tp.G => g.seen) m.vars
  have h2 := List.length_filter_le (fun p : Tp.Pr => p.seen) m.procs
  simp only [List.length_append, List.length_map]
  omega
theorem ofS_small {m : Tp.M} (hm : Tp.WM m) : AllSmall (ofS m) := by
  intro s hs
  have := ofS_mem m s hs
  unfold Tp.symsOf at this
  rw [List.mem_append, List.mem_map, List.mem_map] at this
  rcases this with ⟨g, hg, rfl⟩ | ⟨p, hp, rfl⟩
  · have hw := hm.g g (List.mem_filter.1 hg).1
    have := Tp.okn_len hw.n
    have := hw.l
    simp only [Tp.syG]
    refine ⟨by omega, by decide, by decide, by omega⟩
  · have hw := hm.p p (List.mem_filter.1 hp).1
    have h1 := Tp.okn_len hw.n
    have h2 := hw.c
    simp only [Tp.syP]
    refine ⟨by omega, by omega, by omega, by omega⟩
theorem SL.zero {w : World} {B : Nat} {v : Value} {l : List Sy} (h : SL w B v l) : SL w 0 v l := by
  rcases h with q | ⟨g, cap, a, _, b⟩
  · exact Or.inl q
  · exact Or.inr ⟨g, cap, a, Nat.zero_le _, b⟩
set_option maxRecDepth 100000 in
set_option maxHeartbeats 2000000 in
theorem differs_same {w : World} {a1 a2 na : Option Addr} {n1 n2 c1 c2 nc : Nat} {l : List Sy} (h1 : SL w 0 (.slice a1 n1 c1) l) (h2 : SL w 0 (.slice a2 n2 c2) l) (hs : AllSmall l) (hl : l.length ≤ 1000) {ns : List Bs} (hns : StrsAt w ns na) (hnl : ∀ n ∈ ns, n.length ≤ 100) (hnn : ns.length ≤ 9000) :
    Calls Tryz.prog 20 #[.agg #[.slice a1 n1 c1, .slice a2 n2 c2], .slice na ns.length nc] w fun e w' => e = .returned (.bool false) ∧ Below w.heap.size w w' := by
  obtain ⟨w1, hw1⟩ : ∃ w1, w1 = w.alloc (.cells #[.slice a1 n1 c1, .slice a2 n2 c2] 55) := ⟨_, rfl⟩
  have hb1 : Below w.heap.size w w1 := by rw [hw1]; exact (Below.refl _ _).alloc (Nat.le_refl _) _
  have hk1 : w1.heap[w.heap.size]? = some (.cells #[.slice a1 n1 c1, .slice a2 n2 c2] 55 (0, 0)) := by rw [hw1]; exact new_blk _ _
  have hl1 := lt_blk hk1
  have HN : Hid (∀ W v, Below w1.heap.size w1 W → (v = .slice a1 n1 c1 ∨ v = .slice a2 n2 c2) → Calls Tryz.prog 37 #[v, .slice na ns.length nc] W fun e w' => e = .returned (.string (bs (Tp.needsS l ns))) ∧ Below w1.heap.size w1 w') := fun W v hW hv => by
    have hW' : Below w.heap.size w W := hb1.trans (hW.mono hb1.size)
    have hs' : SL w 0 v l := by rcases hv with rfl | rfl <;> assumption
    exact (needs_post (nc := nc) (hs'.on hW') hs hl (hns.on hW') hnl hnn).mono (fun e w' q => ⟨q.1, hW.trans (q.2.mono hW.size)⟩)
  have HSx : Hid (∀ V, Below w1.heap.size w1 V → V.cell? ⟨w.heap.size, 0, none⟩ = some (.slice a1 n1 c1) ∧ V.cell? ⟨w.heap.size, 1, none⟩ = some (.slice a2 n2 c2)) := fun V hV => by
    have := (hV.block _ hl1).trans hk1
    exact ⟨(cell_blk this).trans rfl, (cell_blk this).trans rfl⟩
  have HB1 := Lib.hid hb1
  have HDR : Hid (Below w1.heap.size w1 w1.drew) := (Below.refl _ _).drew
  have HS0 : Hid (w1.drew.cell? ⟨w.heap.size, 0, none⟩ = some (.slice a1 n1 c1) ∧ w1.drew.cell? ⟨w.heap.size, 1, none⟩ = some (.slice a2 n2 c2)) := HSx.out _ HDR.out
  generalize bs (Tp.needsS l ns) = tx at *
  generalize ns.length = nl at *
  obtain ⟨bb, hbb⟩ : ∃ bb, bb = w.heap.size := ⟨_, rfl⟩
  rw [← hbb] at HSx HS0
  clear h1 h2 hs hl hns hnl hnn hk1 hb1 hl1
  go_enter Tryz.func20, Tryz.ntmps20
  go_upto_region 1 with fail
  rw [← hw1, ← hbb]
  clear hw1 hbb
  go_region_held3 (fun w' => w'.cell? ⟨bb, 0, none⟩ = some (.slice a1 n1 c1) ∧ w'.cell? ⟨bb, 1, none⟩ = some (.slice a2 n2 c2)) (with_reducible (first | exact HS4.out | exact HS3.out | exact HS0.out)) (first | (have _g := HB3; go_at_call 37; refine (HN.out _ _ HB3.out (by first | exact Or.inl rfl | exact Or.inr rfl)).mono ?_; rintro e w4 ⟨rfl, hb4⟩; have HB4 := Lib.hid hb4; have HS4 := Lib.hid (HSx.out w4 hb4); clear hb4) | (go_at_call 37; refine (HN.out _ _ HDR.out (by first | exact Or.inl rfl | exact Or.inr rfl)).mono ?_; rintro e w3 ⟨rfl, hb3⟩; have HB3 := Lib.hid hb3; have HS3 := Lib.hid (HSx.out w3 hb3); clear hb3))
  all_goals
    go_wp2_with fail
    go_ret
    exact ⟨by first | rfl | simp, HB1.out.trans (HB4.out.mono HB1.out.size)⟩
end Go.Proofs.YtadgeapgoggljaaGreatDoor
/- Chapter 9: viewsOf, walked. -/
namespace Go.Proofs.YtadgeapgoggljaaGreatDoor
open Go.RowKit Go.Maps
open Tp (Bs Sy)

theorem SL.extM {w w' : World} {B b n : Nat} {f : Bs → Option Value} {v : Value} {l : List Sy} (h : SL w B v l) (k : Ext b w w') (hm : MapV w b n f) : SL w' B v l := by
  rcases h with q | ⟨g, cap, q1, q2, q3⟩
  · exact Or.inl q
  · obtain ⟨cur, r1, r2, r3⟩ := q3.b
    obtain ⟨es, c, hb⟩ := hm.isMap'
    have hne : g ≠ b := fun e => by rw [e, hb] at r1; cases r1
    exact Or.inr ⟨g, cap, q1, q2, ⟨⟨cur, (k.block g (lt_blk r1) hne).trans r1, r2, r3⟩, q3.n, q3.m⟩⟩
/- views, in memory: of the names ch; where was and now are the same they are alike -/
structure VW (w : World) (same : Prop) (vb n : Nat) (fv : Bs → Option Value) (ch : List Bs) : Prop where
  m : MapV w vb n fv
  key : ∀ x, (fv x).isSome = true ↔ x ∈ ch
  val : ∀ x v, fv x = some v → ∃ a1 n1 c1 a2 n2 c2, v = .agg #[.slice a1 n1 c1, .slice a2 n2 c2] ∧ (same → ∃ l, SL w 0 (.slice a1 n1 c1) l ∧ SL w 0 (.slice a2 n2 c2) l ∧ AllSmall l ∧ l.length ≤ 1000)
theorem VW.on {w w' : World} {same : Prop} {vb n : Nat} {fv : Bs → Option Value} {ch : List Bs} (h : VW w same vb n fv ch) (k : Below w.heap.size w w') : VW w' same vb n fv ch :=
  ⟨h.m.on (k.block _ h.m.lt), h.key, fun x v hx => by
    obtain ⟨a1, n1, c1, a2, n2, c2, h1, h2⟩ := h.val x v hx
    exact ⟨a1, n1, c1, a2, n2, c2, h1, fun s => by
      obtain ⟨l, q1, q2, q3⟩ := h2 s
      exact ⟨l, q1.on k, q2.on k, q3⟩⟩⟩
theorem VW.put {w w' : World} {same : Prop} {vb n : Nat} {fv : Bs → Option Value} {ch : List Bs} (h : VW w same vb n fv ch) {x : Bs} {a1 a2 : Option Addr} {n1 c1 n2 c2 : Nat} (hl : same → ∃ l, SL w 0 (.slice a1 n1 c1) l ∧ SL w 0 (.slice a2 n2 c2) l ∧ AllSmall l ∧ l.length ≤ 1000) (hf : MapV w' vb (n + 1) (updV fv x (.agg #[.slice a1 n1 c1, .slice a2 n2 c2]))) (k : Ext vb w w') : VW w' same vb (n + 1) (updV fv x (.agg #[.slice a1 n1 c1, .slice a2 n2 c2])) (ch ++ [x]) := by
  refine ⟨hf, fun y => ?_, fun y v hy => ?_⟩
  · unfold updV
    by_cases e : y = x
    · simp [e]
    · rw [if_neg e, h.key y]; simp [e]
  · unfold updV at hy
    by_cases e : y = x
    · rw [if_pos e] at hy
      cases hy
      exact ⟨a1, n1, c1, a2, n2, c2, rfl, fun s => by
        obtain ⟨l, q1, q2, q3⟩ := hl s
        exact ⟨l, q1.extM k h.m, q2.extM k h.m, q3⟩⟩
    · rw [if_neg e] at hy
      obtain ⟨b1, m1, d1, b2, m2, d2, h1, h2⟩ := h.val y v hy
      exact ⟨b1, m1, d1, b2, m2, d2, h1, fun s => by
        obtain ⟨l, q1, q2, q3⟩ := h2 s
        exact ⟨l, q1.extM k h.m, q2.extM k h.m, q3⟩⟩
theorem zeroView (w : World) : (zeroValue 55).run Tryz.prog w = .ok (.agg #[.slice none 0 0, .slice none 0 0]) w := by kernel_rfl
def mZ : Tp.M := ⟨[], [], [], [], []⟩
theorem mb_zero (w : World) : MB w w.heap.size mZ none none none none 0 0 0 0 := ⟨Or.inl ⟨rfl, rfl, rfl⟩, Or.inl ⟨rfl, rfl, rfl⟩, ⟨[], rfl, Or.inl ⟨rfl, rfl, rfl⟩⟩, ⟨[], (by show RepS w _ [] []; rw [RepS]), by unfold OwnS; first | exact Or.inl ⟨rfl, rfl, rfl⟩ | exact Or.inl ⟨rfl, rfl⟩ | exact Or.inl rfl⟩⟩
/- the maps that Stale asks: now; was is the same, or none -/
def WasV (same : Prop) (mb : Nat) (wv : Value) : Prop := (same ∧ wv = .map (some mb)) ∨ (¬ same ∧ wv = .map none)
/- what a lookup in was, or in now, gives; and what is seen of it -/
theorem was_look {w : World} {same : Prop} {mb n : Nat} {f : Bs → Option Value} {F : Bs → Option Tp.M} {wv : Value} (h : ModF w mb n f F) (hw : WasV same mb wv) {x : Bs} {m : Tp.M} (hx : F x = some m) (hl : x.length ≤ 1000000) :
    ∃ A N, (∀ V, V.heap[mb]? = w.heap[mb]? → (Instr.lookup 25 wv (.string (bs x)) false).run Tryz.prog V = .ok A V ∧ (Instr.lookup 25 (.map (some mb)) (.string (bs x)) false).run Tryz.prog V = .ok N V) ∧
      ∀ V X, Below w.heap.size w V → (X = A ∨ X = N) → Calls Tryz.prog 34 #[X] V fun e w' => ∃ a k c, e = .returned (.slice a k c) ∧ Below V.heap.size V w' ∧ (same → SL w' 0 (.slice a k c) (ofS m)) := by
  obtain ⟨v, ia, ga, pa, ba, ic, gc, pc, bc, h1, h2⟩ := h.is x m hx
  have hlk : ∀ V, V.heap[mb]? = w.heap[mb]? → (Instr.lookup 25 (.map (some mb)) (.string (bs x)) false).run Tryz.prog V = .ok v V := fun V hV => by
    have := (h.m.on hV).look (t := 25) Tryz.underlying25 (zeroMod' V) x hl false
    simp only [Bool.false_eq_true, if_false] at this
    rw [h1, Option.getD_some] at this
    exact this
  have hof : ∀ V, Below w.heap.size w V → Calls Tryz.prog 34 #[v] V fun e w' => ∃ a k c, e = .returned (.slice a k c) ∧ Below V.heap.size V w' ∧ (same → SL w' 0 (.slice a k c) (ofS m)) := fun V hV => by
    rw [h2.v]
    have hmd := h2.md.mono (w' := V) (D' := fun b => b < V.heap.size) (fun b _ hb => ⟨hV.block b hb, by have := hV.size; omega⟩)
    refine (of_post h2.wm.gc h2.wm.pc (hmd.mb (fun b hb _ => hb))).mono ?_
    rintro e w' ⟨u, rfl, hb, hs⟩
    obtain ⟨a, c, rfl⟩ := hs.len
    exact ⟨a, _, c, rfl, hb, fun _ => hs.zero⟩
  rcases hw with ⟨_, rfl⟩ | ⟨hns, rfl⟩
  · exact ⟨v, v, fun V hV => ⟨hlk V hV, hlk V hV⟩, fun V X hV hX => by
      rcases hX with rfl | rfl <;> exact hof V hV⟩
  · refine ⟨.agg #[.string ⟨#[]⟩, .slice none 0 0, .slice none 0 0, .slice none 0 0, .slice none 0 0], v, fun V hV => ⟨?_, hlk V hV⟩, fun V X hV hX => ?_⟩
    · exact nilmap_look V (t := 25) Tryz.underlying25 (zeroMod' V) x hl false
    · rcases hX with rfl | rfl
      · refine (of_post (m := mZ) (by decide) (by decide) (mb_zero V)).mono ?_
        rintro e w' ⟨u, rfl, hb, hs⟩
        obtain ⟨a, c, rfl⟩ := hs.len
        exact ⟨a, _, c, rfl, hb, fun s => absurd s hns⟩
      · exact hof V hV
def ViewsP (w : World) (same : Prop) (ch : List Bs) (e : Ending) (w' : World) : Prop := ∃ vb n fv, e = .returned (.map (some vb)) ∧ w.heap.size ≤ vb ∧ n ≤ ch.length ∧ VW w' same vb n fv ch ∧ Below w.heap.size w w'
set_option maxRecDepth 100000 in
set_option maxHeartbeats 4000000 in
theorem views_post {w : World} {same : Prop} {mb n : Nat} {f : Bs → Option Value} {F : Bs → Option Tp.M} {wv : Value} (h : ModF w mb n f F) (hw : WasV same mb wv) {ch : List Bs} {ca : Option Addr} {cc : Nat} (hS : StrsAt w ch ca) (hch : ∀ x ∈ ch, ∃ m, F x = some m) (hnd : ch.Nodup) (hcl : ch.length ≤ 100) :
    Calls Tryz.prog 16 #[wv, .map (some mb), .slice ca ch.length cc] w (ViewsP w same ch) := by
  have HF := Lib.hid h
  have HW := Lib.hid hw
  have HS := Lib.hid hS
  have HCH := Lib.hid hch
  have HND := Lib.hid hnd
  have hmm := @run_makeMap Tryz.prog
  have hcl' : (ch.length : Int) ≤ 100 := by omega
  obtain ⟨w1, hw1⟩ : ∃ w1, w1 = w.alloc (.map #[] 0) := ⟨_, rfl⟩
  have hb1 : Below w.heap.size w w1 := by rw [hw1]; exact (Below.refl _ _).alloc (Nat.le_refl _) _
  obtain ⟨vb, hvb⟩ : ∃ vb, vb = w.heap.size := ⟨_, rfl⟩
  have HV1 : Hid (VW w1 same vb 0 (fun _ => none) (ch.take 0)) := ⟨by rw [hw1, hvb]; exact MapV.made w, fun x => by simp, fun x v hx => by cases hx⟩
  have HB1 := Lib.hid hb1
  have hvb1 : w.heap.size ≤ vb := by omega
  obtain ⟨cl, hcq⟩ : ∃ cl, cl = ch.length := ⟨_, rfl⟩
  rw [← hcq] at hcl hcl' ⊢
  have HCQ := Lib.hid hcq
  clear h hw hS hch hnd hb1 hcq
  have hwv : (∃ q, wv = .map q) := by rcases HW.out with ⟨_, e⟩ | ⟨_, e⟩ <;> exact ⟨_, e⟩
  obtain ⟨wq, hwq⟩ := hwv
  subst hwq
  go_enter Tryz.func16, Tryz.ntmps16
  go_upto_region 2 with fail
  rw [← hw1, ← hvb]
  clear hw1 hvb hmm
  go_wp2_with fail
  go_loopg [15] cl (fun k vi wr => ∃ (i c : Nat) (fv : Bs → Option Value), i ≤ cl ∧ k = cl - i ∧ vi = .int .i64 (i : Int) ∧ c ≤ i ∧ Hid (VW wr same vb c fv (ch.take i)) ∧ Hid (Below w.heap.size w wr))
  case atStart => exact ⟨0, 0, _, by omega, by omega, rfl, by omega, HV1, HB1⟩
  case round =>
    obtain ⟨i, c, fv, hid, hk, rfl, hci, HVr, HBr⟩ := hrel
    clear HV1 HB1
    by_cases hlt : i < cl
    · have hlt' : (i : Int) < (cl : Int) := by omega
      have hi0 : ¬ (i : Int) < 0 := by omega
      have hic : i < ch.length := by have := HCQ.out; omega
      obtain ⟨g, o, hga, hgl, hcell⟩ := (HS.out.on HBr.out).c i hic
      subst hga
      obtain ⟨m, hm⟩ := HCH.out _ (List.getElem_mem hic)
      have hFr := HF.out.on HBr.out
      obtain ⟨v0, ia, ga, pa, ba, ic, gc, pc, bc, e1, e2⟩ := hFr.is _ m hm
      have hxl : ch[i].length ≤ 1000000 := by rw [← e2.k]; have := Tp.okn_len e2.wm.n; omega
      obtain ⟨A, N, hlk, hof⟩ := was_look hFr HW.out hm hxl
      have HSM := Lib.hid (And.intro (ofS_small e2.wm) (ofS_len e2.wm.gc e2.wm.pc))
      have hnv : fv ch[i] = none := by
        cases hq : fv ch[i] with
        | none => rfl
        | some u =>
          exfalso
          have := (HVr.out.key ch[i]).1 (by rw [hq]; rfl)
          obtain ⟨j, hj, e⟩ := List.getElem_of_mem this
          rw [List.length_take] at hj
          rw [List.getElem_take] at e
          have := (List.getElem_inj (h₀ := by omega) (h₁ := hic) HND.out).1 e
          omega
      have hlv := HVr.out.m.look (t := 47) Tryz.underlying47 (zeroView wr) ch[i] hxl true
      simp only [if_true] at hlv
      rw [hnv] at hlv
      simp only [Option.getD_none, Option.isSome_none] at hlv
      have HTK : Hid (ch.take (i + 1) = ch.take i ++ [ch[i]]) := List.take_succ_eq_append_getElem hic
      generalize ch[i] = x at *
      obtain ⟨w2, hw2⟩ : ∃ w2, w2 = wr.alloc (.cells #[.slice none 0 0, .slice none 0 0] 55) := ⟨_, rfl⟩
      have hb2 : Below wr.heap.size wr w2 := by rw [hw2]; exact (Below.refl _ _).alloc (Nat.le_refl _) _
      have HV2 := Lib.hid (HVr.out.on hb2)
      have HB2 := Lib.hid hb2
      have HDR : Hid (Below wr.heap.size wr w2.drew) := hb2.trans ((Below.refl _ _).drew)
      have HSx : Hid (∀ V, V.heap[mb]? = wr.heap[mb]? → (Instr.lookup 25 (.map wq) (.string (bs x)) false).run Tryz.prog V = .ok A V ∧ (Instr.lookup 25 (.map (some mb)) (.string (bs x)) false).run Tryz.prog V = .ok N V) := hlk
      have HOF := Lib.hid hof
      have hmlr := hFr.m.lt
      have HS0 := Lib.hid (HSx.out _ (HDR.out.block mb hmlr))
      have hmv : mb ≠ vb := by have := HF.out.m.lt; omega
      have HXL := Lib.hid hxl
      clear hFr e1 e2 hlk hof hnv hb2
      go_upto_region 6 with fail
      rw [← hw2]
      clear hw2 hlv
      go_upto_region 7 with fail
      have HST : Hid (∀ W a1 k1 d1 a2 k2 d2, Below wr.heap.size wr W → (same → SL W 0 (.slice a1 k1 d1) (ofS m)) → (same → SL W 0 (.slice a2 k2 d2) (ofS m)) → ∃ w', (Instr.mapUpdate 47 (.map (some vb)) (.string (bs x)) (.agg #[.slice a1 k1 d1, .slice a2 k2 d2])).run Tryz.prog W = .ok () w' ∧ (VW w' same vb (c + 1) (updV fv x (.agg #[.slice a1 k1 d1, .slice a2 k2 d2])) (ch.take (i + 1)) ∧ Below w.heap.size w w') ∧ w'.heap[mb]? = wr.heap[mb]?) := fun W a1 k1 d1 a2 k2 d2 hW s1 s2 => by
        have hVW := (HVr.out.on hW)
        obtain ⟨w', u1, q1, q2, _⟩ := hVW.m.store (t := 47) Tryz.underlying47 (by omega) x HXL.out (.agg #[.slice a1 k1 d1, .slice a2 k2 d2])
        refine ⟨w', u1, ⟨?_, (HBr.out.trans (hW.mono HBr.out.size)).trans (ext_below q2 hvb1 (by have := HBr.out.size; have := hW.size; omega))⟩, (q2.block mb (by have := hW.size; omega) hmv).trans (hW.block mb hmlr)⟩
        rw [HTK.out]
        exact hVW.put (fun s => ⟨ofS m, s1 s, s2 s, HSM.out.1, HSM.out.2⟩) q1 q2
      go_region_held3 (fun V => (Instr.lookup 25 (.map wq) (.string (bs x)) false).run Tryz.prog V = .ok A V ∧ (Instr.lookup 25 (.map (some mb)) (.string (bs x)) false).run Tryz.prog V = .ok N V) (with_reducible (first | exact HS6.out | exact HS5.out | exact HS4.out | exact HS3.out | exact HS0.out)) (first | (have _g := HB3; go_at_call 34; refine (HOF.out _ _ HB3.out (by first | exact Or.inl rfl | exact Or.inr rfl)).mono ?_; rintro e w4 ⟨a4, k4, d4, rfl, hb34, hs4⟩; have hb4 : Below wr.heap.size wr w4 := HB3.out.trans (hb34.mono HB3.out.size); have HB4 := Lib.hid hb4; have HS4 := Lib.hid (HSx.out w4 (hb4.block mb hmlr)); obtain ⟨w5, u5, r5, m5⟩ := HST.out w4 a3 k3 d3 a4 k4 d4 hb4 (fun s => (HT3.out s).on hb34) hs4; obtain ⟨w6, u6, r6, m6⟩ := HST.out w4 a4 k4 d4 a3 k3 d3 hb4 hs4 (fun s => (HT3.out s).on hb34); have HR5 := Lib.hid r5; have HR6 := Lib.hid r6; have HS5 := Lib.hid (HSx.out w5 m5); have HS6 := Lib.hid (HSx.out w6 m6); clear hb34 hb4 hs4 r5 r6 m5 m6) | (go_at_call 34; refine (HOF.out _ _ HDR.out (by first | exact Or.inl rfl | exact Or.inr rfl)).mono ?_; rintro e w3 ⟨a3, k3, d3, rfl, hb23, hs3⟩; have hb3 : Below wr.heap.size wr w3 := HDR.out.trans (hb23.mono HDR.out.size); have HB3 := Lib.hid hb3; have HS3 := Lib.hid (HSx.out w3 (hb3.block mb hmlr)); have HT3 := Lib.hid hs3; clear hb23 hb3 hs3))
      all_goals
        clear u5 u6
        go_wp2_with fail
        go_roundg (cl - (i + 1))
        case measure => omega
        case rel => first | exact ⟨i + 1, c + 1, _, by omega, rfl, by go_num, by omega, HR5.out.1, HR5.out.2⟩ | exact ⟨i + 1, c + 1, _, by omega, rfl, by go_num, by omega, HR6.out.1, HR6.out.2⟩
    · have hlt' : ¬ (i : Int) < (cl : Int) := by omega
      have HVe : Hid (VW wr same vb c fv ch) := by
        have := HVr.out
        rw [List.take_of_length_le (by have := HCQ.out; omega)] at this
        exact this
      go_wp2_with fail
      go_ret
      exact ⟨vb, c, fv, rfl, hvb1, by have := HCQ.out; omega, HVe.out, HBr.out⟩
end Go.Proofs.YtadgeapgoggljaaGreatDoor
/- Chapter 9: who uses what is otherwise: nobody, where was and now are the same. -/
namespace Go.Proofs.YtadgeapgoggljaaGreatDoor
open Go.RowKit Go.Maps
open Tp (Bs Sy)

theorem other_cf (args : Array Value) (w : World) : (callFunc 19 args).run Tryz.prog w = .ok (.enter 19 args) w := by kernel_rfl
theorem MBk.mb {w : World} {b : Nat} {m : Tp.M} {ia ga pa ba : Option Addr} {ic gc pc bc : Nat} (h : MBk w b m ia ga pa ba ic gc pc bc) : MB w w.heap.size m ia ga pa ba ic gc pc bc := h.d.mb (fun _ hb _ => hb)
set_option maxRecDepth 100000 in
set_option maxHeartbeats 4000000 in
theorem other_post {w : World} {same : Prop} (hsame : same) {pv pm vb n : Nat} {fv : Bs → Option Value} {ch : List Bs} {m : Tp.M} {ia ga pa ba : Option Addr} {ic gc pc bc : Nat} (hV : VW w same vb n fv ch) (h1 : w.cell? ⟨pv, 0, none⟩ = some (.map (some vb))) (hm : MBk w pm m ia ga pa ba ic gc pc bc) (hwm : Tp.WM m) (hnm : Tp.nM m ≤ 1000) (y : Bs) (hy : y.length ≤ 1000000) :
    Calls Tryz.prog 19 #[.string (bs y), .pointer (some ⟨pv, 0, none⟩), .pointer (some ⟨pm, 0, none⟩)] w fun e w' => e = .returned (.bool false) ∧ Below w.heap.size w w' := by
  have hlv := hV.m.look (t := 47) Tryz.underlying47 (zeroView w) y hy true
  simp only [if_true] at hlv
  have hl1 := lt_of_cell h1
  cases hq : fv y with
  | none =>
    rw [hq] at hlv
    simp only [Option.getD_none, Option.isSome_none] at hlv
    obtain ⟨w1, hw1⟩ : ∃ w1, w1 = w.alloc (.cells #[.slice none 0 0, .slice none 0 0] 55) := ⟨_, rfl⟩
    have hb1 : Below w.heap.size w w1 := by rw [hw1]; exact (Below.refl _ _).alloc (Nat.le_refl _) _
    have HB1 := Lib.hid hb1
    clear hV hm hq hb1
    go_enter Tryz.func19, Tryz.ntmps19
    go_upto_region 2 with fail
    rw [← hw1]
    clear hw1 hlv h1
    go_quiet (fail)
    have HBq : Hid (Below w.heap.size w (w1.drewN nq)) := below_drewN HB1.out _
    go_wp2_with fail
    go_ret
    exact ⟨rfl, HBq.out⟩
  | some v =>
    obtain ⟨a1, n1, c1, a2, n2, c2, rfl, hsl⟩ := hV.val y v hq
    obtain ⟨l, s1, s2, s3, s4⟩ := hsl hsame
    rw [hq] at hlv
    simp only [Option.getD_some, Option.isSome_some] at hlv
    obtain ⟨w1, hw1⟩ : ∃ w1, w1 = w.alloc (.cells #[.slice a1 n1 c1, .slice a2 n2 c2] 55) := ⟨_, rfl⟩
    have hb1 : Below w.heap.size w w1 := by rw [hw1]; exact (Below.refl _ _).alloc (Nat.le_refl _) _
    have hk1 : w1.heap[w.heap.size]? = some (.cells #[.slice a1 n1 c1, .slice a2 n2 c2] 55 (0, 0)) := by rw [hw1]; exact new_blk _ _
    have hl2 := lt_blk hk1
    have HM1 := Lib.hid (hm.on hb1)
    have HB1 := Lib.hid hb1
    have hct : (Tp.allR m).length ≤ 1000 := by have := Tp.allR_count hwm; omega
    have HUS : Hid (Calls Tryz.prog 21 #[.agg #[.string (bs m.name), .slice ia m.imports.length ic, .slice ga m.vars.length gc, .slice pa m.procs.length pc, .slice ba m.body.length bc], .string (bs y)] w1.drew fun e w' => ∃ (a : Option Addr) (c : Nat) (ul : List Bs), e = .returned (.slice a ul.length c) ∧ Below w1.heap.size w1 w' ∧ ∀ W, Below w'.heap.size w' W → Calls Tryz.prog 20 #[.agg #[.slice a1 n1 c1, .slice a2 n2 c2], .slice a ul.length c] W fun e w'' => e = .returned (.bool false) ∧ Below W.heap.size W w'') := by
      have hdr : Below w1.heap.size w1 w1.drew := (Below.refl _ _).drew
      refine (used_postS (by have := hwm.pc; omega) (by omega) (HM1.out.on hdr).mb y).mono ?_
      rintro e w' ⟨a, c, ul, rfl, hul, hmem, hst, hb⟩
      have hbw : Below w1.heap.size w1 w' := hdr.trans hb
      refine ⟨a, c, ul, rfl, hbw, fun W hW => ?_⟩
      have hbW : Below w.heap.size w W := (hb1.trans (hbw.mono hb1.size)).trans (hW.mono (by have := hb1.size; have := hbw.size; omega))
      exact differs_same (s1.on hbW) (s2.on hbW) s3 s4 (hst.on hW) (fun z hz => by have := Tp.okn_len (Tp.used_okn hwm ((hmem z).1 hz)); omega) (by omega)
    have HSx : Hid (∀ V, Below w1.heap.size w1 V → V.cell? ⟨w.heap.size, 0, none⟩ = some (.slice a1 n1 c1) ∧ V.cell? ⟨w.heap.size, 1, none⟩ = some (.slice a2 n2 c2) ∧ V.cell? ⟨pm, 0, none⟩ = some (.string (bs m.name)) ∧ V.cell? ⟨pm, 1, none⟩ = some (.slice ia m.imports.length ic) ∧ V.cell? ⟨pm, 2, none⟩ = some (.slice ga m.vars.length gc) ∧ V.cell? ⟨pm, 3, none⟩ = some (.slice pa m.procs.length pc) ∧ V.cell? ⟨pm, 4, none⟩ = some (.slice ba m.body.length bc)) := fun V hV => by
      have q1 := (hV.block _ hl2).trans hk1
      obtain ⟨d0, d1, d2, d3, d4, _⟩ := (HM1.out.on hV).cells
      exact ⟨(cell_blk q1).trans rfl, (cell_blk q1).trans rfl, d0, d1, d2, d3, d4⟩
    have HS0 := Lib.hid (HSx.out _ ((Below.refl _ _).drew))
    obtain ⟨bv, hbv⟩ : ∃ bv, bv = w.heap.size := ⟨_, rfl⟩
    rw [← hbv] at HSx HS0
    generalize bs m.name = mn at *
    generalize m.imports.length = il at *
    generalize m.vars.length = gl at *
    generalize m.procs.length = pl at *
    generalize m.body.length = bl at *
    clear hV hm hq hb1 hk1 s1 s2 s3 s4 hsl hl2 hct
    go_enter Tryz.func19, Tryz.ntmps19
    go_upto_region 2 with fail
    rw [← hw1, ← hbv]
    clear hw1 hlv h1 hbv
    go_region_held3 (fun V => V.cell? ⟨bv, 0, none⟩ = some (.slice a1 n1 c1) ∧ V.cell? ⟨bv, 1, none⟩ = some (.slice a2 n2 c2) ∧ V.cell? ⟨pm, 0, none⟩ = some (.string mn) ∧ V.cell? ⟨pm, 1, none⟩ = some (.slice ia il ic) ∧ V.cell? ⟨pm, 2, none⟩ = some (.slice ga gl gc) ∧ V.cell? ⟨pm, 3, none⟩ = some (.slice pa pl pc) ∧ V.cell? ⟨pm, 4, none⟩ = some (.slice ba bl bc)) (with_reducible (first | exact HS4.out | exact HS3.out | exact HS0.out)) (first | (go_at_call 20; refine (HDI.out _ (Below.refl _ _)).mono ?_; rintro e w4 ⟨rfl, hb4⟩; have HB4 : Hid (Below w1.heap.size w1 w4) := HB3.out.trans (hb4.mono HB3.out.size); have HS4 := Lib.hid (HSx.out w4 HB4.out); clear hb4) | (go_at_call 21; refine HUS.out.mono ?_; rintro e w3 ⟨ua, uc, ul, rfl, hb3, hdi⟩; have HB3 := Lib.hid hb3; have HDI := Lib.hid hdi; have HS3 := Lib.hid (HSx.out w3 hb3); clear hb3 hdi))
    all_goals
      go_wp2_with fail
      go_ret
      exact ⟨by first | rfl | simp, HB1.out.trans (HB4.out.mono HB1.out.size)⟩
end Go.Proofs.YtadgeapgoggljaaGreatDoor
/- slices.ContainsFunc of texts, by a function that takes two variables besides. -/
namespace Go.Proofs.YtadgeapgoggljaaGreatDoor
open Go.RowKit
open Tp (Bs)

set_option maxRecDepth 100000 in
set_option maxHeartbeats 1000000 in
theorem indexF2 {w : World} {a : Option Addr} {cap : Nat} {l : List Bs} {p : Bs → Bool} {fn : FuncId} {c1 c2 : Value} (hS : StrsAt w l a) (hn : l.length ≤ 1000000) (hcf : ∀ (args : Array Value) (w : World), (callFunc fn args).run Tryz.prog w = .ok (.enter fn args) w)
    (hd : ∀ W (x : Bs), x ∈ l → Below w.heap.size w W → Calls Tryz.prog fn #[.string (bs x), c1, c2] W fun e w' => e = .returned (.bool (p x)) ∧ Below W.heap.size W w') :
    Calls Tryz.prog 24 #[.slice a l.length cap, .func (.func fn) #[] #[c1, c2]] w fun e w' => (∃ k : Int, e = .returned (.int .i64 k) ∧ (decide (0 ≤ k) = l.any p)) ∧ Below w.heap.size w w' := by
  have hn' : (l.length : Int) ≤ 1000000 := by omega
  have HSL := Lib.hid hS
  have HD := Lib.hid hd
  clear hS hd
  go_enter Tryz.func24, Tryz.ntmps24
  go_wp2_with fail
  go_loopg [8] l.length (fun k vi wr => ∃ i : Nat, i ≤ l.length ∧ k = l.length - i ∧ vi = .int .i64 (i : Int) ∧ Hid ((l.take i).any p = false) ∧ Hid (Below w.heap.size w wr))
  case atStart => exact ⟨0, by omega, by omega, rfl, rfl, Below.refl _ _⟩
  case round =>
    obtain ⟨i, hid, hk, rfl, HI, HW⟩ := hrel
    by_cases hlt : i < l.length
    · have hlt' : (i : Int) < (l.length : Int) := by omega
      obtain ⟨g, o, rfl, hbl', e0⟩ := (HSL.out.on HW.out).c i hlt
      have HF := Lib.hid (HD.out wr l[i] (List.getElem_mem hlt) HW.out)
      have HNX : Hid ((l.take (i + 1)).any p = p l[i]) := by
        show _ = _
        rw [List.take_succ_eq_append_getElem hlt, List.any_append, HI.out]; simp
      have HAN : Hid (p l[i] = true → l.any p = true) := fun e => List.any_eq_true.2 ⟨_, List.getElem_mem hlt, e⟩
      generalize p l[i] = d at *
      generalize bs l[i] = x1 at *
      clear HI
      go_wp2_with fail
      refine HF.out.mono ?_
      rintro e w3 ⟨rfl, h3⟩
      have HW3 := Lib.hid (HW.out.trans (h3.mono HW.out.size))
      clear h3
      cases d with
      | true =>
        have HE := Lib.hid (HAN.out rfl)
        go_wp2_with fail
        go_ret
        refine ⟨⟨_, rfl, ?_⟩, HW3.out⟩
        rw [HE.out]
        exact decide_eq_true (by omega)
      | false =>
        go_wp2_with fail
        go_roundg (l.length - (i + 1))
        case measure => omega
        case rel => exact ⟨i + 1, by omega, rfl, by go_num, HNX, HW3⟩
    · have hlt' : ¬ (i : Int) < (l.length : Int) := by omega
      have HE : Hid (l.any p = false) := by
        have := HI.out
        rw [List.take_of_length_le (by omega)] at this
        exact this
      go_wp2_with fail
      go_ret
      refine ⟨⟨_, rfl, ?_⟩, HW.out⟩
      rw [HE.out]
      rfl
set_option maxRecDepth 100000 in
set_option maxHeartbeats 1000000 in
theorem containsF2 {w : World} {a : Option Addr} {cap : Nat} {l : List Bs} {p : Bs → Bool} {fn : FuncId} {c1 c2 : Value} (hS : StrsAt w l a) (hn : l.length ≤ 1000000) (hcf : ∀ (args : Array Value) (w : World), (callFunc fn args).run Tryz.prog w = .ok (.enter fn args) w)
    (hd : ∀ W (x : Bs), x ∈ l → Below w.heap.size w W → Calls Tryz.prog fn #[.string (bs x), c1, c2] W fun e w' => e = .returned (.bool (p x)) ∧ Below W.heap.size W w') :
    Calls Tryz.prog 11 #[.slice a l.length cap, .func (.func fn) #[] #[c1, c2]] w fun e w' => e = .returned (.bool (l.any p)) ∧ Below w.heap.size w w' := by
  have HC := Lib.hid (indexF2 (cap := cap) hS hn hcf hd)
  clear hS hd hcf
  go_enter Tryz.func11, Tryz.ntmps11
  go_wp2_with fail
  refine HC.out.mono ?_
  rintro e w1 ⟨⟨k, rfl, hk⟩, hb⟩
  have HK := Lib.hid hk
  clear hk
  go_wp2_with fail
  go_ret
  exact ⟨by rw [← HK.out]; rfl, hb⟩
end Go.Proofs.YtadgeapgoggljaaGreatDoor
/- Chapter 9: Stale, walked. -/
namespace Go.Proofs.YtadgeapgoggljaaGreatDoor
open Go.RowKit Go.Maps
open Tp (Bs Sy)

def stL (K ch : List Bs) (i : Nat) : List Bs := ((sK K).take i).filter fun x => decide (x ∈ ch)
theorem stL_in {K ch : List Bs} {i : Nat} (h : i < (sK K).length) (hx : (sK K)[i] ∈ ch) : stL K ch (i + 1) = stL K ch i ++ [(sK K)[i]] := by
  unfold stL
  rw [List.take_succ_eq_append_getElem h, List.filter_append]
  simp [hx]
theorem stL_out {K ch : List Bs} {i : Nat} (h : i < (sK K).length) (hx : (sK K)[i] ∉ ch) : stL K ch (i + 1) = stL K ch i := by
  unfold stL
  rw [List.take_succ_eq_append_getElem h, List.filter_append]
  simp [hx]
theorem stL_len (K ch : List Bs) (i : Nat) : (stL K ch i).length ≤ K.length := by
  unfold stL
  have h1 := List.length_filter_le (fun x => decide (x ∈ ch)) ((sK K).take i)
  rw [List.length_take, sK_len] at h1
  omega
def StaleP (w : World) (L : List Bs) (e : Ending) (w' : World) : Prop := ∃ a c, e = .returned (.slice a L.length c) ∧ StrsAt w' L a ∧ Below w.heap.size w w'
set_option maxRecDepth 100000 in
set_option maxHeartbeats 4000000 in
theorem stale_post {w : World} {same : Prop} {mb n : Nat} {f : Bs → Option Value} {F : Bs → Option Tp.M} {K : List Bs} {wv : Value} (hF : ModF w mb n f F) (hM : Mods w mb n f K (imF F)) (hKF : ∀ x, x ∈ K ↔ (F x).isSome = true) (hw : WasV same mb wv) {ch : List Bs} {ca : Option Addr} {cc : Nat} (hS : StrsAt w ch ca) (hchK : ∀ x ∈ ch, x ∈ K) (hnd : ch.Nodup) (hall : ¬ same → ∀ x ∈ K, x ∈ ch) :
    Calls Tryz.prog 7 #[wv, .map (some mb), .slice ca ch.length cc] w (StaleP w (stL K ch K.length)) := by
  have hn100 := hM.n
  have hcl : ch.length ≤ 100 := by have := Tp.nodup_le hnd hchK; omega
  have HVP := Lib.hid (views_post (cc := cc) hF hw hS (fun x hx => Option.isSome_iff_exists.1 ((hKF x).1 (hchK x hx))) hnd hcl)
  have HF := Lib.hid hF
  have HM := Lib.hid hM
  have HKF := Lib.hid hKF
  have HALL := Lib.hid hall
  obtain ⟨cl, hcq⟩ : ∃ cl, cl = ch.length := ⟨_, rfl⟩
  rw [← hcq] at HVP ⊢
  obtain ⟨wq, hwq⟩ : ∃ q, wv = .map q := by rcases hw with ⟨_, e⟩ | ⟨_, e⟩ <;> exact ⟨_, e⟩
  subst hwq
  obtain ⟨i1, hi, hz0, hz1, hz2⟩ := info_parts Tryz.infoString'
  clear hF hM hKF hw hS hall hcq
  go_enter Tryz.func7, Tryz.ntmps7
  go_wp2_with fail
  refine HVP.out.mono ?_
  rintro e w1 ⟨vb, vn, fv, rfl, hvb, hvn, hVW, hb1⟩
  obtain ⟨w2, hw2⟩ : ∃ w2, w2 = w1.alloc (.cells #[.map (some vb)] 47) := ⟨_, rfl⟩
  have hb12 : Below w1.heap.size w1 w2 := by rw [hw2]; exact (Below.refl _ _).alloc (Nat.le_refl _) _
  have hk2 : w2.heap[w1.heap.size]? = some (.cells #[.map (some vb)] 47 (0, 0)) := by rw [hw2]; exact new_blk _ _
  have hb2 : Below w.heap.size w w2 := hb1.trans (hb12.mono hb1.size)
  have HV2 := Lib.hid (hVW.on hb12)
  have HF2 := Lib.hid (HF.out.on hb2)
  have HM2 := Lib.hid (HM.out.on hb2)
  have HB2 := Lib.hid hb2
  obtain ⟨pv, hpv⟩ : ∃ pv, pv = w1.heap.size := ⟨_, rfl⟩
  rw [← hpv] at hk2
  have HK2 := Lib.hid hk2
  have HSO := Lib.hid (sortedC HM2.out)
  clear hVW hb1 hb12 hk2 hb2 HVP
  go_upto_region 2 with fail
  rw [← hw2, ← hpv]
  clear hw2 hpv
  go_wp2_with fail
  refine (keysC _ _).mono ?_
  rintro e w3 ⟨rfl, rfl⟩
  go_wp2_with fail
  refine HSO.out.mono ?_
  rintro e w4 ⟨sa, sc, rfl, how, hb4⟩
  have HV4 := Lib.hid (HV2.out.on hb4)
  have HF4 := Lib.hid (HF2.out.on hb4)
  have HM4 := Lib.hid (HM2.out.on hb4)
  have HK4 : Hid (w4.heap[pv]? = some (.cells #[.map (some vb)] 47 (0, 0))) := (hb4.block pv (lt_blk HK2.out)).trans HK2.out
  have HB4 : Hid (Below w.heap.size w w4) := HB2.out.trans (hb4.mono HB2.out.size)
  have HST : Hid (StrsAt w4 (sK K) sa) := by
    have := own_strsAt (l := sK K) (by rw [sK_len]; exact how)
    exact this
  obtain ⟨kl, hkl⟩ : ∃ kl, kl = K.length := ⟨_, rfl⟩
  rw [← hkl] at hn100 ⊢
  have HKL := Lib.hid hkl
  have hkl' : (kl : Int) ≤ 100 := by omega
  clear how hb4 HV2 HF2 HM2 HK2 HSO hkl
  go_wp2_with fail
  go_loopg [8, 23] kl (fun k v8 v23 wr => ∃ (i : Nat) (ta : Option Addr) (tc : Nat), i ≤ kl ∧ k = kl - i ∧ v23 = .int .i64 (i : Int) ∧ v8 = .slice ta (stL K ch i).length tc ∧ Hid (wr.ownsRow w4.heap.size 9 1 (.slice ta (stL K ch i).length tc) (stL K ch i).length (strs (stL K ch i))) ∧ Hid (Below w4.heap.size w4 wr))
  case atStart => exact ⟨0, none, 0, by omega, by omega, rfl, by simp [stL], by show World.ownsRow _ _ _ _ _ _ _; simp only [stL, List.take_zero, List.filter_nil, List.length_nil]; exact World.ownsRow_nil _ _ _ _, Below.refl _ _⟩
  case round =>
    obtain ⟨i, ta, tc, hid, hk, rfl, rfl, HRw, HBr⟩ := hrel
    have hsr := HBr.out.size
    by_cases hlt : i < kl
    · have hlt' : (i : Int) < (kl : Int) := by omega
      have hi0 : ¬ (i : Int) < 0 := by omega
      have hik : i < (sK K).length := by rw [sK_len]; have := HKL.out; omega
      obtain ⟨g, o, hga, hgl, hcell⟩ := (HST.out.on HBr.out).c i hik
      subst hga
      have hxK : (sK K)[i] ∈ K := sK_mem.1 (List.getElem_mem hik)
      obtain ⟨m, hm⟩ := Option.isSome_iff_exists.1 ((HKF.out _).1 hxK)
      have hFr := HF4.out.on HBr.out
      obtain ⟨v, ia, ga, pa, ba, ic, gc, pc, bc, e1, e2⟩ := hFr.is _ m hm
      have hxl : (sK K)[i].length ≤ 1000000 := by rw [← e2.k]; have := Tp.okn_len e2.wm.n; omega
      have hlk := hFr.m.look (t := 25) Tryz.underlying25 (zeroMod' wr) (sK K)[i] hxl false
      simp only [Bool.false_eq_true, if_false] at hlk
      rw [e1, Option.getD_some, e2.v] at hlk
      have HIN : Hid ((sK K)[i] ∈ ch → stL K ch (i + 1) = stL K ch i ++ [(sK K)[i]]) := fun q => stL_in hik q
      have HOUT : Hid ((sK K)[i] ∉ ch → stL K ch (i + 1) = stL K ch i) := fun q => stL_out hik q
      have hsl := stL_len K ch i
      generalize (sK K)[i] = x at *
      obtain ⟨w5, hw5⟩ : ∃ w5, w5 = wr.alloc (.cells (mcells (bs m.name) (.slice ia m.imports.length ic) (.slice ga m.vars.length gc) (.slice pa m.procs.length pc) (.slice ba m.body.length bc)) 38) := ⟨_, rfl⟩
      have hb5 : Below wr.heap.size wr w5 := by rw [hw5]; exact (Below.refl _ _).alloc (Nat.le_refl _) _
      have hMB5 : MBk w5 wr.heap.size m ia ga pa ba ic gc pc bc := ⟨by rw [hw5]; exact new_blk _ _, e2.md.mono (fun b _ hl => ⟨hb5.block b hl, by have := hb5.size; omega⟩)⟩
      have hb45 : Below w4.heap.size w4 w5 := HBr.out.trans (hb5.mono hsr)
      have hV5 := HV4.out.on hb45
      have c5 : w5.cell? ⟨pv, 0, none⟩ = some (.map (some vb)) := (cell_blk ((hb45.block pv (lt_blk HK4.out)).trans HK4.out)).trans rfl
      have l5 := lt_of_cell c5
      have hlv := hV5.m.look (t := 47) Tryz.underlying47 (zeroView w5) x hxl true
      simp only [if_true] at hlv
      have HWM := Lib.hid e2.wm
      have HNM := Lib.hid e2.nm
      obtain ⟨pm, hpm⟩ : ∃ pm, pm = wr.heap.size := ⟨_, rfl⟩
      rw [← hpm] at hMB5
      have HIML : Hid (∀ y ∈ m.imports, y.length ≤ 1000000) := fun y hy => by have := Tp.okn_len (e2.wm.i y hy); omega
      obtain ⟨sn, hsn⟩ : ∃ sn, sn = (stL K ch i).length := ⟨_, rfl⟩
      have HSN := Lib.hid hsn
      rw [← hsn] at hsl HRw ⊢
      have hmf : ∀ (fn : Fn) (first cap : Array Value) (w : World), (Instr.makeFunc fn first cap).run Tryz.prog w = .ok (.func fn first cap) w := fun _ _ _ _ => rfl
      by_cases hxc : x ∈ ch
      · obtain ⟨vv, hvv⟩ := Option.isSome_iff_exists.1 ((hV5.key x).2 hxc)
        obtain ⟨a1, n1, c1, a2, n2, c2, rfl, _⟩ := hV5.val x vv hvv
        rw [hvv] at hlv
        simp only [Option.getD_some, Option.isSome_some] at hlv
        obtain ⟨w6, hw6⟩ : ∃ w6, w6 = w5.alloc (.cells #[.slice a1 n1 c1, .slice a2 n2 c2] 55) := ⟨_, rfl⟩
        have hb6 : Below w5.heap.size w5 w6 := by rw [hw6]; exact (Below.refl _ _).alloc (Nat.le_refl _) _
        have hb46 : Below w4.heap.size w4 w6 := hb45.trans (hb6.mono (by have := hb45.size; omega))
        have hbr6 : Below wr.heap.size wr w6 := hb5.trans (hb6.mono hb5.size)
        obtain ⟨w7, hw7⟩ : ∃ w7, w7 = w6.alloc (.cells #[.string (bs x)] 9) := ⟨_, rfl⟩
        have hb7 : Below w6.heap.size w6 w7 := by rw [hw7]; exact (Below.refl _ _).alloc (Nat.le_refl _) _
        have hk7 : w7.heap[w6.heap.size]? = some (.cells #[.string (bs x)] 9 (0, 0)) := by rw [hw7]; exact new_blk _ _
        have hbr7 : Below wr.heap.size wr w7 := hbr6.trans (hb7.mono hbr6.size)
        have HROW : Hid (w7.ownsRow w4.heap.size 9 1 (.slice ta sn tc) sn (strs (stL K ch i))) := owns_keep HRw.out (fun b _ hl _ => hbr7.block b hl)
        have HNEWS : Hid (∀ j u, [Value.string (bs x)][j]? = some u → w7.cell? ((⟨w6.heap.size, 0, none⟩ : Addr).add j) = some u) := fun j u hj => by
          rw [Addr.add_lit]
          cases j with
          | zero => simp at hj; subst hj; exact (cell_blk hk7).trans rfl
          | succ j => simp at hj
        have HB47 : Hid (Below w4.heap.size w4 w7) := HBr.out.trans (hbr7.mono hsr)
        have hs7 := HB47.out.size
        have HE := Lib.hid (HIN.out hxc)
        have hsn9 : sn ≤ 100 := by have := HKL.out; omega
        unfold mcells at hw5 hlk
        clear hFr e1 e2 hb5 hMB5 hb45 hV5 hvv hb6 hb46 hbr6 hb7 hk7 hbr7 HIN HOUT HIML HWM HNM hsn
        go_upto_region 7 with fail
        rw [← hw5, ← hpm]
        clear hw5 hpm hlk
        go_upto_region 9 with fail
        rw [← hw6]
        clear hw6 hlv c5 l5
        rw [hw7] at HROW HNEWS
        go_wp2_with (at_builtin; refine wpList_append_where _ rfl _ _ 22 rfl w4.heap.size 9 i1 (.string ⟨#[]⟩) 1 16 Tryz.underlying22 hi hz0 hz1 hz2 rfl (by decide) _ sn _ rfl HROW.out ⟨w6.heap.size, 0, none⟩ 1 1 [.string (bs x)] rfl rfl HNEWS.out (by intro u hu; simp at hu; subst hu; rfl) (by unfold maxLen; omega) (by omega) (by rw [← hw7]; omega) ?_)
        rw [← hw7]
        intro v8 w8 h8 g8 _
        have HB8 : Hid (Below w4.heap.size w4 w8) := HB47.out.trans ((Below.refl _ _).grown g8 hs7 (fun k hk => by
          have := (HRw.out.lt k hk).1
          exact this))
        obtain ⟨ta', tc', hv8⟩ := owns_shape h8
        subst hv8
        have HR8 : Hid (w8.ownsRow w4.heap.size 9 1 (.slice ta' (stL K ch (i + 1)).length tc') (stL K ch (i + 1)).length (strs (stL K ch (i + 1)))) := by
          show World.ownsRow _ _ _ _ _ _ _
          rw [HE.out, List.length_append, List.length_singleton, ← strs_snoc', ← HSN.out]
          exact h8
        have HLn : Hid (sn + 1 = (stL K ch (i + 1)).length) := by show _ = _; rw [HE.out, List.length_append, List.length_singleton, ← HSN.out]
        clear h8 g8 HROW HNEWS hw7
        go_wp2_with fail
        go_roundg (kl - (i + 1))
        case measure => omega
        case rel => exact ⟨i + 1, ta', tc', by omega, rfl, by go_num, by rw [← HLn.out], HR8, HB8⟩
      · have hsame : same := Classical.byContradiction fun q => hxc (HALL.out q x hxK)
        have hnv : fv x = none := by
          cases hq : fv x with
          | none => rfl
          | some u => exact absurd ((hV5.key x).1 (by rw [hq]; rfl)) hxc
        rw [hnv] at hlv
        simp only [Option.getD_none, Option.isSome_none] at hlv
        obtain ⟨w6, hw6⟩ : ∃ w6, w6 = w5.alloc (.cells #[.slice none 0 0, .slice none 0 0] 55) := ⟨_, rfl⟩
        have hb6 : Below w5.heap.size w5 w6 := by rw [hw6]; exact (Below.refl _ _).alloc (Nat.le_refl _) _
        have hV6 := hV5.on hb6
        have hM6 := hMB5.on hb6
        have c6 : w6.cell? ⟨pv, 0, none⟩ = some (.map (some vb)) := (hb6.cell (p := ⟨pv, 0, none⟩) l5).trans c5
        have l6 := lt_of_cell c6
        obtain ⟨_, k1, _, _, _, k5⟩ := hM6.cells
        have hSI : StrsAt w6 m.imports ia := (hM6.d.im).strsAt
        have hil6 := HWM.out.ic
        have HCF : Hid (Calls Tryz.prog 11 #[.slice ia m.imports.length ic, .func (.func 19) #[] #[.pointer (some ⟨pv, 0, none⟩), .pointer (some ⟨pm, 0, none⟩)]] w6 fun e w' => e = .returned (.bool false) ∧ Below w6.heap.size w6 w') := by
          have := containsF2 (cap := ic) (p := fun _ => false) (c1 := .pointer (some ⟨pv, 0, none⟩)) (c2 := .pointer (some ⟨pm, 0, none⟩)) hSI (by omega) other_cf (fun W y hy hW => other_post hsame (hV6.on hW) ((hW.cell (p := ⟨pv, 0, none⟩) l6).trans c6) (hM6.on hW) HWM.out HNM.out y (HIML.out y hy))
          have e0 : m.imports.any (fun _ => false) = false := by simp
          rw [e0] at this
          exact this
        have HB46 : Hid (Below w4.heap.size w4 w6) := hb45.trans (hb6.mono (by have := hb45.size; omega))
        have hbr6 : Below wr.heap.size wr w6 := hb5.trans (hb6.mono hb5.size)
        have HR6 : Hid (w6.ownsRow w4.heap.size 9 1 (.slice ta sn tc) sn (strs (stL K ch i))) := owns_keep HRw.out (fun b _ hl _ => hbr6.block b hl)
        have HE := Lib.hid (HOUT.out hxc)
        unfold mcells at hw5 hlk
        clear hFr e1 e2 hb5 hMB5 hb45 hV5 hnv hb6 hbr6 HIN HOUT HIML HWM HNM hV6 hM6 hSI hsn c6 l6
        generalize m.imports.length = il at *
        go_upto_region 7 with fail
        rw [← hw5, ← hpm]
        clear hw5 hpm hlk
        go_upto_region 9 with fail
        rw [← hw6]
        clear hw6 hlv c5 l5
        go_wp2_with fail
        refine HCF.out.mono ?_
        rintro e w8 ⟨rfl, hb8⟩
        have HB8 : Hid (Below w4.heap.size w4 w8) := HB46.out.trans (hb8.mono HB46.out.size)
        have HR8 : Hid (w8.ownsRow w4.heap.size 9 1 (.slice ta (stL K ch (i + 1)).length tc) (stL K ch (i + 1)).length (strs (stL K ch (i + 1)))) := by
          show World.ownsRow _ _ _ _ _ _ _
          rw [HE.out, ← HSN.out]
          exact owns_keep HR6.out (fun b _ hl _ => hb8.block b hl)
        have HLn : Hid (sn = (stL K ch (i + 1)).length) := by show _ = _; rw [HE.out, ← HSN.out]
        clear hb8 HCF HR6 k1 k5
        go_wp2_with fail
        go_roundg (kl - (i + 1))
        case measure => omega
        case rel => exact ⟨i + 1, ta, tc, by omega, rfl, by go_num, by rw [← HLn.out], HR8, HB8⟩
    · have hlt' : ¬ (i : Int) < (kl : Int) := by omega
      have hie : i = K.length := by have := HKL.out; omega
      have HFI : Hid (StaleP w (stL K ch K.length) (.returned (.slice ta (stL K ch i).length tc)) wr) := by
        subst hie
        exact ⟨ta, tc, rfl, own_strsAt HRw.out, HB4.out.trans (HBr.out.mono HB4.out.size)⟩
      generalize (stL K ch i).length = sn at *
      clear hie
      go_wp2_with fail
      go_ret
      exact HFI.out
end Go.Proofs.YtadgeapgoggljaaGreatDoor
/- pick; slices of names: one name, all of them. -/
namespace Go.Proofs.YtadgeapgoggljaaGreatDoor
open Go.RowKit
open Tp (Bs)

theorem pick_rng (a : Int) (n : Nat) (hn : 0 < n) : 0 ≤ (IntKind.u64.wrap a).tmod n ∧ (IntKind.u64.wrap a).tmod n < (n : Int) := by
  have h0 : 0 ≤ IntKind.u64.wrap a := by rw [IntKind.wrap_u64]; omega
  rw [Int.tmod_eq_emod_of_nonneg h0]
  exact ⟨Int.emod_nonneg _ (by omega), Int.emod_lt_of_pos _ (by omega)⟩
set_option maxRecDepth 100000 in
set_option maxHeartbeats 400000 in
theorem pick_any (w : World) (a : Int) (n : Nat) (hn : 0 < n) (hn' : n ≤ 1000000000) : Calls Tryz.prog 9 #[.int .i64 a, .int .i64 (n : Int)] w fun e w' => (∃ k : Nat, k < n ∧ e = .returned (.int .i64 (k : Int))) ∧ w' = w := by
  have h0 : ((n : Int) == 0) = false := by simp; omega
  go_enter Tryz.func9, Tryz.ntmps9
  go_wp2_with fail
  go_ret
  refine ⟨⟨((IntKind.u64.wrap a).tmod n).toNat, ?_, ?_⟩, rfl⟩
  · have h1 := pick_rng a n hn
    omega
  · have h1 := pick_rng a n hn
    have e : wrap64 ((IntKind.u64.wrap a).tmod n) = (((IntKind.u64.wrap a).tmod n).toNat : Int) := by unfold wrap64; omega
    show Ending.returned (.int .i64 (wrap64 ((IntKind.u64.wrap a).tmod n))) = _
    rw [e]
theorem filter_one {l : List Bs} {x : Bs} (hn : l.Nodup) (hx : x ∈ l) : l.filter (fun y => decide (y ∈ [x])) = [x] := by
  induction l with
  | nil => cases hx
  | cons a t ih =>
    obtain ⟨h1, h2⟩ := List.nodup_cons.1 hn
    by_cases e : a = x
    · subst e
      have : t.filter (fun y => decide (y ∈ [a])) = [] := by
        rw [List.filter_eq_nil_iff]
        intro y hy q
        have : y = a := by simpa using q
        exact h1 (this ▸ hy)
      rw [List.filter_cons, this]
      simp
    · rw [List.filter_cons, ih h2 ((List.mem_cons.1 hx).resolve_left (fun q => e q.symm))]
      simp [e]
theorem stL_none (K : List Bs) (i : Nat) : stL K [] i = [] := by simp [stL]
theorem stL_one {K : List Bs} {x : Bs} (hn : K.Nodup) (hx : x ∈ K) : stL K [x] K.length = [x] := by
  unfold stL
  rw [List.take_of_length_le (by rw [sK_len]; exact Nat.le_refl _)]
  exact filter_one (sK_nodup hn) (sK_mem.2 hx)
theorem stL_all (K : List Bs) : stL K (sK K) K.length = sK K := by
  unfold stL
  rw [List.take_of_length_le (by rw [sK_len]; exact Nat.le_refl _), List.filter_eq_self]
  intro y hy
  simpa using hy
end Go.Proofs.YtadgeapgoggljaaGreatDoor
