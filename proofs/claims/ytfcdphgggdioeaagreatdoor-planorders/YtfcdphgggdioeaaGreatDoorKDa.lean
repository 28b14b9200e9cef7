import Derived.Test.YtfcdphgggdioeaaGreatDoorKEa
import Derived.Test.YtfcdphgggdioeaaGreatDoorKLb
import Derived.Test.YtfcdphgggdioeaaGreatDoorKUa
import Derived.Test.YtfcdphgggdioeaaGreatDoorKMb
import Derived.Test.YtfcdphgggdioeaaGreatDoorKPc
/- Chapter 9: the names of a map, sorted. -/
namespace Go.Proofs.YtfcdphgggdioeaaGreatDoor
open Go.RowKit Go.Maps Go.Sort Go.Shelf
open Tp (Bs)

def sK (K : List Bs) : List Bs := K.mergeSort (fun x y => decide (x ≤ y))
theorem sK_len (K : List Bs) : (sK K).length = K.length := by simp [sK]
theorem sK_mem {K : List Bs} {x : Bs} : x ∈ sK K ↔ x ∈ K := by simp [sK]
theorem sK_perm {K L : List Bs} (h : K.Perm L) : sK K = sK L := mergeSort_of_perm h
theorem perm_of {K L : List Bs} (hK : K.Nodup) (hL : L.Nodup) (h : ∀ x, x ∈ K ↔ x ∈ L) : K.Perm L := (List.perm_ext_iff_of_nodup hK hL).2 h
theorem sortsZ (m : Nat) : AnyZ.SortsIn Tryz.prog Tryz.sortedZ_ren Fence.wide m :=
  ⟨fun blk off cap ss W hH hblk hsz => callsIn_wide.2 (AnyM.slices_Sort_string Tryz.sortZ blk off cap ss W hH hblk hsz),
   fun p cap W => callsIn_wide.2 (AnyM.slices_Sort_string_none Tryz.sortZ p cap W)⟩
theorem keysC (mb : Option Nat) (W : World) : Calls Tryz.prog 30 #[.map mb] W fun e w' => e = .returned (.func (.func 49) #[] #[.pointer (some ⟨W.heap.size, 0, none⟩)]) ∧ w' = W.alloc (.cells #[.map mb] 23) :=
  (callsIn_wide (n := 5)).1 (AnyZ.keys_in Tryz.keysZ Fence.wide 5 trivial rfl mb W)
set_option maxHeartbeats 1000000 in
theorem sortedC {w : World} {mb n : Nat} {f : Bs → Option Value} {K : List Bs} {im : Bs → List Bs} (h : Mods w mb n f K im) :
    Calls Tryz.prog 29 #[.func (.func 49) #[] #[.pointer (some ⟨w.heap.size, 0, none⟩)]] (w.alloc (.cells #[.map (some mb)] 23)) fun e w' => ∃ a c, e = .returned (.slice a K.length c) ∧ w'.ownsRow w.heap.size 9 1 (.slice a K.length c) K.length (strs (sK K)) ∧ Below w.heap.size w w' := by
  obtain ⟨D0, hown, hD⟩ := h.m.own
  obtain ⟨K2, k1, k2, k3, k4⟩ := own_keys hown hD
  have hbl := hown.lt
  have hn := h.n
  have hlen : K.length = K2.length := Nat.le_antisymm (Tp.nodup_le h.nd (fun x hx => (k2 x).2 ((h.key x).1 hx))) (Tp.nodup_le k1 (fun x hx => (h.key x).2 ((k2 x).1 hx)))
  have hsz : Maps.size D0 ≤ 100 := by omega
  have hseq : SeqGives Fence.wide 2 Tryz.prog 49 #[.pointer (some ⟨w.heap.size, 0, none⟩)] encStr (fun ss => ss.Perm (strKeys D0)) (Maps.size D0) (w.alloc (.cells #[.map (some mb)] 23)) :=
    AnyZ.keys_gives (ρ := Tryz.keysZ_ren) { Tryz.keysZ with } Fence.wide _ trivial rfl (by omega) w.heap.size mb n D0 _ (by simp) (by simp) (by
      obtain ⟨es, clock, hb, Ft, hs, hD⟩ := hown
      exact ⟨es, clock, (Below.heap_alloc _ _ mb hbl).trans hb, Ft, hs, hD⟩)
  have hs := (callsIn_wide (n := 5)).1 (AnyZ.sorted_in Tryz.sortedZ Fence.wide 5 trivial trivial trivial trivial rfl (by omega) (sortsZ _) (enters_of Tryz.func43 (by kernel_rfl) rfl) 49 #[.pointer (some ⟨w.heap.size, 0, none⟩)] trivial (enters_of Tryz.func49 (by kernel_rfl) rfl) _ _ (by unfold maxLen; omega) (by omega) _ hseq)
  have hal : Below w.heap.size w (w.alloc (.cells #[.map (some mb)] 23)) := (Below.refl _ _).alloc (Nat.le_refl _) _
  have hpk : K.Perm (strKeys D0) := by
    obtain ⟨es, hes, hpw⟩ := hown.tidy skey
    subst hes
    refine perm_strKeys hpw (fun p hp => ?_) h.nd (fun x => ?_)
    · obtain ⟨es2, clock, hb, F, hsz2, e2⟩ := hown
      have hq : es = (es2.toList.map (WideElems.rg Tryz.prog 9 heldV)).foldr DataW.insert [] := by injection e2
      rw [hq] at hp
      obtain ⟨x, hx, rfl⟩ := List.mem_map.1 (mem_sorted.1 hp)
      obtain ⟨y, hy⟩ := F.reads x hx
      obtain ⟨s, _, h2⟩ := skey_inv' (WideElems.rd_key hy)
      exact ⟨s, by rw [WideElems.rg_of hy]; exact h2⟩
    · rw [h.key x, (hD x).1]
  refine hs.mono ?_
  rintro e w' ⟨v, ss, rfl, hS, hrow, hnil, hb⟩
  have hp : ss.Perm K := hS.trans hpk.symm
  have hl := hp.length_eq
  rw [hl] at hrow
  have e1 : (ss.mergeSort (fun x y => decide (x ≤ y))).map encStr = strs (sK K) := by rw [mergeSort_of_perm hp]; rfl
  rw [e1] at hrow
  obtain ⟨a, c, rfl⟩ := owns_shape hrow
  exact ⟨a, c, rfl, own_base hrow hal.size, hal.trans (hb.mono hal.size)⟩
end Go.Proofs.YtfcdphgggdioeaaGreatDoor
/- Chapter 9: what others saw, and see now: differs; who uses what is otherwise. -/
namespace Go.Proofs.YtfcdphgggdioeaaGreatDoor
open Go.RowKit Go.Maps Go.Sort
open Tp (Bs Sy)

theorem swp_mem {d : Array Sy} {i j : Nat} {s : Sy} (hi : i < d.size) (hj : j < d.size) (h : s ∈ (swp d i j).toList) : s ∈ d.toList := by
  rw [Array.mem_toList_iff] at h ⊢
  have h' : s ∈ (d.setIfInBounds i d[j]!).setIfInBounds j d[i]! := h
  rcases Array.mem_or_eq_of_mem_setIfInBounds h' with h1 | h1
  · rcases Array.mem_or_eq_of_mem_setIfInBounds h1 with h2 | h2
    · exact h2
    · rw [h2, getElem!_pos d j hj]; exact Array.getElem_mem hj
  · rw [h1, getElem!_pos d i hi]; exact Array.getElem_mem hi
theorem insInner_mem {lt : Sy → Sy → Bool} (a : Nat) : ∀ (j : Nat) (d : Array Sy) (s : Sy), j < d.size → s ∈ (Sort.insInner lt a j d).toList → s ∈ d.toList := by
  intro j
  induction j with
  | zero => intro d s _ h; exact h
  | succ j ih =>
    intro d s hj h
    rw [Sort.insInner] at h
    split at h
    · have := ih _ _ (by simp [swp]; omega) h
      exact swp_mem hj (by omega) this
    · exact h
theorem insOuter_mem {lt : Sy → Sy → Bool} (a b : Nat) : ∀ (k i : Nat) (d : Array Sy) (s : Sy), b - i = k → b ≤ d.size → s ∈ (Sort.insOuter lt a b i d).toList → s ∈ d.toList := by
  intro k
  induction k with
  | zero => intro i d s h _ hs; rw [Sort.insOuter, if_neg (by omega)] at hs; exact hs
  | succ k ih =>
    intro i d s h hb hs
    rw [Sort.insOuter] at hs
    split at hs
    · have := ih (i + 1) _ s (by omega) (by rw [insInner_size]; exact hb) hs
      exact insInner_mem a i d s (by omega) this
    · exact hs
theorem srt_mem {l : List Sy} {s : Sy} (h : s ∈ srt l) : s ∈ l := by
  unfold srt insS Sort.insertionSort at h
  have := insOuter_mem 0 l.length _ 1 l.toArray s rfl (by simp) h
  simpa using this
def ofS (m : Tp.M) : List Tp.Sy := srt (Tp.symsOf m)
theorem ofS_mem (m : Tp.M) : ∀ s ∈ ofS m, s ∈ Tp.symsOf m := fun _ hs => srt_mem hs
theorem ofS_len {m : Tp.M} (hg : m.vars.length ≤ 10) (hp : m.procs.length ≤ 10) : (ofS m).length ≤ 1000 := by
  unfold ofS
  rw [srt_len]
  unfold Tp.symsOf
  have h1 := List.length_filter_le (fun g : Tp.G => g.seen) m.vars
  have h2 := List.length_filter_le (fun p : Tp.Pr => p.seen) m.procs
  simp only [List.length_append, List.length_map]
  omega
theorem ofS_small {m : Tp.M} (hm : Tp.WM m) : AllSmall (ofS m) := by
  intro s hs
  have := ofS_mem m s hs
  unfold Tp.symsOf at this
  rw [List.mem_append, List.mem_map, List.mem_map] at this
  rcases this with ⟨g, hg, rfl⟩ | ⟨p, hp, rfl⟩
  · have hw := hm.g g (List.mem_filter.1 hg).1
    have := Tp.okn_len hw.n
    have := hw.l
    simp only [Tp.syG]
    refine ⟨by omega, by decide, by decide, by omega⟩
  · have hw := hm.p p (List.mem_filter.1 hp).1
    have h1 := Tp.okn_len hw.n
    have h2 := hw.c
    simp only [Tp.syP]
    refine ⟨by omega, by omega, by omega, by omega⟩
theorem SL.zero {w : World} {B : Nat} {v : Value} {l : List Sy} (h : SL w B v l) : SL w 0 v l := by
  rcases h with q | ⟨g, cap, a, _, b⟩
  · exact Or.inl q
  · exact Or.inr ⟨g, cap, a, Nat.zero_le _, b⟩
end Go.Proofs.YtfcdphgggdioeaaGreatDoor
/- Chapter 9: viewsOf, walked. -/
namespace Go.Proofs.YtfcdphgggdioeaaGreatDoor
open Go.RowKit Go.Maps
open Tp (Bs Sy)

theorem SL.extM {w w' : World} {B b n : Nat} {f : Bs → Option Value} {v : Value} {l : List Sy} (h : SL w B v l) (k : Ext b w w') (hm : MapV w b n f) : SL w' B v l := by
  rcases h with q | ⟨g, cap, q1, q2, q3⟩
  · exact Or.inl q
  · obtain ⟨cur, r1, r2, r3⟩ := q3.b
    obtain ⟨es, c, hb⟩ := hm.isMap'
    have hne : g ≠ b := fun e => by rw [e, hb] at r1; cases r1
    exact Or.inr ⟨g, cap, q1, q2, ⟨⟨cur, (k.block g (lt_blk r1) hne).trans r1, r2, r3⟩, q3.n, q3.m⟩⟩
theorem zeroView (w : World) : (zeroValue 83).run Tryz.prog w = .ok (.agg #[.slice none 0 0, .slice none 0 0]) w := by kernel_rfl
def mZ : Tp.M := ⟨[], [], [], [], []⟩
theorem mb_zero (w : World) : MB w w.heap.size mZ none none none none 0 0 0 0 := ⟨Or.inl ⟨rfl, rfl, rfl⟩, Or.inl ⟨rfl, rfl, rfl⟩, ⟨[], rfl, Or.inl ⟨rfl, rfl, rfl⟩⟩, ⟨[], (by show RepS w _ [] []; rw [RepS]), by unfold OwnS; first | exact Or.inl ⟨rfl, rfl, rfl⟩ | exact Or.inl ⟨rfl, rfl⟩ | exact Or.inl rfl⟩⟩
end Go.Proofs.YtfcdphgggdioeaaGreatDoor
/- Chapter 9: who uses what is otherwise: nobody, where was and now are the same. -/
namespace Go.Proofs.YtfcdphgggdioeaaGreatDoor
open Go.RowKit Go.Maps
open Tp (Bs Sy)

theorem other_cf (args : Array Value) (w : World) : (callFunc 31 args).run Tryz.prog w = .ok (.enter 31 args) w := by kernel_rfl
theorem MBk.mb {w : World} {b : Nat} {m : Tp.M} {ia ga pa ba : Option Addr} {ic gc pc bc : Nat} (h : MBk w b m ia ga pa ba ic gc pc bc) : MB w w.heap.size m ia ga pa ba ic gc pc bc := h.d.mb (fun _ hb _ => hb)
end Go.Proofs.YtfcdphgggdioeaaGreatDoor
/- slices.ContainsFunc of texts, by a function that takes two variables besides. -/
namespace Go.Proofs.YtfcdphgggdioeaaGreatDoor
open Go.RowKit
open Tp (Bs)

set_option maxRecDepth 100000 in
set_option maxHeartbeats 1000000 in
theorem indexF2 {w : World} {a : Option Addr} {cap : Nat} {l : List Bs} {p : Bs → Bool} {fn : FuncId} {c1 c2 : Value} (hS : StrsAt w l a) (hn : l.length ≤ 1000000) (hcf : ∀ (args : Array Value) (w : World), (callFunc fn args).run Tryz.prog w = .ok (.enter fn args) w)
    (hd : ∀ W (x : Bs), x ∈ l → Below w.heap.size w W → Calls Tryz.prog fn #[.string (bs x), c1, c2] W fun e w' => e = .returned (.bool (p x)) ∧ Below W.heap.size W w') :
    Calls Tryz.prog 55 #[.slice a l.length cap, .func (.func fn) #[] #[c1, c2]] w fun e w' => (∃ k : Int, e = .returned (.int .i64 k) ∧ (decide (0 ≤ k) = l.any p)) ∧ Below w.heap.size w w' := by
  have hn' : (l.length : Int) ≤ 1000000 := by omega
  have HSL := Lib.hid hS
  have HD := Lib.hid hd
  clear hS hd
  go_enter Tryz.func55, Tryz.ntmps55
  go_wp2_with fail
  go_loopg [8] l.length (fun k vi wr => ∃ i : Nat, i ≤ l.length ∧ k = l.length - i ∧ vi = .int .i64 (i : Int) ∧ Hid ((l.take i).any p = false) ∧ Hid (Below w.heap.size w wr))
  case atStart => exact ⟨0, by omega, by omega, rfl, rfl, Below.refl _ _⟩
  case round =>
    obtain ⟨i, hid, hk, rfl, HI, HW⟩ := hrel
    by_cases hlt : i < l.length
    · have hlt' : (i : Int) < (l.length : Int) := by omega
      obtain ⟨g, o, rfl, hbl', e0⟩ := (HSL.out.on HW.out).c i hlt
      have HF := Lib.hid (HD.out wr l[i] (List.getElem_mem hlt) HW.out)
      have HNX : Hid ((l.take (i + 1)).any p = p l[i]) := by
        show _ = _
        rw [List.take_succ_eq_append_getElem hlt, List.any_append, HI.out]; simp
      have HAN : Hid (p l[i] = true → l.any p = true) := fun e => List.any_eq_true.2 ⟨_, List.getElem_mem hlt, e⟩
      generalize p l[i] = d at *
      generalize bs l[i] = x1 at *
      clear HI
      go_wp2_with fail
      refine HF.out.mono ?_
      rintro e w3 ⟨rfl, h3⟩
      have HW3 := Lib.hid (HW.out.trans (h3.mono HW.out.size))
      clear h3
      cases d with
      | true =>
        have HE := Lib.hid (HAN.out rfl)
        go_wp2_with fail
        go_ret
        refine ⟨⟨_, rfl, ?_⟩, HW3.out⟩
        rw [HE.out]
        exact decide_eq_true (by omega)
      | false =>
        go_wp2_with fail
        go_roundg (l.length - (i + 1))
        case measure => omega
        case rel => exact ⟨i + 1, by omega, rfl, by go_num, HNX, HW3⟩
    · have hlt' : ¬ (i : Int) < (l.length : Int) := by omega
      have HE : Hid (l.any p = false) := by
        have := HI.out
        rw [List.take_of_length_le (by omega)] at this
        exact this
      go_wp2_with fail
      go_ret
      refine ⟨⟨_, rfl, ?_⟩, HW.out⟩
      rw [HE.out]
      rfl
set_option maxRecDepth 100000 in
set_option maxHeartbeats 1000000 in
theorem containsF2 {w : World} {a : Option Addr} {cap : Nat} {l : List Bs} {p : Bs → Bool} {fn : FuncId} {c1 c2 : Value} (hS : StrsAt w l a) (hn : l.length ≤ 1000000) (hcf : ∀ (args : Array Value) (w : World), (callFunc fn args).run Tryz.prog w = .ok (.enter fn args) w)
    (hd : ∀ W (x : Bs), x ∈ l → Below w.heap.size w W → Calls Tryz.prog fn #[.string (bs x), c1, c2] W fun e w' => e = .returned (.bool (p x)) ∧ Below W.heap.size W w') :
    Calls Tryz.prog 34 #[.slice a l.length cap, .func (.func fn) #[] #[c1, c2]] w fun e w' => e = .returned (.bool (l.any p)) ∧ Below w.heap.size w w' := by
  have HC := Lib.hid (indexF2 (cap := cap) hS hn hcf hd)
  clear hS hd hcf
  go_enter Tryz.func34, Tryz.ntmps34
  go_wp2_with fail
  refine HC.out.mono ?_
  rintro e w1 ⟨⟨k, rfl, hk⟩, hb⟩
  have HK := Lib.hid hk
  clear hk
  go_wp2_with fail
  go_ret
  exact ⟨by rw [← HK.out]; rfl, hb⟩
end Go.Proofs.YtfcdphgggdioeaaGreatDoor
/- Chapter 9: Stale, walked. -/
namespace Go.Proofs.YtfcdphgggdioeaaGreatDoor
open Go.RowKit Go.Maps
open Tp (Bs Sy)

def StaleP (w : World) (L : List Bs) (e : Ending) (w' : World) : Prop := ∃ a c, e = .returned (.slice a L.length c) ∧ StrsAt w' L a ∧ Below w.heap.size w w'
end Go.Proofs.YtfcdphgggdioeaaGreatDoor
