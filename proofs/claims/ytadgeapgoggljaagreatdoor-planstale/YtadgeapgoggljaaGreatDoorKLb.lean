import Derived.Test.YtadgeapgoggljaaGreatDoorKLa
import Derived.Test.YtadgeapgoggljaaGreatDoorKMa
import Derived.Maps.RangeWalk
/- Chapter 9: maps whose keys are texts: their keys as a list; a store; who imports whom, who waits, in memory. -/
namespace Go.Proofs.YtadgeapgoggljaaGreatDoor
open Go.RowKit Go.Maps Go.WideElems
open Tp (Bs)

theorem skey_inv' {key : Value} {kl : Lit} (h : keyOf Tryz.prog 9 key = some kl) : ∃ x : Bs, key = .string (bs x) ∧ kl = .string x := by
  have hk := Tryz.underlying9
  cases key <;> simp [keyOf, hk, mapKey] at h
  rename_i s
  refine ⟨s.data.toList, by cases s; simp [bs], ?_⟩
  first | exact h.2.symm | exact h.symm | simp_all
theorem range_entry' {D : DataW Value} {f : Bs → Option Value} (hD : ∀ s, Maps.has D (.string s) = (f s).isSome ∧ ∀ v, f s = some v → ∀ z, D.atKey (.string s) z = .held v) {x : Bs} {c : Value} (hat : ∀ zd, D.atKey (.string x) zd = .held c) : f x = some c := by
  obtain ⟨e1, e2⟩ := hD x
  cases hf : f x with
  | none =>
    rw [hf] at e1
    have h1 := hat (.map [])
    rw [Maps.atKey_of_not_has e1] at h1
    cases h1
  | some u =>
    have h1 := e2 u hf (.map [])
    rw [hat] at h1
    injection h1 with h1
    rw [h1]
def litS : Lit → Bs
  | .string s => s
  | _ => []
/- its keys, as a list -/
theorem own_keys {w : World} {b n : Nat} {f : Bs → Option Value} {D : DataW Value} (h : w.ownsMap Tryz.prog 9 heldV b n D) (hD : ∀ s, Maps.has D (.string s) = (f s).isSome ∧ ∀ v, f s = some v → ∀ z, D.atKey (.string s) z = .held v) : ∃ K : List Bs, K.Nodup ∧ (∀ x, x ∈ K ↔ (f x).isSome = true) ∧ Maps.size D = K.length ∧ K.length ≤ n := by
  obtain ⟨es', e', pw⟩ := h.tidy skey
  have hle := h.size_le
  obtain ⟨es, clock, hb, F, hs, e2⟩ := h
  have hst : ∀ p ∈ es', ∃ x : Bs, p.1 = .string x := by
    intro p hp
    have hq : es' = (es.toList.map (rg Tryz.prog 9 heldV)).foldr DataW.insert [] := by rw [e'] at e2; injection e2
    rw [hq] at hp
    obtain ⟨x, hx, rfl⟩ := List.mem_map.1 (mem_sorted.1 hp)
    obtain ⟨y, hy⟩ := F.reads x hx
    obtain ⟨s, _, h2⟩ := skey_inv' (rd_key hy)
    exact ⟨s, by rw [rg_of hy]; exact h2⟩
  subst e'
  refine ⟨es'.map fun p => litS p.1, ?_, fun x => ?_, by simp [Maps.size], by simpa [Maps.size] using hle⟩
  · rw [List.nodup_iff_pairwise_ne, List.pairwise_map]
    refine pw.imp_of_mem (fun {p q} hp hq hne e => hne ?_)
    obtain ⟨x, hx⟩ := hst p hp
    obtain ⟨y, hy⟩ := hst q hq
    rw [hx, hy] at e ⊢
    exact congrArg Lit.string e
  · rw [← (hD x).1, Maps.has_eq, List.any_eq_true, List.mem_map]
    constructor
    · rintro ⟨p, hp, rfl⟩
      obtain ⟨y, hy⟩ := hst p hp
      refine ⟨p, hp, ?_⟩
      rw [hy]
      exact WideAt.sameKey_self (by simp [WideAt.IsKeyLit])
    · rintro ⟨p, hp, hk⟩
      refine ⟨p, hp, ?_⟩
      rw [WideAt.sameKey_eq hk]
      rfl
theorem wpList_mapUpdate_v' (w : World) {ops : Array Oper} {rest : List Oper} {o : Oper} {a : Act} {Q : Exit → Act → World → Prop}
    (hg : o.guard = none) (m x v : Operand) (t : TypeId) (hop : o.op = Op.mapUpdate t m x v) (e : TypeId) (ht : Tryz.prog.underlying t = some (.map 9 e))
    (b n : Nat) (f : Bs → Option Value) (hown : MapV w b n f) (hn : n < 1000000) (l : Bs) (hl : l.length ≤ 1000000) (val : Value) (hm : a.eval m = .map (some b)) (hx : a.eval x = .string (bs l)) (hv : a.eval v = val)
    (hK : ∀ w', MapV w' b (n + 1) (updV f l val) → Ext b w w' → w'.heap.size = w.heap.size → wpList Tryz.prog ops Q rest (a.put o.dst undef) w') :
    wpList Tryz.prog ops Q (o :: rest) a w := by
  refine wpList_plain hg fun K' hK' => ?_
  obtain ⟨w', hrun, r1, r2, r3⟩ := hown.store ht hn l hl val
  unfold Oper.wp
  simp [execOp, hop, hm, hx, hv, hrun, Result.andThen]
  exact hK' _ _ (hK w' r1 r2 r3)
theorem MapV.isMap' {w : World} {b n : Nat} {f : Bs → Option Value} (h : MapV w b n f) : ∃ es c, w.heap[b]? = some (.map es c) := by
  obtain ⟨D, ⟨es, clock, h1, _⟩, _⟩ := h.own
  exact ⟨es, clock, h1⟩
theorem own_ne_map {w : World} {B e size n b : Nat} {v : Value} {xs : List Value} (h : w.ownsRow B e size v n xs) {nb : Nat} {f : Bs → Option Value} (hm : MapV w b nb f) : v.ownBlock ≠ some b := by
  intro q
  obtain ⟨es, c, h1⟩ := hm.isMap'
  rcases h.2 with ⟨rfl, _⟩ | ⟨g, cap, cur, rfl, _, q2, _⟩
  · cases q
  · cases q
    rw [h1] at q2
    cases q2
/- who imports whom: in block ib -/
structure AdjI (w : World) (B ib n : Nat) (E : List (Bs × Bs)) (fi : Bs → Option Value) : Prop where
  m : MapV w ib n fi
  row : ∀ k, w.ownsRow B 9 1 ((fi k).getD (.slice none 0 0)) (Tp.byE E k).length (strs (Tp.byE E k))
  inj : ∀ k k' b, ((fi k).getD (.slice none 0 0)).ownBlock = some b → ((fi k').getD (.slice none 0 0)).ownBlock = some b → k = k'
/- who waits for how many: in block wq -/
structure AdjW (w : World) (wq n : Nat) (W : Bs → Nat) (fw : Bs → Option Value) : Prop where
  m : MapV w wq n fw
  val : ∀ x, (fw x).getD (.int .i64 0) = .int .i64 (W x : Int)
theorem AdjI.keep {w w' : World} {B ib n : Nat} {E : List (Bs × Bs)} {fi : Bs → Option Value} (h : AdjI w B ib n E fi) (hk : ∀ b, b < w.heap.size → b = ib ∨ (∃ k, ((fi k).getD (.slice none 0 0)).ownBlock = some b) → w'.heap[b]? = w.heap[b]?) : AdjI w' B ib n E fi :=
  ⟨h.m.on (hk ib h.m.lt (Or.inl rfl)), fun k => owns_keep (h.row k) (fun b _ hl q => hk b hl (Or.inr ⟨k, q⟩)), h.inj⟩
theorem AdjI.on {w w' : World} {B ib n : Nat} {E : List (Bs × Bs)} {fi : Bs → Option Value} (h : AdjI w B ib n E fi) (k : Below w.heap.size w w') : AdjI w' B ib n E fi := h.keep (fun b hl _ => k.block b hl)
theorem AdjI.ext {w w' : World} {B ib n nb b0 : Nat} {E : List (Bs × Bs)} {fi f : Bs → Option Value} (h : AdjI w B ib n E fi) (hm : MapV w b0 nb f) (hne : ib ≠ b0) (k : Ext b0 w w') : AdjI w' B ib n E fi := h.keep (fun b hl q => k.block b hl (fun e => by
  subst e
  rcases q with e | ⟨x, q⟩
  · exact hne e.symm
  · exact own_ne_map (h.row x) hm q))
theorem AdjW.on {w w' : World} {wq n : Nat} {W : Bs → Nat} {fw : Bs → Option Value} (h : AdjW w wq n W fw) (k : w'.heap[wq]? = w.heap[wq]?) : AdjW w' wq n W fw := ⟨h.m.on k, h.val⟩
/- one more imports k -/
theorem AdjI.put {w w1 w2 : World} {B ib n : Nat} {E : List (Bs × Bs)} {fi : Bs → Option Value} (h : AdjI w B ib n E fi) {k x : Bs} {v' : Value} {m : Nat} (hm : m = (Tp.byE E k).length + 1) (ho : w1.ownsRow B 9 1 v' m (strs (Tp.byE E k) ++ [.string (bs x)])) (hg : w.grownBy w1 ((fi k).getD (.slice none 0 0)).ownBlock) (hl : ∀ g, v'.ownBlock = some g → ((fi k).getD (.slice none 0 0)).ownBlock = some g ∨ w.heap.size ≤ g) (hf : MapV w2 ib (n + 1) (updV fi k v')) (hx : Ext ib w1 w2) : AdjI w2 B ib (n + 1) (E ++ [(k, x)]) (updV fi k v') := by
  have hib : ∀ j b, ((fi j).getD (.slice none 0 0)).ownBlock = some b → b ≠ ib := fun j b q e => own_ne_map (h.row j) h.m (e ▸ q)
  have hv' : v'.ownBlock ≠ some ib := fun q => by
    rcases hl ib q with z | z
    · exact hib k ib z rfl
    · have := h.m.lt; omega
  refine ⟨hf, fun j => ?_, fun j j' b q q' => ?_⟩
  · rw [Tp.byE_snoc]
    by_cases e : k = j
    · subst e
      rw [if_pos rfl]
      have e1 : (updV fi k v' k).getD (.slice none 0 0) = v' := by simp [updV]
      have e2 : strs (Tp.byE E k ++ [x]) = strs (Tp.byE E k) ++ [.string (bs x)] := by simp [strs]
      rw [e1, e2, List.length_append, List.length_singleton, ← hm]
      exact owns_keep ho (fun b _ hl q => hx.block b hl (fun e => hv' (e ▸ q)))
    · rw [if_neg e]
      have e1 : (updV fi k v' j).getD (.slice none 0 0) = (fi j).getD (.slice none 0 0) := by simp [updV, Ne.symm e]
      rw [e1]
      have r := h.row j
      exact owns_keep r (fun b _ hl q => (hx.block b (Nat.lt_of_lt_of_le hl hg.size) (hib j b q)).trans (hg.block b hl (fun z => e (h.inj k j b z.symm q))))
  · have e1 : ∀ i, (updV fi k v' i).getD (.slice none 0 0) = if i = k then v' else (fi i).getD (.slice none 0 0) := fun i => by by_cases e : i = k <;> simp [updV, e]
    rw [e1] at q q'
    by_cases a : j = k
    · by_cases a' : j' = k
      · rw [a, a']
      · rw [if_pos a] at q
        rw [if_neg a'] at q'
        rcases hl b q with z | z
        · exact a.trans (h.inj k j' b z q')
        · have := ((h.row j').lt b q').2; omega
    · rw [if_neg a] at q
      by_cases a' : j' = k
      · rw [if_pos a'] at q'
        rcases hl b q' with z | z
        · exact (h.inj j k b q z).trans a'.symm
        · have := ((h.row j).lt b q).2; omega
      · rw [if_neg a'] at q'
        exact h.inj j j' b q q'
theorem AdjW.put {w w' : World} {wq n : Nat} {W : Bs → Nat} {fw : Bs → Option Value} (h : AdjW w wq n W fw) {x : Bs} {c : Nat} {v : Int} (hv : v = (c : Int)) (hf : MapV w' wq (n + 1) (updV fw x (.int .i64 v))) : AdjW w' wq (n + 1) (fun y => if y = x then c else W y) (updV fw x (.int .i64 v)) := ⟨hf, fun y => by
  by_cases e : y = x
  · simp [updV, e, hv]
  · simp [updV, e]; exact h.val y⟩
end Go.Proofs.YtadgeapgoggljaaGreatDoor
/- Chapter 9: importsThere, walked. -/
namespace Go.Proofs.YtadgeapgoggljaaGreatDoor
open Go.RowKit Go.Maps
open Tp (Bs)

theorem zeroStrs' (w : World) : (zeroValue 22).run Tryz.prog w = .ok (.slice none 0 0) w := by kernel_rfl
theorem zeroInt' (w : World) : (zeroValue 3).run Tryz.prog w = .ok (.int .i64 0) w := by kernel_rfl
theorem zeroMod' (w : World) : (zeroValue 38).run Tryz.prog w = .ok (.agg #[.string ⟨#[]⟩, .slice none 0 0, .slice none 0 0, .slice none 0 0, .slice none 0 0]) w := by kernel_rfl
/- modules by their names, in memory, as far as their imports go -/
structure Mods (w : World) (mb n : Nat) (f : Bs → Option Value) (K : List Bs) (im : Bs → List Bs) : Prop where
  m : MapV w mb n f
  nd : K.Nodup
  key : ∀ x, x ∈ K ↔ (f x).isSome = true
  kl : ∀ x ∈ K, x.length ≤ 1000000
  n : K.length ≤ 100
  mod : ∀ x ∈ K, ∃ nm ia ic ga gn gc pa pn pc ba bn bc, f x = some (.agg #[.string nm, .slice ia (im x).length ic, .slice ga gn gc, .slice pa pn pc, .slice ba bn bc]) ∧ StrsAt w (im x) ia ∧ (im x).length ≤ 6 ∧ ∀ y ∈ im x, y.length ≤ 1000000
theorem Mods.on {w w' : World} {mb n : Nat} {f : Bs → Option Value} {K : List Bs} {im : Bs → List Bs} (h : Mods w mb n f K im) (k : Below w.heap.size w w') : Mods w' mb n f K im :=
  ⟨h.m.on (k.block _ h.m.lt), h.nd, h.key, h.kl, h.n, fun x hx => by
    obtain ⟨nm, ia, ic, ga, gn, gc, pa, pn, pc, ba, bn, bc, q1, q2, q3⟩ := h.mod x hx
    exact ⟨nm, ia, ic, ga, gn, gc, pa, pn, pc, ba, bn, bc, q1, q2.on k, q3⟩⟩
theorem ranges_keep {w w' : World} {b r n cnt : Nat} {D : DataW Value} {left : Lit → Bool} (h : w.ranges Tryz.prog 9 heldV b r n D left cnt) (hb : w'.heap[b]? = w.heap[b]?) (hr : w'.heap[r]? = w.heap[r]?) : w'.ranges Tryz.prog 9 heldV b r n D left cnt := by
  obtain ⟨es, clock, since, seen, c0, h1, h2, h3, h4, h5, h6⟩ := h
  exact ⟨es, clock, since, seen, c0, hb.trans h1, h2, h3, h4, hr.trans h5, h6⟩
theorem ranges_iter {w : World} {b r n cnt : Nat} {D : DataW Value} {left : Lit → Bool} (h : w.ranges Tryz.prog 9 heldV b r n D left cnt) : ∃ a b c d, w.heap[r]? = some (.mapIter a b c d) := by
  obtain ⟨es, clock, since, seen, c0, h1, h2, h3, h4, h5, h6⟩ := h
  exact ⟨_, _, _, _, h5⟩
theorem own_ne_iter {w : World} {B e size n r : Nat} {v : Value} {xs : List Value} (h : w.ownsRow B e size v n xs) (hr : ∃ a b c d, w.heap[r]? = some (.mapIter a b c d)) : v.ownBlock ≠ some r := by
  intro q
  obtain ⟨_, _, _, _, h1⟩ := hr
  rcases h.2 with ⟨rfl, _⟩ | ⟨g, cap, cur, rfl, _, q2, _⟩
  · cases q
  · cases q
    rw [h1] at q2
    cases q2
/- what is still to come -/
def LeftK (K dn : List Bs) (left : Lit → Bool) : Prop := dn.Nodup ∧ (∀ x ∈ dn, x ∈ K) ∧ ∀ x : Bs, left (.string x) = true ↔ x ∈ K ∧ x ∉ dn
theorem LeftK.start {K : List Bs} {f : Bs → Option Value} {D : DataW Value} (hD : ∀ s, Maps.has D (.string s) = (f s).isSome ∧ ∀ v, f s = some v → ∀ z, D.atKey (.string s) z = .held v) (hk : ∀ x, x ∈ K ↔ (f x).isSome = true) : LeftK K [] (Maps.has D) :=
  ⟨List.nodup_nil, (fun x h => by cases h), fun x => by rw [(hD x).1, hk x]; simp⟩
theorem LeftK.next {K dn : List Bs} {left : Lit → Bool} (h : LeftK K dn left) {x : Bs} (hx : left (.string x) = true) : x ∈ K ∧ x ∉ dn ∧ LeftK K (dn ++ [x]) (fun z => left z && !z.sameKey (.string x)) := by
  obtain ⟨h1, h2, h3⟩ := h
  obtain ⟨a, b⟩ := (h3 x).1 hx
  refine ⟨a, b, ?_, fun y hy => ?_, fun y => ?_⟩
  · rw [List.nodup_append]
    exact ⟨h1, by simp, fun y hy z hz => by simp at hz; subst hz; exact fun e => b (e ▸ hy)⟩
  · rcases List.mem_append.1 hy with q | q
    · exact h2 y q
    · simp at q; rw [q]; exact a
  · rw [Bool.and_eq_true, h3 y]
    by_cases e : y = x
    · subst e
      have : (Lit.string y).sameKey (.string y) = true := WideAt.sameKey_self (by simp [WideAt.IsKeyLit])
      simp [this]
    · have : (Lit.string y).sameKey (.string x) = false := sameKey_ne (fun q => e (by injection q))
      simp [this, e]
theorem LeftK.done {K dn : List Bs} {left : Lit → Bool} (h : LeftK K dn left) (h0 : ∀ kl, left kl = false) : ∀ x, x ∈ dn ↔ x ∈ K := fun x => ⟨h.2.1 x, fun hx => Classical.byContradiction fun q => by
  have := (h.2.2 x).2 ⟨hx, q⟩
  rw [h0] at this
  cases this⟩
end Go.Proofs.YtadgeapgoggljaaGreatDoor
/- Chapter 9: importsThere, walked. -/
namespace Go.Proofs.YtadgeapgoggljaaGreatDoor
open Go.RowKit Go.Maps
open Tp (Bs)

def edT (K : List Bs) (im : Bs → List Bs) (dn : List Bs) (x : Bs) (i : Nat) : List (Bs × Bs) := Tp.edges K im dn ++ (((im x).take i).filter fun y => decide (y ∈ K)).map fun y => (y, x)
theorem edT_zero (K : List Bs) (im : Bs → List Bs) (dn : List Bs) (x : Bs) : edT K im dn x 0 = Tp.edges K im dn := by simp [edT]
theorem edT_all (K : List Bs) (im : Bs → List Bs) (dn : List Bs) (x : Bs) : edT K im dn x (im x).length = Tp.edges K im (dn ++ [x]) := by simp [edT, Tp.edges]
theorem edT_in {K : List Bs} {im : Bs → List Bs} {dn : List Bs} {x : Bs} {i : Nat} (h : i < (im x).length) (hk : (im x)[i] ∈ K) : edT K im dn x (i + 1) = edT K im dn x i ++ [((im x)[i], x)] := by
  unfold edT
  rw [List.take_succ_eq_append_getElem h, List.filter_append, List.map_append, List.append_assoc]
  simp [hk]
theorem edT_out {K : List Bs} {im : Bs → List Bs} {dn : List Bs} {x : Bs} {i : Nat} (h : i < (im x).length) (hk : (im x)[i] ∉ K) : edT K im dn x (i + 1) = edT K im dn x i := by
  unfold edT
  rw [List.take_succ_eq_append_getElem h, List.filter_append, List.map_append]
  simp [hk]
theorem edges_len {K : List Bs} {im : Bs → List Bs} (h6 : ∀ x ∈ K, (im x).length ≤ 6) : ∀ {dn : List Bs}, (∀ x ∈ dn, x ∈ K) → (Tp.edges K im dn).length ≤ 6 * dn.length
  | [], _ => by simp [Tp.edges]
  | n :: t, hs => by
    have ih := edges_len h6 (dn := t) (fun x hx => hs x (by simp [hx]))
    have e : Tp.edges K im (n :: t) = (((im n).filter fun i => decide (i ∈ K)).map fun i => (i, n)) ++ Tp.edges K im t := by simp [Tp.edges]
    rw [e, List.length_append, List.length_map, List.length_cons]
    have := List.length_filter_le (fun i => decide (i ∈ K)) (im n)
    have := h6 n (hs n (by simp))
    omega
theorem byE_len (E : List (Bs × Bs)) (k : Bs) : (Tp.byE E k).length ≤ E.length := by
  unfold Tp.byE
  rw [List.length_map]
  exact List.length_filter_le _ _
theorem waitE_len (E : List (Bs × Bs)) (k : Bs) : Tp.waitE E k ≤ E.length := List.length_filter_le _ _
theorem edT_len {K : List Bs} {im : Bs → List Bs} {dn : List Bs} {x : Bs} {i : Nat} (h6 : ∀ x ∈ K, (im x).length ≤ 6) (hs : ∀ x ∈ dn, x ∈ K) (hx : x ∈ K) : (edT K im dn x i).length ≤ 6 * dn.length + 6 := by
  unfold edT
  rw [List.length_append, List.length_map]
  have := edges_len h6 hs
  have := List.length_filter_le (fun i => decide (i ∈ K)) ((im x).take i)
  have := h6 x hx
  rw [List.length_take] at *
  omega
/- what is there of both maps -/
structure Adj (w : World) (B ib wq n : Nat) (E : List (Bs × Bs)) : Prop where
  c : ∃ ni nw fi fw, ni ≤ n ∧ nw ≤ n ∧ AdjI w B ib ni E fi ∧ AdjW w wq nw (Tp.waitE E) fw
  bi : B ≤ ib
  bw : B ≤ wq
  ne : ib ≠ wq
theorem Adj.on {w w' : World} {B ib wq n : Nat} {E : List (Bs × Bs)} (h : Adj w B ib wq n E) (k : Below w.heap.size w w') : Adj w' B ib wq n E := by
  obtain ⟨ni, nw, fi, fw, h1, h2, h3, h4⟩ := h.c
  exact ⟨⟨ni, nw, fi, fw, h1, h2, h3.on k, h4.on (k.block _ h4.m.lt)⟩, h.bi, h.bw, h.ne⟩
theorem Adj.mono {w : World} {B ib wq n n' : Nat} {E : List (Bs × Bs)} (h : Adj w B ib wq n E) (k : n ≤ n') : Adj w B ib wq n' E := by
  obtain ⟨ni, nw, fi, fw, h1, h2, h3⟩ := h.c
  exact ⟨⟨ni, nw, fi, fw, by omega, by omega, h3⟩, h.bi, h.bw, h.ne⟩
theorem map_ne_iter {w : World} {b r n : Nat} {f : Bs → Option Value} (h : MapV w b n f) (hr : ∃ a b c d, w.heap[r]? = some (.mapIter a b c d)) : b ≠ r := by
  intro q
  obtain ⟨_, _, _, _, h1⟩ := hr
  obtain ⟨es, c, h2⟩ := h.isMap'
  rw [q, h1] at h2
  cases h2
theorem Adj.iter {w w' : World} {B ib wq n r : Nat} {E : List (Bs × Bs)} (h : Adj w B ib wq n E) (hr : ∃ a b c d, w.heap[r]? = some (.mapIter a b c d)) (k : w.grownBy w' (some r)) : Adj w' B ib wq n E := by
  obtain ⟨ni, nw, fi, fw, h1, h2, h3, h4⟩ := h.c
  refine ⟨⟨ni, nw, fi, fw, h1, h2, h3.keep (fun b hl q => k.block b hl (fun e => ?_)), h4.on (k.block _ h4.m.lt (fun e => map_ne_iter h4.m hr (by injection e)))⟩, h.bi, h.bw, h.ne⟩
  have e' : b = r := by injection e
  subst e'
  rcases q with q | ⟨x, q⟩
  · exact map_ne_iter h3.m hr q.symm
  · exact own_ne_iter (h3.row x) hr q
theorem waitE_put (E : List (Bs × Bs)) (a x : Bs) : Tp.waitE (E ++ [(a, x)]) = fun y => if y = x then Tp.waitE E x + 1 else Tp.waitE E y := by
  funext y
  rw [Tp.waitE_snoc]
  by_cases e : x = y
  · subst e; simp
  · rw [if_neg e, if_neg (fun q => e q.symm)]
set_option maxRecDepth 100000 in
set_option maxHeartbeats 4000000 in
theorem imports_post {w : World} {mb n : Nat} {f : Bs → Option Value} {K : List Bs} {im : Bs → List Bs} (h : Mods w mb n f K im) :
    Calls Tryz.prog 30 #[.map (some mb)] w fun e w' => ∃ ib wq dn, e = .returned (.tuple #[.map (some ib), .map (some wq)]) ∧ dn.Nodup ∧ (∀ x, x ∈ dn ↔ x ∈ K) ∧ Adj w' w.heap.size ib wq (6 * K.length) (Tp.edges K im dn) ∧ Below w.heap.size w w' := by
  have hmm := @run_makeMap Tryz.prog
  have HM := Lib.hid h
  obtain ⟨D, hown, hD⟩ := h.m.own
  have hn100 := h.n
  have hml := h.m.lt
  obtain ⟨w2, hw2⟩ : ∃ w2, w2 = (w.alloc (.map #[] 0)).alloc (.map #[] 0) := ⟨_, rfl⟩
  have hb2 : Below w.heap.size w w2 := by rw [hw2]; exact ((Below.refl _ _).alloc (Nat.le_refl _) _).alloc (by simp) _
  have hs2 : w2.heap.size = w.heap.size + 1 + 1 := by rw [hw2]; simp
  have hi2 : AdjI w2 w.heap.size w.heap.size 0 [] (fun _ => none) := ⟨by rw [hw2]; exact (MapV.made w).on (Below.heap_alloc _ _ _ (by simp)), fun k => World.ownsRow_nil _ _ _ _, fun k k' b q => by cases q⟩
  have hq2 : AdjW w2 (w.heap.size + 1) 0 (Tp.waitE []) (fun _ => none) := ⟨by
    have := MapV.made (w.alloc (.map #[] 0))
    rw [show (w.alloc (.map #[] 0)).heap.size = w.heap.size + 1 by simp] at this
    rw [hw2]
    exact this, fun x => rfl⟩
  have HA2 : Hid (Adj w2 w.heap.size w.heap.size (w.heap.size + 1) 0 []) := ⟨⟨0, 0, _, _, Nat.le_refl _, Nat.le_refl _, hi2, hq2⟩, Nat.le_refl _, by omega, by omega⟩
  have HOWN := Lib.hid (show w2.ownsMap Tryz.prog 9 heldV mb n D by
    obtain ⟨es, clock, q1, q2⟩ := hown
    exact ⟨es, clock, (hb2.block mb hml).trans q1, q2⟩)
  have HD := Lib.hid hD
  have HB2 := Lib.hid hb2
  have HL0 := Lib.hid (LeftK.start hD h.key)
  have HS2 := Lib.hid hs2
  clear hi2 hq2 hown hD hb2 h hs2
  go_enter Tryz.func30, Tryz.ntmps30
  go_upto_region 2 with fail
  rw [← hw2]
  obtain ⟨wq, hwq⟩ : ∃ wq, wq = w.heap.size + 1 := ⟨_, rfl⟩
  rw [← hwq] at HA2 ⊢
  have hwq1 : w.heap.size < wq := by omega
  have hwq2 : wq < w2.heap.size := by have := HS2.out; omega
  clear hw2 hwq
  go_wp2_with (at_range; refine wpList_range_own _ rfl _ 25 rfl 9 38 skey Tryz.underlying25 heldV mb n D rfl HOWN.out ?_; intro w3 hrg3 hg3 hs3)
  go_frame
  clear hmm
  have HB3 : Hid (Below w.heap.size w w3) := HB2.out.trans ((Below.refl _ _).grown hg3 HB2.out.size (fun k hk => by cases hk))
  have HA3 : Hid (Adj w3 w.heap.size w.heap.size wq 0 []) := HA2.out.on ((Below.refl _ _).grown hg3 (Nat.le_refl _) (fun k hk => by cases hk))
  have HRG3 := Lib.hid hrg3
  have hrw : w.heap.size < w2.heap.size := by omega
  have HH6 : Hid (∀ x ∈ K, (im x).length ≤ 6) := fun x hx => by
    obtain ⟨_, _, _, _, _, _, _, _, _, _, _, _, _, _, q, _⟩ := HM.out.mod x hx
    exact q
  obtain ⟨rb, hrb⟩ : ∃ rb, rb = w2.heap.size := ⟨_, rfl⟩
  rw [← hrb] at HRG3 hrw hwq2 ⊢
  obtain ⟨i1, hi, hz0, hz1, hz2⟩ := info_parts Tryz.infoString'
  clear hrg3 hg3 hs3 HA2 HOWN HB2 hrb HS2
  go_loopg [] (Maps.size D) (fun k wr => ∃ left dn, Hid (wr.ranges Tryz.prog 9 heldV mb rb n D left k) ∧ Hid (LeftK K dn left) ∧ Hid (Adj wr w.heap.size w.heap.size wq (6 * dn.length) (Tp.edges K im dn)) ∧ Hid (Below w.heap.size w wr))
  case atStart => exact ⟨_, [], HRG3, HL0, HA3, HB3⟩
  case round =>
    obtain ⟨left, dn, HRG, HLK, HA, HBR⟩ := hrel
    clear HRG3 HL0 HA3 HB3
    go_wp2_with (first | (at_next; refine wpList_next_ranges _ rfl _ rfl 9 skey heldV (fun x : Bs => .string (bs x)) (fun v : Value => v) (fun key kl h => (skey_inv' h).imp fun _ q => q.1) (fun v _ _ => ⟨v, rfl⟩) mb rb n D left _ rfl HRG.out ?_ ?_))
    · intro _ hdone
      have HDN := Lib.hid (HLK.out.done hdone)
      have HLE : Hid (6 * dn.length ≤ 6 * K.length) := by have := Tp.nodup_le HLK.out.1 HLK.out.2.1; show _ ≤ _; omega
      clear hdone
      go_wp2_with fail
      go_ret2
      exact ⟨_, _, dn, rfl, HLK.out.1, HDN.out, HA.out.mono HLE.out, HBR.out⟩
    · intro x cv kl y1 y2 w9 cnt' hkey hlk hR hat hrg9 hlt9 hg9 hs9 hen
      obtain ⟨x', hx1, hx2⟩ := skey_inv' hkey
      have hxx : x = x' := by injection hx1 with hx1; rw [← bs_toList x, ← bs_toList x', hx1]
      subst hxx
      rw [hx2] at hat hlk hrg9
      cases hR
      have hfx := range_entry' HD.out hat
      obtain ⟨hxK, hxn, hLK2⟩ := HLK.out.next hlk
      obtain ⟨nm, ia, ic, ga, gn, gc, pa, pn, pc, ba, bn, bc, hfm, hst, him6, himl⟩ := HM.out.mod x hxK
      rw [hfm] at hfx
      cases hfx
      have hb9 : Below w.heap.size w w9 := HBR.out.trans ((Below.refl _ _).grown hg9 HBR.out.size (fun k hk => by cases hk; omega))
      have hA9 := HA.out.iter (ranges_iter HRG.out) hg9
      obtain ⟨w10, hw10⟩ : ∃ w10, w10 = w9.alloc (.cells #[.string nm, .slice ia (im x).length ic, .slice ga gn gc, .slice pa pn pc, .slice ba bn bc] 38) := ⟨_, rfl⟩
      have hb910 : Below w9.heap.size w9 w10 := by rw [hw10]; exact (Below.refl _ _).alloc (Nat.le_refl _) _
      have hk10 : w10.heap[w9.heap.size]? = some (.cells #[.string nm, .slice ia (im x).length ic, .slice ga gn gc, .slice pa pn pc, .slice ba bn bc] 38 (0, 0)) := by rw [hw10]; exact new_blk _ _
      have k1 : w10.cell? ⟨w9.heap.size, 1, none⟩ = some (.slice ia (im x).length ic) := (cell_blk hk10).trans rfl
      have hl10 := lt_blk hk10
      have HB10 : Hid (Below w.heap.size w w10) := hb9.trans (hb910.mono hb9.size)
      have HA10 : Hid (Adj w10 w.heap.size w.heap.size wq (6 * dn.length + 0) (edT K im dn x 0)) := by rw [edT_zero]; exact hA9.on hb910
      have hrl9 : rb < w9.heap.size := by have := hrg9.lt; exact this
      have hml9 : mb < w9.heap.size := by have := hb9.size; omega
      have HRG10 := Lib.hid (ranges_keep hrg9 (hb910.block mb hml9) (hb910.block rb hrl9))
      have HLK2 := Lib.hid hLK2
      have HXK := Lib.hid hxK
      have HST := Lib.hid hst
      have HIML := Lib.hid himl
      have hdnl : dn.length ≤ 100 := by have := Tp.nodup_le HLK.out.1 HLK.out.2.1; omega
      have HDS := Lib.hid HLK.out.2.1
      have him6' : ((im x).length : Int) ≤ 6 := by omega
      have HXL := Lib.hid (HM.out.kl x hxK)
      obtain ⟨ln, hln⟩ : ∃ ln, ln = (im x).length := ⟨_, rfl⟩
      rw [← hln] at k1 him6 him6'
      have HLN := Lib.hid hln
      clear hkey hlk hat hrg9 hg9 hs9 hfm hst himl hb9 hA9 hb910 hk10 hxn hLK2 hx1 hx2 HRG HA HBR HLK hrl9 hml9
      rw [← hln] at hw10 hen ⊢
      clear hln
      go_upto_region 5 with fail
      rw [← hw10]
      clear hw10 hen
      go_wp2_with fail
      clear k1 hl10
      go_loopg [22] ln (fun k vi wr => ∃ i : Nat, i ≤ ln ∧ k = ln - i ∧ vi = .int .i64 (i : Int) ∧ Hid (Adj wr w.heap.size w.heap.size wq (6 * dn.length + i) (edT K im dn x i)) ∧ Hid (wr.ranges Tryz.prog 9 heldV mb rb n D (fun z => left z && !z.sameKey (.string x)) cnt') ∧ Hid (Below w.heap.size w wr))
      case atStart => exact ⟨0, by omega, by omega, rfl, HA10, HRG10, HB10⟩
      case round =>
        obtain ⟨i, hid, hk, rfl, HAr, HRr, HBr⟩ := hrel
        clear HA10 HRG10 HB10
        by_cases hlt : i < ln
        · have hlt' : (i : Int) < (ln : Int) := by omega
          have hi0 : ¬ (i : Int) < 0 := by omega
          have hil : i < (im x).length := by have := HLN.out; omega
          obtain ⟨g, o, hga, hgl, hc⟩ := (HST.out.on HBr.out).c i hil
          subst hga
          have hyl := HIML.out _ (List.getElem_mem hil)
          have hMr := HM.out.on HBr.out
          have hlk := hMr.m.look (t := 25) Tryz.underlying25 (zeroMod' wr) (im x)[i] hyl true
          simp only [if_true] at hlk
          have HIN : Hid ((im x)[i] ∈ K → edT K im dn x (i + 1) = edT K im dn x i ++ [((im x)[i], x)]) := fun q => edT_in hil q
          have HOUT : Hid ((im x)[i] ∉ K → edT K im dn x (i + 1) = edT K im dn x i) := fun q => edT_out hil q
          have HEL : Hid ((edT K im dn x i).length ≤ 606) := by have := edT_len (i := i) HH6.out HDS.out HXK.out; show _ ≤ _; omega
          have hrlr := HRr.out.lt
          have hmlr := hMr.m.lt
          generalize (im x)[i] = y at *
          by_cases hyK : y ∈ K
          · obtain ⟨nm2, ja, jc, ga2, gn2, gc2, pa2, pn2, pc2, ba2, bn2, bc2, hfm2, _⟩ := hMr.mod y hyK
            rw [hfm2] at hlk
            simp only [Option.getD_some, Option.isSome_some] at hlk
            obtain ⟨w11, hw11⟩ : ∃ w11, w11 = wr.alloc (.cells #[.string nm2, .slice ja (im y).length jc, .slice ga2 gn2 gc2, .slice pa2 pn2 pc2, .slice ba2 bn2 bc2] 38) := ⟨_, rfl⟩
            have hb11 : Below wr.heap.size wr w11 := by rw [hw11]; exact (Below.refl _ _).alloc (Nat.le_refl _) _
            have HEE := Lib.hid (HIN.out hyK)
            obtain ⟨E, hE⟩ : ∃ E, E = edT K im dn x i := ⟨_, rfl⟩
            rw [← hE] at HAr HEE HEL
            obtain ⟨ni, nw, fi, fw, hni, hnw, hI, hW⟩ := (HAr.out.on hb11).c
            have hlk2 := hI.m.look (t := 70) Tryz.underlying70 (zeroStrs' w11) y hyl false
            simp only [Bool.false_eq_true, if_false] at hlk2
            have hrow := hI.row y
            obtain ⟨va, vc, hv⟩ := owns_shape hrow
            rw [hv] at hlk2
            have hbl : (Tp.byE E y).length ≤ 606 := Nat.le_trans (byE_len _ _) HEL.out
            obtain ⟨bl, hbq⟩ : ∃ bl, bl = (Tp.byE E y).length := ⟨_, rfl⟩
            obtain ⟨w12, hw12⟩ : ∃ w12, w12 = w11.alloc (.cells #[.string (bs x)] 9) := ⟨_, rfl⟩
            have hb12 : Below w11.heap.size w11 w12 := by rw [hw12]; exact (Below.refl _ _).alloc (Nat.le_refl _) _
            have hk12 : w12.heap[w11.heap.size]? = some (.cells #[.string (bs x)] 9 (0, 0)) := by rw [hw12]; exact new_blk _ _
            have HS12 : Hid (w12.heap.size = w11.heap.size + 1) := by show _ = _; rw [hw12]; simp
            have HI12 := Lib.hid (hI.on hb12)
            have HW12 := Lib.hid (hW.on (hb12.block _ hW.m.lt))
            have HROW : Hid (w12.ownsRow w.heap.size 9 1 (.slice va bl vc) bl (strs (Tp.byE E y))) := by
              have := HI12.out.row y
              rw [hv, ← hbq] at this
              exact this
            have HNEWS : Hid (∀ j u, [Value.string (bs x)][j]? = some u → w12.cell? ((⟨w11.heap.size, 0, none⟩ : Addr).add j) = some u) := fun j u hj => by
              rw [Addr.add_lit]
              cases j with
              | zero => simp at hj; subst hj; exact (cell_blk hk12).trans rfl
              | succ j => simp at hj
            have HV := Lib.hid hv
            have HB12 : Hid (Below wr.heap.size wr w12) := hb11.trans (hb12.mono hb11.size)
            have hs12 := HB12.out.size
            have hsr := HBr.out.size
            have HBQ := Lib.hid hbq
            rw [← hbq] at hlk2 hbl
            have HYL := Lib.hid hyl
            have HNI := Lib.hid hni
            have HNW := Lib.hid hnw
            clear hb11 hb12 hk12 hI hW hrow hv hbq hE hni hnw hyl hMr hfm2 HIN HOUT
            go_upto_region 9 with fail
            rw [← hw11]
            clear hw11 hlk
            rw [hw12] at HROW HNEWS
            go_wp2_with (at_builtin; refine wpList_append_where _ rfl _ _ 22 rfl w.heap.size 9 i1 (.string ⟨#[]⟩) 1 16 Tryz.underlying22 hi hz0 hz1 hz2 rfl (by decide) _ bl _ rfl HROW.out ⟨w11.heap.size, 0, none⟩ 1 1 [.string (bs x)] rfl rfl HNEWS.out (by intro u hu; simp at hu; subst hu; rfl) (by unfold maxLen; omega) (by omega) (by rw [← hw12]; omega) ?_)
            rw [← hw12]
            intro v' w13 h13 g13 l13
            have hvv : (fi y).getD (.slice none 0 0) = .slice va bl vc := by rw [HBQ.out]; exact HV.out
            rw [← hvv] at g13 l13
            have hM13 : MapV w13 w.heap.size ni fi := HI12.out.m.on (g13.block _ HI12.out.m.lt (fun e => own_ne_map (HI12.out.row y) HI12.out.m e.symm))
            have hW13 := HW12.out.on (g13.block _ HW12.out.m.lt (fun e => own_ne_map (HI12.out.row y) HW12.out.m e.symm))
            have HM13 := Lib.hid hM13
            have HG13 := Lib.hid g13
            have HL13 := Lib.hid l13
            have HO13 := Lib.hid h13
            have HW13 := Lib.hid hW13
            have HVV := Lib.hid hvv
            clear h13 g13 l13 hM13 hW13 hlk2 hvv HROW HNEWS hw12
            go_wp2_with (at_mapUpdate; refine wpList_mapUpdate_v' _ rfl _ _ _ 70 rfl _ Tryz.underlying70 w.heap.size ni fi HM13.out (by have := HNI.out; omega) y HYL.out _ rfl rfl rfl ?_; intro w14 q1 q2 q3)
            have HI14 : Hid (AdjI w14 w.heap.size w.heap.size (ni + 1) (E ++ [(y, x)]) (updV fi y v')) := HI12.out.put (m := bl + 1) (by rw [HBQ.out]) HO13.out HG13.out (fun g hg => (HL13.out g hg).imp id (fun z => by rw [HS12.out]; exact z)) q1 q2
            have hW14 := HW13.out.on (q2.block _ HW13.out.m.lt (by omega))
            have hlk3 := hW14.m.look (t := 65) Tryz.underlying65 (zeroInt' w14) x HXL.out false
            simp only [Bool.false_eq_true, if_false] at hlk3
            rw [hW14.val x] at hlk3
            have hcw : (Tp.waitE E x : Int) ≤ 606 := by have := Nat.le_trans (waitE_len E x) HEL.out; omega
            have hcw0 : (0 : Int) ≤ (Tp.waitE E x : Int) := by omega
            obtain ⟨cw, hcq⟩ : ∃ cw : Int, cw = (Tp.waitE E x : Int) := ⟨_, rfl⟩
            rw [← hcq] at hlk3 hcw hcw0
            have HCQ := Lib.hid hcq
            have hr12 : w12.heap[rb]? = wr.heap[rb]? := HB12.out.block rb hrlr
            have hit12 : ∃ a b c d, w12.heap[rb]? = some (.mapIter a b c d) := by rw [hr12]; exact ranges_iter HRr.out
            have HR14 : Hid (w14.heap[rb]? = wr.heap[rb]?) := (q2.block rb (by have := HG13.out.size; omega) (by omega)).trans ((HG13.out.block rb (by omega) (fun e => own_ne_iter (HI12.out.row y) hit12 e.symm)).trans hr12)
            have HB14 : Hid (Below w.heap.size w w14) := ((HBr.out.trans (HB12.out.mono hsr)).trans ((Below.refl _ _).grown HG13.out (by omega) (fun k hk => ((HI12.out.row y).lt k hk).1))).trans (ext_below q2 (Nat.le_refl _) (by have := HG13.out.size; omega))
            have HW14 := Lib.hid hW14
            have hs14 : rb < w14.heap.size := by have := HG13.out.size; have := q2.size; omega
            clear q1 q2 q3 hW14 hcq hr12 hit12 HM13 HG13 HL13 HO13 HW13
            go_wp2_with fail
            rw [hlk3]
            go_wp2_with (at_mapUpdate; refine wpList_mapUpdate_v' _ rfl _ _ _ 65 rfl _ Tryz.underlying65 wq nw fw HW14.out.m (by have := HNW.out; omega) x HXL.out _ rfl rfl rfl ?_; intro w15 r1 r2 r3)
            have HB15 : Hid (Below w.heap.size w w15) := HB14.out.trans (ext_below r2 (by omega) HB14.out.size)
            have hAW := HW14.out.put (c := Tp.waitE E x + 1) (by have := HCQ.out; omega) r1
            rw [← waitE_put E y x] at hAW
            have HA15 : Hid (Adj w15 w.heap.size w.heap.size wq (6 * dn.length + (i + 1)) (edT K im dn x (i + 1))) := by
              show Adj _ _ _ _ _ _
              rw [HEE.out]
              exact ⟨⟨ni + 1, nw + 1, _, _, by have := HNI.out; omega, by have := HNW.out; omega, HI14.out.ext HW14.out.m (by omega) r2, hAW⟩, Nat.le_refl _, by omega, by omega⟩
            have HR15 : Hid (w15.ranges Tryz.prog 9 heldV mb rb n D (fun z => left z && !z.sameKey (.string x)) cnt') := ranges_keep HRr.out ((HB15.out.block mb hml).trans (HBr.out.block mb hml).symm) ((r2.block rb hs14 (by omega)).trans HR14.out)
            clear r1 r2 r3 hlk3 hAW
            go_wp2_with fail
            go_roundg (ln - (i + 1))
            case measure => omega
            case rel => exact ⟨i + 1, by omega, rfl, by go_num, HA15, HR15, HB15⟩
          · have hfn : f y = none := by
              cases hq : f y with
              | none => rfl
              | some u => exact absurd ((HM.out.key y).2 (by rw [hq]; rfl)) hyK
            rw [hfn] at hlk
            simp only [Option.getD_none, Option.isSome_none] at hlk
            obtain ⟨w11, hw11⟩ : ∃ w11, w11 = wr.alloc (.cells #[.string ⟨#[]⟩, .slice none 0 0, .slice none 0 0, .slice none 0 0, .slice none 0 0] 38) := ⟨_, rfl⟩
            have hb11 : Below wr.heap.size wr w11 := by rw [hw11]; exact (Below.refl _ _).alloc (Nat.le_refl _) _
            have HB11 : Hid (Below w.heap.size w w11) := HBr.out.trans (hb11.mono HBr.out.size)
            have HA11 : Hid (Adj w11 w.heap.size w.heap.size wq (6 * dn.length + (i + 1)) (edT K im dn x (i + 1))) := by
              show Adj _ _ _ _ _ _
              rw [HOUT.out hyK]
              exact (HAr.out.on hb11).mono (by omega)
            have HR11 := Lib.hid (ranges_keep HRr.out (hb11.block mb hmlr) (hb11.block rb hrlr))
            clear hb11 hMr HIN HOUT hfn HAr HRr
            go_upto_region 9 with fail
            rw [← hw11]
            clear hw11 hlk
            go_wp2_with fail
            go_roundg (ln - (i + 1))
            case measure => omega
            case rel => exact ⟨i + 1, by omega, rfl, by go_num, HA11, HR11, HB11⟩
        · have hlt' : ¬ (i : Int) < (ln : Int) := by omega
          have HAe : Hid (Adj wr w.heap.size w.heap.size wq (6 * (dn ++ [x]).length) (Tp.edges K im (dn ++ [x]))) := by
            have e : i = (im x).length := by have := HLN.out; omega
            have := HAr.out
            rw [e, edT_all] at this
            exact this.mono (by have := HLN.out; simp; omega)
          go_wp2_with fail
          go_roundg cnt'
          case measure => exact hlt9
          case rel => exact ⟨_, dn ++ [x], HRr, HLK2, HAe, HBr⟩
end Go.Proofs.YtadgeapgoggljaaGreatDoor
/- Chapter 9: Order: what its loops keep. -/
namespace Go.Proofs.YtadgeapgoggljaaGreatDoor
open Go.RowKit Go.Maps
open Tp (Bs)

theorem ext_then {b B : Nat} {w w' w'' : World} (h : Ext b w w') (k : Below B w' w'') (hB : w.heap.size ≤ B) : Ext b w w'' :=
  ⟨k.os.trans h.os, k.tape.trans h.tape, k.output.trans h.output, Nat.le_trans h.size k.size, fun i hi hn => (k.block i (by omega)).trans (h.block i hi hn)⟩
theorem Rdy.ne_iter {w : World} {rb r : Nat} {U : Nat → Prop} {l : List Bs} (h : Rdy w rb U l) (hr : ∃ a b c d, w.heap[r]? = some (.mapIter a b c d)) : ¬ U r := by
  obtain ⟨v, h1, h2, h3, _⟩ := h
  intro q
  rcases (h3 r).1 q with rfl | q
  · obtain ⟨_, _, _, _, h4⟩ := hr
    rw [h1] at h4
    cases h4
  · exact own_ne_iter h2 hr q
theorem Rdy.ne_map {w : World} {rb b n : Nat} {U : Nat → Prop} {l : List Bs} {f : Bs → Option Value} (h : Rdy w rb U l) (hm : MapV w b n f) : ¬ U b := by
  obtain ⟨v, h1, h2, h3, _⟩ := h
  intro q
  rcases (h3 b).1 q with rfl | q
  · obtain ⟨_, _, h4⟩ := hm.isMap'
    rw [h1] at h4
    cases h4
  · exact own_ne_map h2 hm q
theorem own_strsAt {w : World} {B : Nat} {a : Option Addr} {c : Nat} {l : List Bs} {m : Nat} (h : w.ownsRow B 9 1 (.slice a m c) l.length (strs l)) : StrsAt w l a := ⟨fun i hi => by
  rcases h.2 with ⟨e, q⟩ | ⟨g, cap, cur, e, q1, q2, q3, q4, q5, q6⟩
  · omega
  · injection e with e1 e2 e3
    refine ⟨g, 0, e1, lt_blk q2, ?_⟩
    rw [cell_blk q2, Nat.zero_add]
    have : (cur.toList.take (l.length * 1))[i]? = some (.string (bs l[i])) := by rw [q6]; simp [strs, List.getElem?_eq_getElem hi]
    rw [List.getElem?_take_of_lt (by omega)] at this
    simpa using this⟩
/- the number of entries, as len tells it -/
theorem mods_size {w : World} {mb n : Nat} {f : Bs → Option Value} {K : List Bs} {im : Bs → List Bs} (h : Mods w mb n f K im) (ty : TypeId) : (Builtin.len_ #[25] ty #[.map (some mb)]).run Tryz.prog w = .ok (.int .i64 (K.length : Int)) w := by
  obtain ⟨D, h1, hD⟩ := h.m.own
  obtain ⟨K2, k1, k2, k3, _⟩ := own_keys h1 hD
  have e : K.length = K2.length := Nat.le_antisymm (Tp.nodup_le h.nd (fun x hx => (k2 x).2 ((h.key x).1 hx))) (Tp.nodup_le k1 (fun x hx => (h.key x).2 ((k2 x).1 hx)))
  have := h1.len (t := 25) Tryz.underlying25 ty
  rw [k3, ← e] at this
  exact this
/- in the loops: w1 is the world behind importsThere -/
structure Lp (w1 wr : World) (wq nb nw : Nat) (W : Bs → Nat) (fw : Bs → Option Value) (U : Nat → Prop) (R : List Bs) : Prop where
  x : Ext wq w1 wr
  q : AdjW wr wq nw W fw
  r : Rdy wr nb U R
  u : ∀ b, U b → w1.heap.size ≤ b
theorem Lp.on {w1 wr w' : World} {wq nb nw : Nat} {W : Bs → Nat} {fw : Bs → Option Value} {U : Nat → Prop} {R : List Bs} (h : Lp w1 wr wq nb nw W fw U R) (k : Below wr.heap.size wr w') : Lp w1 w' wq nb nw W fw U R :=
  ⟨ext_then h.x k h.x.size, h.q.on (k.block _ h.q.m.lt), h.r.on k, h.u⟩
/- what is ready has changed -/
theorem Lp.turn {w1 wr w' : World} {wq nb nw : Nat} {W : Bs → Nat} {fw : Bs → Option Value} {U U' : Nat → Prop} {R R' : List Bs} (h : Lp w1 wr wq nb nw W fw U R) (hr : Rdy w' nb U' R') (t : Tr U U' wr w') : Lp w1 w' wq nb nw W fw U' R' :=
  ⟨ext_then h.x (t.toBelow h.x.size h.u) (Nat.le_refl _), h.q.on (t.block _ h.q.m.lt (h.r.ne_map h.q.m)), hr, fun b hb => (t.more b hb).elim (h.u b) (fun q => Nat.le_trans h.x.size q)⟩
/- one waits for one less -/
theorem Lp.less {w1 wr w' : World} {wq nb nw : Nat} {W : Bs → Nat} {fw : Bs → Option Value} {U : Nat → Prop} {R : List Bs} (h : Lp w1 wr wq nb nw W fw U R) {x : Bs} {v : Int} (hv : v = ((W x - 1 : Nat) : Int)) (hf : MapV w' wq (nw + 1) (updV fw x (.int .i64 v))) (k : Ext wq wr w') : Lp w1 w' wq nb (nw + 1) (fun y => if y = x then W x - 1 else W y) (updV fw x (.int .i64 v)) U R :=
  ⟨h.x.trans k, h.q.put hv hf, h.r.keep (fun b hb => k.block b (h.r.lt hb) (fun e => h.r.ne_map h.q.m (e ▸ hb))), h.u⟩
/- an iterator went on -/
theorem Lp.iter {w1 wr w' : World} {wq nb nw r : Nat} {W : Bs → Nat} {fw : Bs → Option Value} {U : Nat → Prop} {R : List Bs} (h : Lp w1 wr wq nb nw W fw U R) (hr : ∃ a b c d, wr.heap[r]? = some (.mapIter a b c d)) (hr1 : w1.heap.size ≤ r) (k : wr.grownBy w' (some r)) : Lp w1 w' wq nb nw W fw U R := by
  have key : ∀ b, b < wr.heap.size → b ≠ r → w'.heap[b]? = wr.heap[b]? := fun b hb hn => k.block b hb (fun e => hn (by injection e))
  refine ⟨⟨k.os.trans h.x.os, k.tape.trans h.x.tape, k.output.trans h.x.output, Nat.le_trans h.x.size k.size, fun b hb hn => (key b (Nat.lt_of_lt_of_le hb h.x.size) (by omega)).trans (h.x.block b hb hn)⟩, h.q.on (key _ h.q.m.lt (map_ne_iter h.q.m hr)), h.r.keep (fun b hb => key b (h.r.lt hb) (fun e => h.r.ne_iter hr (e ▸ hb))), h.u⟩
theorem filt_yes {d R R' : List Bs} {x : Bs} {p : Bs → Bool} (h : R.Perm (d.filter p)) (hp : p x = true) (k : R'.Perm (x :: R)) : R'.Perm ((d ++ [x]).filter p) := by
  have e : [x].filter p = [x] := by simp [hp]
  rw [List.filter_append, e]
  exact k.trans ((List.Perm.cons x h).trans (List.perm_append_singleton x _).symm)
theorem filt_no {d R : List Bs} {x : Bs} {p : Bs → Bool} (h : R.Perm (d.filter p)) (hp : p x = false) : R.Perm ((d ++ [x]).filter p) := by
  have e : [x].filter p = [] := by simp [hp]
  rw [List.filter_append, e, List.append_nil]
  exact h
/- a row of one's own has grown -/
theorem Lp.grown {w1 wr w' : World} {wq nb nw m : Nat} {W : Bs → Nat} {fw : Bs → Option Value} {U : Nat → Prop} {R : List Bs} {v : Value} {xs : List Value} (h : Lp w1 wr wq nb nw W fw U R) (ho : wr.ownsRow w1.heap.size 9 1 v m xs) (hd : ∀ b, U b → v.ownBlock ≠ some b) (g : wr.grownBy w' v.ownBlock) : Lp w1 w' wq nb nw W fw U R := by
  have key : ∀ b, b < wr.heap.size → v.ownBlock ≠ some b → w'.heap[b]? = wr.heap[b]? := fun b hb hn => g.block b hb (fun e => hn e.symm)
  refine ⟨⟨g.os.trans h.x.os, g.tape.trans h.x.tape, g.output.trans h.x.output, Nat.le_trans h.x.size g.size, fun b hb hn => (key b (Nat.lt_of_lt_of_le hb h.x.size) (fun e => by have := (ho.lt b e).1; omega)).trans (h.x.block b hb hn)⟩, h.q.on (key _ h.q.m.lt (own_ne_map ho h.q.m)), h.r.keep (fun b hb => key b (h.r.lt hb) (hd b hb)), h.u⟩
/- the row of those that were told -/
def Told (w1 wr : World) (U : Nat → Prop) (v : Value) (T : List Bs) : Prop := wr.ownsRow w1.heap.size 9 1 v T.length (strs T) ∧ ∀ b, U b → v.ownBlock ≠ some b
theorem Told.turn {w1 wr w' : World} {U U' : Nat → Prop} {v : Value} {T : List Bs} (h : Told w1 wr U v T) (t : Tr U U' wr w') : Told w1 w' U' v T :=
  ⟨owns_keep h.1 (fun b _ hl q => t.block b hl (fun u => h.2 b u q)), fun b hb q => (t.more b hb).elim (fun u => h.2 b u q) (fun z => by have := (h.1.lt b q).2; omega)⟩
theorem Told.on {w1 wr w' : World} {U : Nat → Prop} {v : Value} {T : List Bs} (h : Told w1 wr U v T) (k : Below wr.heap.size wr w') : Told w1 w' U v T := h.turn (Tr.below k)
theorem Told.ext {w1 wr w' : World} {U : Nat → Prop} {v : Value} {T : List Bs} {b n : Nat} {f : Bs → Option Value} (h : Told w1 wr U v T) (hm : MapV wr b n f) (k : Ext b wr w') : Told w1 w' U v T :=
  ⟨owns_keep h.1 (fun c _ hl q => k.block c hl (fun e => own_ne_map h.1 hm (e ▸ q))), h.2⟩
theorem Told.more {w1 wr w' : World} {U : Nat → Prop} {v v' : Value} {T : List Bs} {x : Bs} {m : Nat} (h : Told w1 wr U v T) (hU : ∀ b, U b → b < wr.heap.size) (hm : m = T.length + 1) (ho : w'.ownsRow w1.heap.size 9 1 v' m (strs T ++ [.string (bs x)])) (hl : ∀ g, v'.ownBlock = some g → v.ownBlock = some g ∨ wr.heap.size ≤ g) : Told w1 w' U v' (T ++ [x]) := by
  refine ⟨?_, fun b hb q => (hl b q).elim (h.2 b hb) (fun z => by have := hU b hb; omega)⟩
  have e : (T ++ [x]).length = m := by simp; omega
  rw [e, ← strs_snoc']
  exact ho
end Go.Proofs.YtadgeapgoggljaaGreatDoor
