/- An object in memory, to be read; names are written. -/
import Derived.Test.YtljnddcddclmeaaJ14
namespace Go.Proofs.Ytljnddcddclmeaa
open Go.RowKit
open Ob (Bs)

/- a slice's cells, wherever they lie -/
def Sl (w : World) (v : Value) (k n : Nat) (cs : List Value) : Prop := ∃ a c, v = .slice a n c ∧ cs.length = n * k ∧ ∀ j u, cs[j]? = some u → ∃ b o, a = some ⟨b, o, none⟩ ∧ w.cell? ⟨b, o + j, none⟩ = some u
theorem Sl.below {w w' : World} {v : Value} {k n : Nat} {cs : List Value} (h : Sl w v k n cs) (hb : Below w.heap.size w w') : Sl w' v k n cs := by
  obtain ⟨a, c, h1, h2, h3⟩ := h
  refine ⟨a, c, h1, h2, fun j u hj => ?_⟩
  obtain ⟨b, o, e, hc⟩ := h3 j u hj
  exact ⟨b, o, e, (hb.cell (p := ⟨b, o + j, none⟩) (lt_of_cell hc)).trans hc⟩
theorem cellsOf_len {α : Type} {c : α → List Value} {k : Nat} (hc : ∀ x, (c x).length = k) (l : List α) : (cellsOf c l).length = l.length * k := by
  induction l with
  | nil => simp [cellsOf]
  | cons x l ih =>
    unfold cellsOf at ih ⊢
    rw [List.map_cons, List.flatten_cons, List.length_append, hc, ih, List.length_cons, Nat.add_mul]; omega
theorem cellsOf_get {α : Type} {c : α → List Value} {k : Nat} (hc : ∀ x, (c x).length = k) : ∀ (l : List α) (i j : Nat) (hi : i < l.length), j < k → (cellsOf c l)[i * k + j]? = (c l[i])[j]? := by
  intro l
  induction l with
  | nil => intro i j hi; simp at hi
  | cons x l ih =>
    intro i j hi hj
    have e : cellsOf c (x :: l) = c x ++ cellsOf c l := rfl
    cases i with
    | zero =>
      rw [e, Nat.zero_mul, Nat.zero_add, List.getElem?_append_left (by rw [hc]; exact hj)]
      rfl
    | succ i =>
      rw [e, List.getElem?_append_right (by rw [hc, Nat.add_mul]; omega), hc, show (i + 1) * k + j - k = i * k + j by rw [Nat.add_mul]; omega, ih i j (by simpa using hi) hj]
      rfl
theorem Sl.at' {α : Type} {c : α → List Value} {k : Nat} (hc : ∀ x, (c x).length = k) (hk : 0 < k) {w : World} {a : Option Addr} {cap n : Nat} {l : List α} (h : Sl w (.slice a n cap) k l.length (cellsOf c l)) (i : Nat) (hi : i < l.length) :
    ∃ b o, a = some ⟨b, o, none⟩ ∧ b < w.heap.size ∧ ∀ j u, (c l[i])[j]? = some u → w.cell? ⟨b, o + (i * k + j), none⟩ = some u := by
  obtain ⟨a', c', h1, h2, h3⟩ := h
  cases h1
  have h0 : ∃ u, (c l[i])[0]? = some u := ⟨_, List.getElem?_eq_getElem (by rw [hc]; exact hk)⟩
  obtain ⟨u0, hu0⟩ := h0
  obtain ⟨b, o, e, hc0⟩ := h3 (i * k + 0) u0 (by rw [cellsOf_get hc l i 0 hi hk]; exact hu0)
  refine ⟨b, o, e, lt_of_cell hc0, fun j u hj => ?_⟩
  have hjk : j < k := by rw [← hc l[i]]; exact (List.getElem?_eq_some_iff.1 hj).1
  obtain ⟨b', o', e', hc'⟩ := h3 (i * k + j) u (by rw [cellsOf_get hc l i j hi hjk]; exact hj)
  rw [e] at e'
  cases e'
  exact hc'
theorem Row.sl {w : World} {D : Nat → Prop} {e k n : Nat} {v : Value} {cs : List Value} (h : Row w D e k v n cs) : Sl w v k n cs := by
  rcases h with ⟨rfl, rfl, rfl⟩ | ⟨g, cap, cur, rfl, _, h3, h4, _, h6, h7⟩
  · exact ⟨_, _, rfl, by simp, fun j u hj => by simp at hj⟩
  · have hl : cs.length = n * k := by rw [← h7, List.length_take]; simp; rw [h6]; exact Nat.min_eq_left (Nat.mul_le_mul_right _ h4)
    refine ⟨_, _, rfl, hl, fun j u hj => ⟨g, 0, rfl, ?_⟩⟩
    rw [cell_blk h3, Nat.zero_add, ← Array.getElem?_toList, ← hj, ← h7, List.getElem?_take_of_lt]
    have := (List.getElem?_eq_some_iff.1 hj).1
    omega
def RepN (w : World) : List Ob.Us → List Value → Prop
  | [], cs => cs = []
  | u :: l, cs => ∃ (nv : Value) (cs' : List Value), cs = [.string (bs u.name), .string (bs u.need), nv] ++ cs' ∧ Sl w nv 1 u.names.length (cellsOf stC u.names) ∧ RepN w l cs'
theorem RepN.below {w w' : World} (hb : Below w.heap.size w w') : ∀ (l : List Ob.Us) (cs : List Value), RepN w l cs → RepN w' l cs := by
  intro l
  induction l with
  | nil => intro cs h; exact h
  | cons c l ih =>
    intro cs h
    obtain ⟨nv, cs', h1, h2, h3⟩ := h
    exact ⟨nv, cs', h1, h2.below hb, ih cs' h3⟩
theorem RepU.repN {w : World} {D : Nat → Prop} : ∀ (l : List Ob.Us) (cs : List Value), RepU w D l cs → RepN w l cs := by
  intro l
  induction l with
  | nil => intro cs h; exact h
  | cons c l ih =>
    intro cs h
    obtain ⟨nv, cs', h1, h2, h3⟩ := h
    exact ⟨nv, cs', h1, h2.sl, ih cs' h3⟩
theorem RepN.get {w : World} : ∀ (l : List Ob.Us) (cs : List Value), RepN w l cs → ∀ (i : Nat) (hi : i < l.length), ∃ na nc, cs[i * 3]? = some (.string (bs l[i].name)) ∧ cs[i * 3 + 1]? = some (.string (bs l[i].need)) ∧ cs[i * 3 + 2]? = some (.slice na l[i].names.length nc) ∧ Sl w (.slice na l[i].names.length nc) 1 l[i].names.length (cellsOf stC l[i].names) := by
  intro l
  induction l with
  | nil => intro cs h i hi; simp at hi
  | cons c l ih =>
    intro cs h i hi
    obtain ⟨nv, cs', rfl, h2, h3⟩ := h
    cases i with
    | zero =>
      obtain ⟨na, nc, hv, _⟩ := id h2
      subst hv
      exact ⟨na, nc, rfl, rfl, rfl, h2⟩
    | succ i =>
      obtain ⟨na, nc, k0, k1, k2, k3⟩ := ih cs' h3 i (by simpa using hi)
      have e : ∀ j, ([Value.string (bs c.name), Value.string (bs c.need), nv] ++ cs')[(i + 1) * 3 + j]? = cs'[i * 3 + j]? := fun j => by
        rw [List.getElem?_append_right (by simp; omega)]
        congr 1
        simp; omega
      exact ⟨na, nc, (e 0).trans k0, (e 1).trans k1, (e 2).trans k2, k3⟩
/- an object -/
structure OV (w : World) (b o : Nat) (O : Ob.O) (sa ua va pa na ca : Option Addr) (sc uc vc pc nc cc : Nat) : Prop where
  c0 : w.cell? ⟨b, o, none⟩ = some (.string (bs O.name))
  c1 : w.cell? ⟨b, o + 1, none⟩ = some (.slice sa O.syms.length sc)
  c2 : w.cell? ⟨b, o + 2, none⟩ = some (.slice ua O.uses.length uc)
  c3 : w.cell? ⟨b, o + 3, none⟩ = some (.slice va O.vars.length vc)
  c4 : w.cell? ⟨b, o + 4, none⟩ = some (.slice pa O.procs.length pc)
  c5 : w.cell? ⟨b, o + 5, none⟩ = some (.slice na O.names.length nc)
  c6 : w.cell? ⟨b, o + 6, none⟩ = some (.slice ca O.code.length cc)
  s : Sl w (.slice sa O.syms.length sc) 3 O.syms.length (cellsOf smC O.syms)
  u : ∃ ucs, RepN w O.uses ucs ∧ Sl w (.slice ua O.uses.length uc) 3 O.uses.length ucs
  v : Sl w (.slice va O.vars.length vc) 4 O.vars.length (cellsOf glC O.vars)
  p : Sl w (.slice pa O.procs.length pc) 3 O.procs.length (cellsOf enC O.procs)
  n : Sl w (.slice na O.names.length nc) 1 O.names.length (cellsOf stC O.names)
  c : Sl w (.slice ca O.code.length cc) 3 O.code.length (cellsOf inC O.code)
def OA (w : World) (b o : Nat) (O : Ob.O) : Prop := ∃ sa ua va pa na ca sc uc vc pc nc cc, OV w b o O sa ua va pa na ca sc uc vc pc nc cc
theorem OV.below {w w' : World} {b o : Nat} {O : Ob.O} {sa ua va pa na ca : Option Addr} {sc uc vc pc nc cc : Nat} (h : OV w b o O sa ua va pa na ca sc uc vc pc nc cc) (k : Below w.heap.size w w') : OV w' b o O sa ua va pa na ca sc uc vc pc nc cc := by
  have hb := lt_of_cell h.c0
  have e : ∀ j, w'.cell? ⟨b, j, none⟩ = w.cell? ⟨b, j, none⟩ := fun j => k.cell (p := ⟨b, j, none⟩) hb
  exact ⟨(e _).trans h.c0, (e _).trans h.c1, (e _).trans h.c2, (e _).trans h.c3, (e _).trans h.c4, (e _).trans h.c5, (e _).trans h.c6, h.s.below k, let ⟨ucs, h1, h2⟩ := h.u; ⟨ucs, RepN.below k _ _ h1, h2.below k⟩, h.v.below k, h.p.below k, h.n.below k, h.c.below k⟩
theorem OA.below {w w' : World} {b o : Nat} {O : Ob.O} (h : OA w b o O) (k : Below w.heap.size w w') : OA w' b o O := by
  obtain ⟨sa, ua, va, pa, na, ca, sc, uc, vc, pc, nc, cc, h⟩ := h
  exact ⟨sa, ua, va, pa, na, ca, sc, uc, vc, pc, nc, cc, h.below k⟩
theorem VOb.oa {B : Nat} {O : Ob.O} {a : Addr} {w : World} (h : VOb B O (.pointer (some a)) w) : ∃ ob, a = ⟨ob, 0, none⟩ ∧ B ≤ ob ∧ OA w ob 0 O := by
  obtain ⟨ob, C, sv, uv, vv, pv, nv, cv, h1, h2, h3, h4, h5, h6, h7⟩ := h
  cases h1
  have hs := h5.s.sl
  obtain ⟨ucs, hu1, hu2⟩ := h5.u
  have hu := hu2.sl
  have hv := h5.v.sl
  have hn := h5.n.sl
  have hp := h6.sl
  have hc := h7.sl
  obtain ⟨sa, sc, rfl, _⟩ := id hs
  obtain ⟨ua, uc, rfl, _⟩ := id hu
  obtain ⟨va, vc, rfl, _⟩ := id hv
  obtain ⟨na, nc, rfl, _⟩ := id hn
  obtain ⟨pa, pc, rfl, _⟩ := id hp
  obtain ⟨ca, cc, rfl, _⟩ := id hc
  refine ⟨ob, rfl, h2, sa, ua, va, pa, na, ca, sc, uc, vc, pc, nc, cc, ⟨(cell_blk h4).trans rfl, (cell_blk h4).trans rfl, (cell_blk h4).trans rfl, (cell_blk h4).trans rfl, (cell_blk h4).trans rfl, (cell_blk h4).trans rfl, (cell_blk h4).trans rfl, hs, ⟨ucs, RepU.repN _ _ hu1, hu⟩, hv, hp, hn, hc⟩⟩
theorem Wst.toBelow {w w' : World} {wb B : Nat} {v v' : Value} {l : Bs} (h : Wst w wb v l) (k : Wr wb w v w' v') (hB : B ≤ wb) : Below B w w' :=
  (k.toBelow (by have := h.le; omega) (fun g hg => by have := owns_row h.own g hg; omega)).mono hB
theorem stC_len (s : Bs) : (stC s).length = 1 := rfl
theorem smC_len (s : Ob.Sm) : (smC s).length = 3 := rfl
theorem glC_len (s : Ob.Gl) : (glC s).length = 4 := rfl
theorem enC_len (s : Ob.En) : (enC s).length = 3 := rfl
theorem inC_len (s : Ob.In) : (inC s).length = 3 := rfl
theorem txt_len {s : Bs} (h : s.length ≤ 1000000) : (Ob.txt s).length ≤ 10 + s.length := by
  have := num_len (n := (s.length : Int)) (by unfold Ob.I64; omega)
  unfold Ob.txt; rw [List.length_append]; omega
set_option maxRecDepth 100000 in
set_option maxHeartbeats 1000000 in
theorem names_w {w0 w : World} {wb : Nat} {v : Value} {l : Bs} {a : Option Addr} {cap : Nat} (h : Wst w wb v l) (ns : List Bs) (hS : Sl w0 (.slice a ns.length cap) 1 ns.length (cellsOf stC ns)) (hb0 : Below w0.heap.size w0 w) (hw0 : w0.heap.size ≤ wb) (hn : ns.length ≤ 100) (hs : ∀ s ∈ ns, s.length ≤ 10) (hl : l.length ≤ 800000) :
    Calls Try.prog 45 #[.pointer (some ⟨wb, 0, none⟩), .slice a ns.length cap] w (Wrote wb w v (l ++ Ob.lst Ob.txt ns)) := by
  have HN := Lib.hid hs
  have HSL := Lib.hid hS
  have HB0 := Lib.hid hb0
  have HC := Lib.hid (many_w h (ns.length : Int) (by unfold Ob.I64; omega) (by omega))
  have HNL := Lib.hid (num_len (n := (ns.length : Int)) (by unfold Ob.I64; omega))
  have HTX : Hid (l ++ Ob.lst Ob.txt ns = l ++ Ob.num (ns.length : Int) ++ (ns.map Ob.txt).flatten) := by show _ = _; simp [Ob.lst]
  rw [HTX.out]
  have HH := Lib.hid h
  clear h HTX hs hS hb0
  go_enter Try.func45, Try.ntmps45
  go_wp2_with fail
  refine HC.out.mono ?_
  rintro e w1 ⟨rfl, v1, h1, h2⟩
  have HL : Hid ((l ++ Ob.num (ns.length : Int)).length ≤ 800010) := by have := HNL.out; show _ ≤ _; simp only [List.length_append]; omega
  generalize l ++ Ob.num (ns.length : Int) = m at *
  have HS1 := Lib.hid h1
  have HW1 := Lib.hid h2
  clear h1 h2 HC
  go_wp2_with fail
  go_loopg [12] ns.length (fun k vi wr => ∃ (i : Nat) (v' : Value), i ≤ ns.length ∧ k = ns.length - i ∧ vi = .int .i64 (i : Int) ∧ Hid (Wst wr wb v' (m ++ ((ns.take i).map Ob.txt).flatten)) ∧ Hid (Wr wb w v wr v') ∧ Hid ((m ++ ((ns.take i).map Ob.txt).flatten).length ≤ 800010 + 20 * i))
  case atStart => exact ⟨0, v1, by omega, by omega, rfl, by simpa using HS1, HW1, by simpa using HL⟩
  case round =>
    obtain ⟨i, v2, hid, hk, rfl, HST, HW, HLL⟩ := hrel
    clear HS1 HW1 HL
    by_cases hlt : i < ns.length
    · have hlt' : (i : Int) < (ns.length : Int) := by omega
      obtain ⟨b, o, rfl, hbl, hcell⟩ := HSL.out.at' stC_len (by omega) i hlt
      have hc0 := hcell 0 _ rfl
      rw [Nat.mul_one, Nat.add_zero] at hc0
      have hbw : Below w0.heap.size w0 wr := HB0.out.trans ((HH.out.toBelow HW.out hw0))
      have hc : wr.cell? ⟨b, o + i, none⟩ = some (.string (bs ns[i])) := (hbw.cell (p := ⟨b, o + i, none⟩) hbl).trans hc0
      have hx := HN.out ns[i] (List.getElem_mem hlt)
      have hsn : m ++ ((ns.take i).map Ob.txt).flatten ++ Ob.txt ns[i] = m ++ ((ns.take (i + 1)).map Ob.txt).flatten := by
        rw [List.take_succ_eq_append_getElem hlt, List.map_append, List.flatten_append, List.append_assoc]; simp
      have HSN := Lib.hid hsn
      have hbl' : b < wr.heap.size := lt_of_cell hc
      generalize ns[i] = x at *
      have HC := Lib.hid (text_w HST.out x (by have := HLL.out; omega))
      clear hcell hc0 hbw hsn
      go_wp2_with fail
      refine HC.out.mono ?_
      rintro e w2 ⟨rfl, v3, h3, h4⟩
      have HST3 : Hid (Wst w2 wb v3 (m ++ ((ns.take (i + 1)).map Ob.txt).flatten)) := by rw [← HSN.out]; exact h3
      have HW3 := Lib.hid (HW.out.trans h4)
      have HL3 : Hid ((m ++ ((ns.take (i + 1)).map Ob.txt).flatten).length ≤ 800010 + 20 * (i + 1)) := by
        rw [← HSN.out]
        have := HLL.out
        have h5 := txt_len (s := x) (by omega)
        show _ ≤ _
        rw [List.length_append]
        omega
      clear h3 h4 HC HST HW HLL HSN hc hbl'
      go_wp2_with fail
      go_roundg (ns.length - (i + 1))
      case measure => omega
      case rel => exact ⟨i + 1, v3, by omega, rfl, by go_num, HST3, HW3, HL3⟩
    · have hlt' : ¬ (i : Int) < (ns.length : Int) := by omega
      have hei : i = ns.length := by omega
      have HF : Hid (Wst wr wb v2 (m ++ (ns.map Ob.txt).flatten)) := by rw [hei, List.take_length] at HST; exact HST
      clear HST hei
      go_wp2_with fail
      exact bodyPost_end (results_none rfl _ _ _) rfl ⟨rfl, v2, HF.out, HW.out⟩
end Go.Proofs.Ytljnddcddclmeaa
