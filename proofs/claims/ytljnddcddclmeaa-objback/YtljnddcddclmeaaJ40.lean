/- An object that is handed in, as it lies in memory. -/
import Derived.Test.YtljnddcddclmeaaJ35
import Derived.Deep.Fields
import Derived.Deep.Slices
import Derived.Deep.Strs
namespace Go.Proofs.Ytljnddcddclmeaa
open Go.RowKit
open Ob (Bs)
open Go.Deep

section
variable {H : Type} {enc : TypeId × Value → H} {P : Program} {w : World} {base : Nat} {spare : Nat → Bool} {held : Bool}
theorem each_list {α : Type} {P : Nat → α → Prop} : ∀ (n : Nat), (∀ i, i < n → ∃ x, P i x) → ∃ l : List α, l.length = n ∧ ∀ i (h : i < l.length), P i l[i] := by
  intro n
  induction n with
  | zero => intro _; exact ⟨[], rfl, fun i h => by simp at h⟩
  | succ n ih =>
    intro h
    obtain ⟨l, h1, h2⟩ := ih (fun i hi => h i (by omega))
    obtain ⟨x, hx⟩ := h n (by omega)
    refine ⟨l ++ [x], by simp [h1], fun i hi => ?_⟩
    by_cases hil : i < l.length
    · rw [List.getElem_append_left hil]; exact h2 i hil
    · have : i = l.length := by simp at hi; omega
      subst this
      rw [List.getElem_append_right (by omega)]
      simp only [Nat.sub_self, List.getElem_cons_zero]
      rw [h1]; exact hx
theorem sl_of {α : Type} {c : α → List Value} {k : Nat} (hc : ∀ x, (c x).length = k) (hk : 0 < k) {a : Option Addr} {cap : Nat} {l : List α} (h : ∀ i (hi : i < l.length) r, r < k → ∃ b o, a = some ⟨b, o, none⟩ ∧ w.cell? ⟨b, o + (i * k + r), none⟩ = (c l[i])[r]?) : Sl w (.slice a l.length cap) k l.length (cellsOf c l) := by
  refine ⟨a, cap, rfl, cellsOf_len hc l, fun j u hj => ?_⟩
  have hjl := (List.getElem?_eq_some_iff.1 hj).1
  rw [cellsOf_len hc] at hjl
  have hi : j / k < l.length := by rw [Nat.div_lt_iff_lt_mul hk]; exact hjl
  have hr : j % k < k := Nat.mod_lt _ hk
  have e : j / k * k + j % k = j := by rw [Nat.mul_comm]; exact Nat.div_add_mod j k
  obtain ⟨b, o, h1, h2⟩ := h (j / k) hi (j % k) hr
  refine ⟨b, o, h1, ?_⟩
  rw [e] at h2
  rw [h2, ← cellsOf_get hc l (j / k) (j % k) hi hr, e]
  exact hj
/- a slice of structs, each field one cell -/
theorem open_rows {t e : TypeId} {fs : Array Field} {fuel : Nat} {cs : List Value} {x : DataW H × List MemPlace} (ht : P.underlying t = some (.slice e)) (he : P.underlying e = some (.struct fs))
    (hone : ∀ (i : Nat) (f : Field), fs[i]? = some f → f.offset = i ∧ P.cellsOf f.type = 1) (hC : P.cellsOf e = fs.size) (hpos : 0 < fs.size) (h : DataW.trod enc P w base spare held fuel t cs = some x) :
    ∃ (a : Option Addr) (len cap : Nat), cs = [.slice a len cap] ∧ ∀ i, i < len → ∃ (b o n : Nat) (V : Nat → Value), a = some ⟨b, o, none⟩ ∧
      ∀ (j : Nat) (f : Field), fs[j]? = some f → w.cell? ⟨b, o + (i * fs.size + j), none⟩ = some (V j) ∧ ∃ y, DataW.trod enc P w base spare held n f.type [V j] = some y := by
  rcases open_slice ht h with ⟨rfl, _⟩ | ⟨a, len, cap, m, n, D, Pl, rfl, hb, hlc, hcm, hm, _, hall⟩
  · exact ⟨none, 0, 0, rfl, fun i hi => by omega⟩
  · refine ⟨some a, len, cap, rfl, fun i hi => ?_⟩
    have him : i < m := by rw [hm]; split <;> omega
    have hspot : a.spot = none := by
      obtain ⟨cs0, g1, g2⟩ := hall 0 (by omega)
      obtain ⟨_, hlen0, hcell0⟩ := World.cells?_some g1
      rw [hC] at hlen0 hcell0
      have h0 := hcell0 0 hpos
      rw [List.getElem?_eq_getElem (by omega)] at h0
      simpa [Addr.add] using World.cell?_spot h0
    obtain ⟨cs', h1, h2⟩ := hall i him
    obtain ⟨_, hlen, hcell⟩ := World.cells?_some h1
    rw [hC] at hlen hcell
    obtain ⟨xs, n', _, _, _, hxl, hf⟩ := DataW.trod_struct he h2
    obtain ⟨b, o, spot⟩ := a
    simp only at hspot
    subst hspot
    refine ⟨b, o, n', fun j => cs'.getD j undef, rfl, fun j f hj => ?_⟩
    have hjl : j < fs.size := (Array.getElem?_eq_some_iff.1 hj).1
    obtain ⟨ho, hone1⟩ := hone j f hj
    have hcj := hcell j hjl
    rw [List.getElem?_eq_getElem (by omega)] at hcj
    have hV : cs'.getD j undef = cs'[j]'(by omega) := by simp [List.getD, List.getElem?_eq_getElem (show j < cs'.length by omega)]
    have hfj := hf j f hj
    rw [ho, hone1] at hfj
    have hdt : (cs'.drop j).take 1 = [cs'[j]'(by omega)] := by
      rw [List.drop_eq_getElem_cons (by omega)]; rfl
    rw [hdt, List.getElem?_eq_getElem (by omega)] at hfj
    refine ⟨?_, _, by simp only [hV]; exact hfj⟩
    simp only [hV]
    rw [← hcj, Addr.add_lit, Addr.add_lit, Nat.add_assoc]
theorem open_str {t : TypeId} {fuel : Nat} {v : Value} {x : DataW H × List MemPlace} (ht : P.underlying t = some .string) (h : DataW.trod enc P w base spare held fuel t [v] = some x) : ∃ s : Bs, v = .string (bs s) := by
  obtain ⟨s, h1, _⟩ := DataW.trod_string ht h
  simp at h1
  exact ⟨s.data.toList, by rw [h1, bs_data]⟩
theorem open_i64 {t : TypeId} {fuel : Nat} {v : Value} {x : DataW H × List MemPlace} (ht : P.underlying t = some (.int .i64)) (h : DataW.trod enc P w base spare held fuel t [v] = some x) : ∃ n : Int, v = .int .i64 n ∧ Ob.I64 n := by
  obtain ⟨n, h1, _, h3⟩ := DataW.trod_int ht h
  simp at h1
  refine ⟨n, h1, ?_⟩
  simp only [Lit.wf, IntKind.min, IntKind.max, IntKind.signed, IntKind.bits, Bool.and_eq_true, decide_eq_true_eq, if_true] at h3
  unfold Ob.I64
  omega
theorem open_bool {t : TypeId} {fuel : Nat} {v : Value} {x : DataW H × List MemPlace} (ht : P.underlying t = some .bool) (h : DataW.trod enc P w base spare held fuel t [v] = some x) : ∃ b : Bool, v = .bool b := by
  obtain ⟨b, h1, _⟩ := DataW.trod_bool ht h
  simp at h1
  exact ⟨b, h1⟩
/- names -/
theorem open_names {t e : TypeId} {fuel : Nat} {v : Value} {x : DataW H × List MemPlace} (ht : P.underlying t = some (.slice e)) (he : P.underlying e = some .string) (hc : P.cellsOf e = 1) (h : DataW.trod enc P w base spare held fuel t [v] = some x) :
    ∃ (ns : List Bs) (a : Option Addr) (cap : Nat), v = .slice a ns.length cap ∧ Sl w (.slice a ns.length cap) 1 ns.length (cellsOf stC ns) := by
  rcases open_strs ht he hc h with ⟨h1, _⟩ | ⟨a, len, cap, m, Sx, h1, _, hlc, _, hm, _, hall⟩
  · simp at h1
    exact ⟨[], none, 0, h1, ⟨_, _, rfl, by simp [cellsOf], fun j u hj => by simp [cellsOf] at hj⟩⟩
  · simp at h1
    obtain ⟨l, hl, hp⟩ := each_list (P := fun i (s : Bs) => ∃ b o, a = ⟨b, o, none⟩ ∧ w.cell? ⟨b, o + i, none⟩ = some (.string (bs s))) len (fun i hi => by
      have him : i < m := by rw [hm]; split <;> omega
      obtain ⟨hc1, _⟩ := hall i him
      obtain ⟨hc0, _⟩ := hall 0 (by omega)
      obtain ⟨b, o, spot⟩ := a
      have hspot : spot = none := by simpa [Addr.add] using World.cell?_spot hc0
      subst hspot
      exact ⟨(Sx i).data.toList, b, o, rfl, by rw [bs_data, ← hc1, Addr.add_lit]⟩)
    refine ⟨l, some a, cap, by rw [h1, hl], sl_of stC_len (by omega) (fun i hi r hr => ?_)⟩
    obtain ⟨b, o, rfl, hcell⟩ := hp i hi
    obtain rfl : r = 0 := by omega
    exact ⟨b, o, rfl, by rw [Nat.mul_one, Nat.add_zero]; exact hcell⟩
theorem repN_of : ∀ (l : List (Ob.Us × Value)), (∀ x ∈ l, Sl w x.2 1 x.1.names.length (cellsOf stC x.1.names)) → RepN w (l.map (·.1)) (cellsOf (fun x : Ob.Us × Value => [.string (bs x.1.name), .string (bs x.1.need), x.2]) l) := by
  intro l
  induction l with
  | nil => intro _; exact rfl
  | cons x l ih => intro h; exact ⟨x.2, _, rfl, h x (by simp), ih (fun y hy => h y (by simp [hy]))⟩
end
theorem two_of (P : Nat → Prop) (h0 : P 0) (h1 : P 1) (h2 : P 2) : ∀ r, r < 3 → P r := by
  intro r hr
  match r, hr with
  | 0, _ => exact h0
  | 1, _ => exact h1
  | 2, _ => exact h2
theorem open_object {H : Type} {enc : TypeId × Value → H} {w : World} {base : Nat} {spare : Nat → Bool} {held : Bool} {fuel : Nat} {v : Value} {x : DataW H × List MemPlace} (h : DataW.trod enc Try.prog w base spare held fuel 22 [v] = some x) :
    ∃ p, v = .pointer p ∧ (p = none ∨ ∃ b o O, p = some ⟨b, o, none⟩ ∧ OA w b o O ∧ ∀ x ∈ O.code, Ob.I64 x.a) := by
  rcases open_ptr_fields Try.underlying22 Try.underlying42 (hone_of (by kernel_rfl)) (by kernel_rfl) (by decide) h with ⟨h1, _⟩ | ⟨b, o, n, V, Y, h1, _, _, hf⟩
  · simp at h1
    exact ⟨none, h1, Or.inl rfl⟩
  · simp at h1
    refine ⟨_, h1, Or.inr ?_⟩
    obtain ⟨c0, t0⟩ := hf 0 _ rfl
    obtain ⟨c1, t1⟩ := hf 1 _ rfl
    obtain ⟨c2, t2⟩ := hf 2 _ rfl
    obtain ⟨c3, t3⟩ := hf 3 _ rfl
    obtain ⟨c4, t4⟩ := hf 4 _ rfl
    obtain ⟨c5, t5⟩ := hf 5 _ rfl
    obtain ⟨c6, t6⟩ := hf 6 _ rfl
    obtain ⟨nm, hnm⟩ := open_str Try.underlying9 t0
    -- what others see
    obtain ⟨sa, sl, sc, hs, hsr⟩ := open_rows Try.underlying36 Try.underlying53 (hone_of (by kernel_rfl)) (by kernel_rfl) (by decide) t1
    obtain ⟨ss, hsl, hsp⟩ := each_list (P := fun i (s : Ob.Sm) => ∃ b o, sa = some ⟨b, o, none⟩ ∧ ∀ r, r < 3 → w.cell? ⟨b, o + (i * 3 + r), none⟩ = (smC s)[r]?) sl (fun i hi => by
      obtain ⟨b, o, n', U, he, hj⟩ := hsr i hi
      obtain ⟨k0, y0, q0⟩ := hj 0 _ rfl
      obtain ⟨k1, y1, q1⟩ := hj 1 _ rfl
      obtain ⟨k2, y2, q2⟩ := hj 2 _ rfl
      obtain ⟨s0, e0⟩ := open_str Try.underlying9 q0
      obtain ⟨n1, e1, _⟩ := open_i64 Try.underlying3 q1
      obtain ⟨n2, e2, _⟩ := open_i64 Try.underlying3 q2
      exact ⟨⟨s0, n1, n2⟩, b, o, he, two_of _ (by rw [e0] at k0; exact k0) (by rw [e1] at k1; exact k1) (by rw [e2] at k2; exact k2)⟩)
    -- what is used
    obtain ⟨ua, ul, uc, hu, hur⟩ := open_rows Try.underlying37 Try.underlying61 (hone_of (by kernel_rfl)) (by kernel_rfl) (by decide) t2
    obtain ⟨us, hul, hup⟩ := each_list (P := fun i (s : Ob.Us × Value) => Sl w s.2 1 s.1.names.length (cellsOf stC s.1.names) ∧ ∃ b o, ua = some ⟨b, o, none⟩ ∧ ∀ r, r < 3 → w.cell? ⟨b, o + (i * 3 + r), none⟩ = [Value.string (bs s.1.name), Value.string (bs s.1.need), s.2][r]?) ul (fun i hi => by
      obtain ⟨b, o, n', U, he, hj⟩ := hur i hi
      obtain ⟨k0, y0, q0⟩ := hj 0 _ rfl
      obtain ⟨k1, y1, q1⟩ := hj 1 _ rfl
      obtain ⟨k2, y2, q2⟩ := hj 2 _ rfl
      obtain ⟨s0, e0⟩ := open_str Try.underlying9 q0
      obtain ⟨s1, e1⟩ := open_str Try.underlying9 q1
      obtain ⟨ns, a', cap', e2, e3⟩ := open_names Try.underlying39 Try.underlying9 (by kernel_rfl) q2
      exact ⟨(⟨s0, s1, ns⟩, .slice a' ns.length cap'), e3, b, o, he, two_of _ (by rw [e0] at k0; exact k0) (by rw [e1] at k1; exact k1) (by rw [e2] at k2; exact k2)⟩)
    -- variables
    obtain ⟨va, vl, vc, hv, hvr⟩ := open_rows Try.underlying38 Try.underlying57 (hone_of (by kernel_rfl)) (by kernel_rfl) (by decide) t3
    obtain ⟨vs, hvl, hvp⟩ := each_list (P := fun i (s : Ob.Gl) => ∃ b o, va = some ⟨b, o, none⟩ ∧ ∀ r, r < 4 → w.cell? ⟨b, o + (i * 4 + r), none⟩ = (glC s)[r]?) vl (fun i hi => by
      obtain ⟨b, o, n', U, he, hj⟩ := hvr i hi
      obtain ⟨k0, y0, q0⟩ := hj 0 _ rfl
      obtain ⟨k1, y1, q1⟩ := hj 1 _ rfl
      obtain ⟨k2, y2, q2⟩ := hj 2 _ rfl
      obtain ⟨k3, y3, q3⟩ := hj 3 _ rfl
      obtain ⟨s0, e0⟩ := open_str Try.underlying9 q0
      obtain ⟨n1, e1, _⟩ := open_i64 Try.underlying3 q1
      obtain ⟨n2, e2, _⟩ := open_i64 Try.underlying3 q2
      obtain ⟨b3, e3⟩ := open_bool Try.underlying4 q3
      refine ⟨⟨s0, n1, n2, b3⟩, b, o, he, fun r hr => ?_⟩
      match r, hr with
      | 0, _ => rw [e0] at k0; exact k0
      | 1, _ => rw [e1] at k1; exact k1
      | 2, _ => rw [e2] at k2; exact k2
      | 3, _ => rw [e3] at k3; exact k3)
    -- procedures
    obtain ⟨pa, pl, pc, hp, hpr⟩ := open_rows Try.underlying33 Try.underlying35 (hone_of (by kernel_rfl)) (by kernel_rfl) (by decide) t4
    obtain ⟨ps, hpl, hpp⟩ := each_list (P := fun i (s : Ob.En) => ∃ b o, pa = some ⟨b, o, none⟩ ∧ ∀ r, r < 3 → w.cell? ⟨b, o + (i * 3 + r), none⟩ = (enC s)[r]?) pl (fun i hi => by
      obtain ⟨b, o, n', U, he, hj⟩ := hpr i hi
      obtain ⟨k0, y0, q0⟩ := hj 0 _ rfl
      obtain ⟨k1, y1, q1⟩ := hj 1 _ rfl
      obtain ⟨k2, y2, q2⟩ := hj 2 _ rfl
      obtain ⟨n0, e0, _⟩ := open_i64 Try.underlying3 q0
      obtain ⟨n1, e1, _⟩ := open_i64 Try.underlying3 q1
      obtain ⟨n2, e2, _⟩ := open_i64 Try.underlying3 q2
      exact ⟨⟨n0, n1, n2⟩, b, o, he, two_of _ (by rw [e0] at k0; exact k0) (by rw [e1] at k1; exact k1) (by rw [e2] at k2; exact k2)⟩)
    -- names
    obtain ⟨ns, na, nc, hn, hnS⟩ := open_names Try.underlying39 Try.underlying9 (by kernel_rfl) t5
    -- code
    obtain ⟨ca, cl, cc, hc, hcr⟩ := open_rows Try.underlying40 Try.underlying45 (hone_of (by kernel_rfl)) (by kernel_rfl) (by decide) t6
    obtain ⟨cs, hcl, hcp⟩ := each_list (P := fun i (s : Ob.In) => Ob.I64 s.a ∧ ∃ b o, ca = some ⟨b, o, none⟩ ∧ ∀ r, r < 3 → w.cell? ⟨b, o + (i * 3 + r), none⟩ = (inC s)[r]?) cl (fun i hi => by
      obtain ⟨b, o, n', U, he, hj⟩ := hcr i hi
      obtain ⟨k0, y0, q0⟩ := hj 0 _ rfl
      obtain ⟨k1, y1, q1⟩ := hj 1 _ rfl
      obtain ⟨k2, y2, q2⟩ := hj 2 _ rfl
      obtain ⟨n0, e0, _⟩ := open_i64 Try.underlying3 q0
      obtain ⟨n1, e1, r1⟩ := open_i64 Try.underlying2 q1
      obtain ⟨n2, e2, _⟩ := open_i64 Try.underlying2 q2
      exact ⟨⟨n0, n1, n2⟩, r1, b, o, he, two_of _ (by rw [e0] at k0; exact k0) (by rw [e1] at k1; exact k1) (by rw [e2] at k2; exact k2)⟩)
    simp at hs hu hv hp hc
    rw [hnm] at c0
    rw [hs, ← hsl] at c1
    rw [hu, ← hul] at c2
    rw [hv, ← hvl] at c3
    rw [hp, ← hpl] at c4
    rw [hn] at c5
    rw [hc, ← hcl] at c6
    have hul' : (us.map (·.1)).length = us.length := by simp
    refine ⟨b, o, ⟨nm, ss, us.map (·.1), vs, ps, ns, cs⟩, rfl, ⟨sa, ua, va, pa, na, ca, sc, uc, vc, pc, nc, cc, ⟨c0, c1, by rw [hul']; exact c2, c3, c4, c5, c6, ?_, ?_, ?_, ?_, hnS, ?_⟩⟩, ?_⟩
    · exact sl_of smC_len (by omega) (fun i hi r hr => by obtain ⟨b, o, he, hall⟩ := hsp i hi; exact ⟨b, o, he, hall r hr⟩)
    · refine ⟨_, repN_of us (fun x hx => by obtain ⟨i, hi, rfl⟩ := List.getElem_of_mem hx; exact (hup i hi).1), ?_⟩
      rw [hul']
      exact sl_of (c := fun x : Ob.Us × Value => [.string (bs x.1.name), .string (bs x.1.need), x.2]) (fun _ => rfl) (by omega) (fun i hi r hr => by obtain ⟨_, b, o, he, hall⟩ := hup i hi; exact ⟨b, o, he, hall r hr⟩)
    · exact sl_of glC_len (by omega) (fun i hi r hr => by obtain ⟨b, o, he, hall⟩ := hvp i hi; exact ⟨b, o, he, hall r hr⟩)
    · exact sl_of enC_len (by omega) (fun i hi r hr => by obtain ⟨b, o, he, hall⟩ := hpp i hi; exact ⟨b, o, he, hall r hr⟩)
    · exact sl_of inC_len (by omega) (fun i hi r hr => by obtain ⟨_, b, o, he, hall⟩ := hcp i hi; exact ⟨b, o, he, hall r hr⟩)
    · intro x hx
      obtain ⟨i, hi, rfl⟩ := List.getElem_of_mem hx
      exact (hcp i hi).1
end Go.Proofs.Ytljnddcddclmeaa
