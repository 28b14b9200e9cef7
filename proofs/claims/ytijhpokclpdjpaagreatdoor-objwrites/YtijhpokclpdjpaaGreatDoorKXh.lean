import Derived.Test.YtijhpokclpdjpaaGreatDoorKXd
import Derived.Test.YtijhpokclpdjpaaGreatDoorKXg
import Derived.Test.YtijhpokclpdjpaaGreatDoorKXa
import Derived.Test.YtijhpokclpdjpaaGreatDoorKJf
import Derived.Test.YtijhpokclpdjpaaGreatDoorKJh
/- The document's own Read: how its parts go together. -/
namespace Go.Proofs.YtijhpokclpdjpaaGreatDoor
open Go.RowKit
open Ob (Bs)
theorem listT_any {α : Type} {one : Ob.Rd α} {st2 st' : Option Bs} {n : Int} {ys : List α} (hv : ∀ y r, st2.bind Ob.numT = some (y, r) → y = n) (hd : (((st2.bind Ob.numT).map (·.2)).bind (Ob.repR one n.toNat)).map (·.2) = st') (hy : ∀ zs r, ((st2.bind Ob.numT).map (·.2)).bind (Ob.repR one n.toNat) = some (zs, r) → zs = ys) :
    (st2.bind (Ob.listT one)).map (·.2) = st' ∧ ∀ zs r, st2.bind (Ob.listT one) = some (zs, r) → zs = ys := by
  cases st2 with
  | none => exact ⟨hd, fun zs r h => by cases h⟩
  | some l =>
    simp only [Option.bind_some] at *
    unfold Ob.listT
    rcases h1 : Ob.numT l with _ | ⟨m, r3⟩
    · rw [h1] at hd
      exact ⟨hd, fun zs r h => by cases h⟩
    · have e1 := hv m r3 h1
      rw [h1] at hd hy
      simp only [Option.map_some, Option.bind_some] at *
      rw [e1]
      exact ⟨hd, hy⟩
/- a stage: what comes of a reader behind others -/
def Stage {α : Type} (p : Ob.Rd α) (s : Option Bs) (s' : Option Bs) (x : α) : Prop := (s.bind p).map (·.2) = s' ∧ ∀ y r, s.bind p = some (y, r) → y = x
theorem obT_stages {l nm : Bs} {ss : List Ob.Sm} {us : List Ob.Us} {vs : List Ob.Gl} {ns : List Bs} {ps : List Ob.En} {cs : List Ob.In} {s1 s2 s3 s4 s5 s6 s7 : Option Bs} (h1 : Stage Ob.txtT (some l) s1 nm) (h2 : Stage (Ob.listT Ob.symT) s1 s2 ss) (h3 : Stage (Ob.listT Ob.useT) s2 s3 us) (h4 : Stage (Ob.listT Ob.glT) s3 s4 vs) (h5 : Stage (Ob.listT Ob.txtT) s4 s5 ns) (h6 : Stage (Ob.repR Ob.enT ns.length) s5 s6 ps) (h7 : Stage (Ob.listT Ob.inT) s6 s7 cs) :
    Stage Ob.obT (some l) s7 ⟨nm, ss, us, vs, ps, ns, cs⟩ := by
  obtain ⟨a1, b1⟩ := h1
  obtain ⟨a2, b2⟩ := h2
  obtain ⟨a3, b3⟩ := h3
  obtain ⟨a4, b4⟩ := h4
  obtain ⟨a5, b5⟩ := h5
  obtain ⟨a6, b6⟩ := h6
  obtain ⟨a7, b7⟩ := h7
  have nn : ∀ {α : Type} (p : Ob.Rd α), (none : Option Bs).bind p = none := fun p => rfl
  unfold Stage
  simp only [Option.bind_some] at *
  unfold Ob.obT
  rcases c1 : Ob.txtT l with _ | ⟨x1, r1⟩
  · rw [c1] at a1; subst a1
    simp only [nn, Option.map_none] at a2; subst a2
    simp only [nn, Option.map_none] at a3; subst a3
    simp only [nn, Option.map_none] at a4; subst a4
    simp only [nn, Option.map_none] at a5; subst a5
    simp only [nn, Option.map_none] at a6; subst a6
    simp only [nn, Option.map_none] at a7; subst a7
    exact ⟨rfl, fun y r h => by cases h⟩
  · rw [c1] at a1; have e1 := b1 _ _ c1; simp only [Option.map_some] at a1; subst a1
    simp only [Option.bind_some] at *
    rcases c2 : Ob.listT Ob.symT r1 with _ | ⟨x2, r2⟩
    · rw [c2] at a2; simp only [Option.map_none] at a2; subst a2
      simp only [nn, Option.map_none] at a3; subst a3
      simp only [nn, Option.map_none] at a4; subst a4
      simp only [nn, Option.map_none] at a5; subst a5
      simp only [nn, Option.map_none] at a6; subst a6
      simp only [nn, Option.map_none] at a7; subst a7
      exact ⟨rfl, fun y r h => by cases h⟩
    · rw [c2] at a2; have e2 := b2 _ _ c2; simp only [Option.map_some] at a2; subst a2
      simp only [Option.bind_some] at *
      rcases c3 : Ob.listT Ob.useT r2 with _ | ⟨x3, r3⟩
      · rw [c3] at a3; simp only [Option.map_none] at a3; subst a3
        simp only [nn, Option.map_none] at a4; subst a4
        simp only [nn, Option.map_none] at a5; subst a5
        simp only [nn, Option.map_none] at a6; subst a6
        simp only [nn, Option.map_none] at a7; subst a7
        exact ⟨rfl, fun y r h => by cases h⟩
      · rw [c3] at a3; have e3 := b3 _ _ c3; simp only [Option.map_some] at a3; subst a3
        simp only [Option.bind_some] at *
        rcases c4 : Ob.listT Ob.glT r3 with _ | ⟨x4, r4⟩
        · rw [c4] at a4; simp only [Option.map_none] at a4; subst a4
          simp only [nn, Option.map_none] at a5; subst a5
          simp only [nn, Option.map_none] at a6; subst a6
          simp only [nn, Option.map_none] at a7; subst a7
          exact ⟨rfl, fun y r h => by cases h⟩
        · rw [c4] at a4; have e4 := b4 _ _ c4; simp only [Option.map_some] at a4; subst a4
          simp only [Option.bind_some] at *
          rcases c5 : Ob.listT Ob.txtT r4 with _ | ⟨x5, r5⟩
          · rw [c5] at a5; simp only [Option.map_none] at a5; subst a5
            simp only [nn, Option.map_none] at a6; subst a6
            simp only [nn, Option.map_none] at a7; subst a7
            exact ⟨rfl, fun y r h => by cases h⟩
          · rw [c5] at a5; have e5 := b5 _ _ c5; simp only [Option.map_some] at a5; subst a5
            simp only [Option.bind_some] at *
            subst e5
            rcases c6 : Ob.repR Ob.enT x5.length r5 with _ | ⟨x6, r6⟩
            · rw [c6] at a6; simp only [Option.map_none] at a6; subst a6
              simp only [nn, Option.map_none] at a7; subst a7
              exact ⟨rfl, fun y r h => by cases h⟩
            · rw [c6] at a6; have e6 := b6 _ _ c6; simp only [Option.map_some] at a6; subst a6
              simp only [Option.bind_some] at *
              rcases c7 : Ob.listT Ob.inT r6 with _ | ⟨x7, r7⟩
              · rw [c7] at a7; simp only [Option.map_none] at a7; subst a7
                exact ⟨rfl, fun y r h => by cases h⟩
              · rw [c7] at a7; have e7 := b7 _ _ c7; simp only [Option.map_some] at a7; subst a7
                refine ⟨rfl, fun y r h => ?_⟩
                cases h
                rw [e1, e2, e3, e4, e6, e7]
/- blocks that hold what was read -/
def Dn (tb ob C : Nat) (b : Nat) : Prop := b < C ∧ b ≠ tb ∧ b ≠ ob
theorem Rs.onto {w0 : World} {tvb ovb tb ob C : Nat} {A A' : World → Prop} {W : World} {cs : List Value} {st : Option Bs} (h : Rs w0 tvb ovb tb ob C A W cs st) (ha : A' W) : Rs w0 tvb ovb tb ob W.heap.size A' W cs st := by
  obtain ⟨q1, q2, q3, q4⟩ := h.l1
  have hC := h.CC
  exact ⟨h.kt, h.ko, h.kb, h.tk, ha, h.bel, h.n1, ⟨by omega, by omega, by omega, by omega⟩, ⟨h.g1.1, h.g1.2.1, h.bel.size⟩, Nat.le_refl _⟩
theorem keepsRow (tb ob C e k : Nat) (v : Value) (n : Nat) (cs : List Value) : Keeps tb ob C (fun Y => Row Y (Dn tb ob C) e k v n cs) := fun _ _ h _ hk => Row.mono (fun b hb _ => ⟨hk b hb.1 hb.2.1 hb.2.2, hb⟩) h
theorem keepsAnd {tb ob C C' : Nat} {A B : World → Prop} (hC : C ≤ C') (hA : Keeps tb ob C A) (hB : Keeps tb ob C' B) : Keeps tb ob C' (fun Y => A Y ∧ B Y) := fun W W' h hc hk => ⟨hA W W' h.1 (Nat.le_trans hC hc) (fun k hk1 h1 h2 => hk k (by omega) h1 h2), hB W W' h.2 hc hk⟩
theorem keepsUses (tb ob C : Nat) (us : List Ob.Us) (v : Value) : Keeps tb ob C (fun Y => ∃ ucs, RepU Y (Dn tb ob C) us ucs ∧ Row Y (Dn tb ob C) 56 3 v us.length ucs) := fun W W' h _ hk => by
  obtain ⟨ucs, h1, h2⟩ := h
  exact ⟨ucs, RepU.mono (fun b hb _ => ⟨hk b hb.1 hb.2.1 hb.2.2, hb⟩) _ _ h1, Row.mono (fun b hb _ => ⟨hk b hb.1 hb.2.1 hb.2.2, hb⟩) h2⟩
theorem rowOf {w0 : World} {tvb ovb tb ob C : Nat} {A : World → Prop} {W : World} {cs0 : List Value} {st : Option Bs} (h : Rs w0 tvb ovb tb ob C A W cs0 st) {e k n : Nat} {v : Value} {cs : List Value} (ho : W.ownsRow C e k v n cs) : Row W (Dn tb ob W.heap.size) e k v n cs :=
  (Row.of_owns ho).mono (fun b hb hl => ⟨rfl, hl, by have := h.l1; omega, by have := h.l1; omega⟩)
theorem usesOf {w0 : World} {tvb ovb tb ob C : Nat} {A : World → Prop} {W : World} {cs0 : List Value} {st : Option Bs} (h : Rs w0 tvb ovb tb ob C A W cs0 st) {v : Value} {us : List Ob.Us} (ho : VUL C us v W) : ∃ ucs, RepU W (Dn tb ob W.heap.size) us ucs ∧ Row W (Dn tb ob W.heap.size) 56 3 v us.length ucs := by
  obtain ⟨ucs, h1, h2⟩ := ho
  exact ⟨ucs, RepU.mono (fun b hb hl => ⟨rfl, hl, by have := h.l1; omega, by have := h.l1; omega⟩) _ _ h1, rowOf h h2⟩
end Go.Proofs.YtijhpokclpdjpaaGreatDoor
/- The document's own: Read. -/
namespace Go.Proofs.YtijhpokclpdjpaaGreatDoor
open Go.RowKit
open Ob (Bs)
def RReadP (l : Bs) (e : Ending) (w' : World) : Prop := match readT l with
  | none => e = .returned (.tuple #[.pointer none, .int .i64 3])
  | some O => ∃ ob, e = .returned (.tuple #[.pointer (some ⟨ob, 0, none⟩), .int .i64 0]) ∧ OA w' ob 0 O
set_option maxRecDepth 100000 in
set_option maxHeartbeats 8000000 in
theorem rread_any (w : World) (l : Bs) (hl : l.length ≤ 999999) : Calls Tryz.prog 12 #[.string (bs l)] w fun e w' => Below w.heap.size w w' ∧ RReadP l e w' := by
  have hmf : ∀ (fn : Fn) (first cap : Array Value) (w : World), (Instr.makeFunc fn first cap).run Tryz.prog w = .ok (.func fn first cap) w := fun _ _ _ _ => rfl
  have HRP : Hid (∀ e w', RReadP l e w' ↔ match readT l with
    | none => e = .returned (.tuple #[.pointer none, .int .i64 3])
    | some O => ∃ ob, e = .returned (.tuple #[.pointer (some ⟨ob, 0, none⟩), .int .i64 0]) ∧ OA w' ob 0 O) := fun e w' => Iff.rfl
  generalize RReadP l = RP at *
  obtain ⟨tb, htb⟩ : ∃ tb, tb = w.heap.size := ⟨_, rfl⟩
  obtain ⟨tvb, htvb⟩ : ∃ tvb, tvb = w.heap.size + 1 := ⟨_, rfl⟩
  obtain ⟨W0, hW0⟩ : ∃ W0, W0 = (w.alloc (.cells #[.string (bs l), .bool false] 76)).alloc (.cells #[.pointer (some ⟨w.heap.size, 0, none⟩)] 74) := ⟨_, rfl⟩
  have hb0 : Below w.heap.size w W0 := by rw [hW0]; exact ((Below.refl _ _).alloc (Nat.le_refl _) _).alloc (by simp) _
  have hkt0 : W0.heap[tvb]? = some (.cells #[.pointer (some ⟨tb, 0, none⟩)] 74 (0, 0)) := by
    rw [hW0, htvb, htb]
    have := new_blk (w.alloc (.cells #[.string (bs l), .bool false] 76)) (.cells #[.pointer (some ⟨w.heap.size, 0, none⟩)] 74)
    simpa using this
  have hktb0 : W0.heap[tb]? = some (.cells #[.string (bs l), .bool false] 76 (0, 0)) := by
    rw [hW0, htb, Below.heap_alloc _ _ _ (by simp)]; exact new_blk _ _
  have htk0 : Tk W0 tb (some l) := ⟨l, hktb0, hl, fun r hr => by cases hr; rfl⟩
  have hsz0 : W0.heap.size = w.heap.size + 2 := by rw [hW0]; simp
  have HC0 := Lib.hid (ttext_any htk0)
  have t0 : W0.cell? ⟨tvb, 0, none⟩ = some (.pointer (some ⟨tb, 0, none⟩)) := cell_blk hkt0
  have HB0 := Lib.hid hb0
  have HKT0 := Lib.hid hkt0
  have HW0 := Lib.hid hW0
  have HTV := Lib.hid htvb
  have HTB := Lib.hid htb
  have HSZ0 := Lib.hid hsz0
  clear hb0 hkt0 hktb0 htk0 hsz0 hW0 hl
  go_enter Tryz.func12, Tryz.ntmps12
  go_wp2_with fail
  rw [← HW0.out, ← htvb, ← htb]
  clear HW0 htvb htb
  refine HC0.out.mono ?_
  rintro e W1 ⟨nm, rfl, hnm, hx1, htk1, hv1⟩
  have HS1 : Hid (Stage Ob.txtT (some l) (((some l).bind Ob.txtT).map (·.2)) nm) := ⟨rfl, hv1⟩
  obtain ⟨s1, hs1⟩ : ∃ s1, s1 = ((some l).bind Ob.txtT).map (·.2) := ⟨_, rfl⟩
  rw [← hs1] at HS1 htk1
  clear hs1
  have hsz1 := hx1.size
  obtain ⟨ob, hob⟩ : ∃ ob, ob = W1.heap.size := ⟨_, rfl⟩
  obtain ⟨ovb, hovb⟩ : ∃ ovb, ovb = W1.heap.size + 1 := ⟨_, rfl⟩
  obtain ⟨W2, hW2⟩ : ∃ W2, W2 = (W1.alloc (.cells #[.string (bs nm), .slice none 0 0, .slice none 0 0, .slice none 0 0, .slice none 0 0, .slice none 0 0, .slice none 0 0] 45)).alloc (.cells #[.pointer (some ⟨W1.heap.size, 0, none⟩)] 22) := ⟨_, rfl⟩
  have hbA : Below W1.heap.size W1 W2 := by rw [hW2]; exact ((Below.refl _ _).alloc (Nat.le_refl _) _).alloc (by simp) _
  have hko2 : W2.heap[ovb]? = some (.cells #[.pointer (some ⟨ob, 0, none⟩)] 22 (0, 0)) := by
    rw [hW2, hovb, hob]
    have := new_blk (W1.alloc (.cells #[.string (bs nm), .slice none 0 0, .slice none 0 0, .slice none 0 0, .slice none 0 0, .slice none 0 0, .slice none 0 0] 45)) (.cells #[.pointer (some ⟨W1.heap.size, 0, none⟩)] 22)
    simpa using this
  have hkb2 : W2.heap[ob]? = some (.cells [Value.string (bs nm), .slice none 0 0, .slice none 0 0, .slice none 0 0, .slice none 0 0, .slice none 0 0, .slice none 0 0].toArray 45 (0, 0)) := by
    rw [hW2, hob, Below.heap_alloc _ _ _ (by simp)]; exact new_blk _ _
  have hsz2 : W2.heap.size = W1.heap.size + 2 := by rw [hW2]; simp
  have hR2 : Rs w tvb ovb tb ob W2.heap.size (fun _ => True) W2 [.string (bs nm), .slice none 0 0, .slice none 0 0, .slice none 0 0, .slice none 0 0, .slice none 0 0, .slice none 0 0] s1 := by
    have e1 := HSZ0.out
    have e2 := HTV.out
    have e3 := HTB.out
    exact ⟨(hbA.block tvb (by omega)).trans ((hx1.block tvb (by omega) (by omega)).trans HKT0.out), hko2, hkb2, htk1.ext hbA, trivial, HB0.out.trans ((hx1.toBelow (by omega) (by omega)).trans (hbA.mono (by omega))), ⟨by omega, by omega, by omega, by omega, by omega⟩, ⟨by omega, by omega, by omega, by omega⟩, ⟨by omega, by omega, by omega⟩, Nat.le_refl _⟩
  have HR := Lib.hid hR2
  have HKp : Hid (Keeps tb ob W2.heap.size (fun _ => True)) := fun _ _ _ _ _ => trivial
  have hK1 : tvb < W1.heap.size := by have := HSZ0.out; have := HTV.out; omega
  have t1 : W1.cell? ⟨tvb, 0, none⟩ = some (.pointer (some ⟨tb, 0, none⟩)) := by rw [World.cell?_of_block (w := W0) (hx1.block tvb (by have := HSZ0.out; have := HTV.out; omega) (by have := HTV.out; have := HTB.out; omega))]; exact t0
  have t2 : W2.cell? ⟨tvb, 0, none⟩ = some (.pointer (some ⟨tb, 0, none⟩)) := cell_blk hR2.kt
  have HW2 := Lib.hid hW2
  have HHOB := Lib.hid hob
  clear hx1 htk1 hv1 hsz1 hbA hko2 hkb2 hsz2 hR2 hW2 HC0 t0
  go_upto_region 3 with fail
  rw [← HW2.out, ← hovb, ← hob]
  clear HW2 hob hovb t1 hK1
  generalize W2 = wc at *
  obtain ⟨A0, hA0⟩ : ∃ AX : World → Prop, AX = (fun _ => True) := ⟨_, rfl⟩
  rw [← hA0] at HR HKp
  have HA0 := Lib.hid hA0
  clear hA0
  obtain ⟨WS, hWS⟩ : ∃ WS, WS = wc := ⟨_, rfl⟩
  rw [← hWS] at HR HKp t2 ⊢
  clear hWS
  have HCT : Hid (∀ (Y : World) (s0 : Option Bs) (n : Int), Rs w tvb ovb tb ob WS.heap.size A0 Y [.string (bs nm), .slice none 0 0, .slice none 0 0, .slice none 0 0, .slice none 0 0, .slice none 0 0, .slice none 0 0] s0 → Ob.I64 n → Calls Tryz.prog 32 #[.pointer (some ⟨tb, 0, none⟩), .int .i64 n, .func (.func 34) #[] #[.pointer (some ⟨tvb, 0, none⟩), .pointer (some ⟨ovb, 0, none⟩)]] Y fun e w' => e = .returned (.tuple #[]) ∧ ∃ k st', JSyms w tvb ovb tb ob WS.heap.size A0 (.string (bs nm)) (.slice none 0 0) (.slice none 0 0) (.slice none 0 0) (.slice none 0 0) (.slice none 0 0) s0 k st' w' ∧ k ≤ n.toNat ∧ ∀ r, st' = some r → k = n.toNat) := fun Y s0 n hY hn => timesSyms hY HKp.out n hn
  have HRD := Lib.hid (HR.out.new HKp.out (below_drew WS))
  have HCN := Lib.hid (tnum_any HRD.out.tk)
  have HQ0 : Hid (WS.drew.cell? ⟨tvb, 0, none⟩ = some (.pointer (some ⟨tb, 0, none⟩))) := t2
  have htvl : tvb < WS.heap.size := lt_of_cell t2
  go_cut [] from 8 (fun wc => ∃ (ss : List Ob.Sm) (sv : Value) (s2 : Option Bs), Hid (Rs w tvb ovb tb ob wc.heap.size (fun Y => A0 Y ∧ (Row Y (Dn tb ob wc.heap.size) 52 3 sv ss.length (cellsOf smC ss))) wc [.string (bs nm), sv, .slice none 0 0, .slice none 0 0, .slice none 0 0, .slice none 0 0, .slice none 0 0] s2) ∧ Hid (Stage (Ob.listT Ob.symT) s1 s2 ss) ∧ Hid (ss.length ≤ 1000000 ∧ ∀ x ∈ ss, x.name.length ≤ 1000000) ∧ WS.heap.size ≤ wc.heap.size)
  case first =>
    go_region_held3 (fun Y => Y.cell? ⟨tvb, 0, none⟩ = some (.pointer (some ⟨tb, 0, none⟩))) (with_reducible (first | exact HQ2.out | exact HQ1.out | exact HQ0.out)) (first | (go_at_call 33; refine HCN.out.mono ?_; rintro e W5 ⟨⟨n, rfl, hx5, htk5, hv5⟩, hI5⟩; have hn5 := hI5 n rfl; have hR5 := HRD.out.take HKp.out hx5 htk5; have HR5 := Lib.hid hR5; have HV5 := Lib.hid hv5; have HQ1 : Hid (W5.cell? ⟨tvb, 0, none⟩ = some (.pointer (some ⟨tb, 0, none⟩))) := cell_blk hR5.kt; clear hx5 htk5 hv5 hI5 hR5) | (go_at_call 32; refine (HCT.out _ _ n HR5.out hn5).mono ?_; rintro e W6 ⟨rfl, k6, st6, hJ6, hk6, he6⟩; obtain ⟨xs6, v6, hU6, hO6, hL6, hB6⟩ := hJ6; have HQ2 : Hid (W6.cell? ⟨tvb, 0, none⟩ = some (.pointer (some ⟨tb, 0, none⟩))) := cell_blk hU6.kt; have HU6 := Lib.hid hU6; have HO6 := Lib.hid hO6; have HD6 := Lib.hid (hL6.done hk6 he6); have HL6 := Lib.hid hL6; have HB6 := Lib.hid hB6; clear hU6 hO6 hL6 hB6 hk6 he6))
    all_goals
      go_wp2_with fail
      go_meet
      case rel =>
        exact ⟨xs6, v6, st6, HU6.out.onto ⟨HU6.out.a, rowOf HU6.out HO6.out⟩, listT_any HV5.out HD6.out.1 HD6.out.2, ⟨by have h1 := HL6.out.1; have h2 := HL6.out.2.1; omega, HB6.out⟩, HU6.out.CC⟩
  case rest =>
    obtain ⟨ss, sv, s2, HRn, HS2, HB0, hszn⟩ := hcut
    have HKn : Hid (Keeps tb ob wc.heap.size (fun Y => A0 Y ∧ (Row Y (Dn tb ob wc.heap.size) 52 3 sv ss.length (cellsOf smC ss)))) := keepsAnd hszn HKp.out (keepsRow tb ob wc.heap.size _ _ _ _ _)
    clear HR HKp HCT HRD HCN HQ0 t2 htvl
    have HR := HRn
    have HKp := HKn
    clear HRn HKn
    have t2 : wc.cell? ⟨tvb, 0, none⟩ = some (.pointer (some ⟨tb, 0, none⟩)) := cell_blk HR.out.kt
    go_upto_region 4 with fail
    obtain ⟨A1, hA1⟩ : ∃ AX : World → Prop, AX = (fun Y => A0 Y ∧ (Row Y (Dn tb ob wc.heap.size) 52 3 sv ss.length (cellsOf smC ss))) := ⟨_, rfl⟩
    rw [← hA1] at HR HKp
    have HA1 := Lib.hid hA1
    clear hA1
    obtain ⟨WS, hWS⟩ : ∃ WS, WS = wc := ⟨_, rfl⟩
    rw [← hWS] at HR HKp t2 ⊢
    clear hWS
    have HCT : Hid (∀ (Y : World) (s0 : Option Bs) (n : Int), Rs w tvb ovb tb ob WS.heap.size A1 Y [.string (bs nm), sv, .slice none 0 0, .slice none 0 0, .slice none 0 0, .slice none 0 0, .slice none 0 0] s0 → Ob.I64 n → Calls Tryz.prog 32 #[.pointer (some ⟨tb, 0, none⟩), .int .i64 n, .func (.func 35) #[] #[.pointer (some ⟨tvb, 0, none⟩), .pointer (some ⟨ovb, 0, none⟩)]] Y fun e w' => e = .returned (.tuple #[]) ∧ ∃ k st', JUses w tvb ovb tb ob WS.heap.size A1 (.string (bs nm)) (sv) (.slice none 0 0) (.slice none 0 0) (.slice none 0 0) (.slice none 0 0) s0 k st' w' ∧ k ≤ n.toNat ∧ ∀ r, st' = some r → k = n.toNat) := fun Y s0 n hY hn => timesUses hY HKp.out n hn
    have HRD := Lib.hid (HR.out.new HKp.out (below_drew WS))
    have HCN := Lib.hid (tnum_any HRD.out.tk)
    have HQ0 : Hid (WS.drew.cell? ⟨tvb, 0, none⟩ = some (.pointer (some ⟨tb, 0, none⟩))) := t2
    have htvl : tvb < WS.heap.size := lt_of_cell t2
    go_cut [] from 8 (fun wc => ∃ (us : List Ob.Us) (uv : Value) (s3 : Option Bs), Hid (Rs w tvb ovb tb ob wc.heap.size (fun Y => A1 Y ∧ (∃ ucs, RepU Y (Dn tb ob wc.heap.size) us ucs ∧ Row Y (Dn tb ob wc.heap.size) 56 3 uv us.length ucs)) wc [.string (bs nm), sv, uv, .slice none 0 0, .slice none 0 0, .slice none 0 0, .slice none 0 0] s3) ∧ Hid (Stage (Ob.listT Ob.useT) s2 s3 us) ∧ Hid (us.length ≤ 1000000 ∧ ∀ x ∈ us, x.name.length ≤ 1000000 ∧ x.names.length ≤ 1000000 ∧ ∀ y ∈ x.names, y.length ≤ 1000000) ∧ WS.heap.size ≤ wc.heap.size)
    case first =>
      go_region_held3 (fun Y => Y.cell? ⟨tvb, 0, none⟩ = some (.pointer (some ⟨tb, 0, none⟩))) (with_reducible (first | exact HQ2.out | exact HQ1.out | exact HQ0.out)) (first | (go_at_call 33; refine HCN.out.mono ?_; rintro e W5 ⟨⟨n, rfl, hx5, htk5, hv5⟩, hI5⟩; have hn5 := hI5 n rfl; have hR5 := HRD.out.take HKp.out hx5 htk5; have HR5 := Lib.hid hR5; have HV5 := Lib.hid hv5; have HQ1 : Hid (W5.cell? ⟨tvb, 0, none⟩ = some (.pointer (some ⟨tb, 0, none⟩))) := cell_blk hR5.kt; clear hx5 htk5 hv5 hI5 hR5) | (go_at_call 32; refine (HCT.out _ _ n HR5.out hn5).mono ?_; rintro e W6 ⟨rfl, k6, st6, hJ6, hk6, he6⟩; obtain ⟨xs6, v6, hU6, hO6, hL6, hB6⟩ := hJ6; have HQ2 : Hid (W6.cell? ⟨tvb, 0, none⟩ = some (.pointer (some ⟨tb, 0, none⟩))) := cell_blk hU6.kt; have HU6 := Lib.hid hU6; have HO6 := Lib.hid hO6; have HD6 := Lib.hid (hL6.done hk6 he6); have HL6 := Lib.hid hL6; have HB6 := Lib.hid hB6; clear hU6 hO6 hL6 hB6 hk6 he6))
      all_goals
        go_wp2_with fail
        go_meet
        case rel =>
          exact ⟨xs6, v6, st6, HU6.out.onto ⟨HU6.out.a, usesOf HU6.out HO6.out⟩, listT_any HV5.out HD6.out.1 HD6.out.2, ⟨by have h1 := HL6.out.1; have h2 := HL6.out.2.1; omega, HB6.out⟩, HU6.out.CC⟩
    case rest =>
      obtain ⟨us, uv, s3, HRn, HS3, HB1, hszn⟩ := hcut
      have HKn : Hid (Keeps tb ob wc.heap.size (fun Y => A1 Y ∧ (∃ ucs, RepU Y (Dn tb ob wc.heap.size) us ucs ∧ Row Y (Dn tb ob wc.heap.size) 56 3 uv us.length ucs))) := keepsAnd hszn HKp.out (keepsUses tb ob wc.heap.size _ _)
      clear HR HKp HCT HRD HCN HQ0 t2 htvl
      have HR := HRn
      have HKp := HKn
      clear HRn HKn
      have t2 : wc.cell? ⟨tvb, 0, none⟩ = some (.pointer (some ⟨tb, 0, none⟩)) := cell_blk HR.out.kt
      go_upto_region 5 with fail
      obtain ⟨A2, hA2⟩ : ∃ AX : World → Prop, AX = (fun Y => A1 Y ∧ (∃ ucs, RepU Y (Dn tb ob wc.heap.size) us ucs ∧ Row Y (Dn tb ob wc.heap.size) 56 3 uv us.length ucs)) := ⟨_, rfl⟩
      rw [← hA2] at HR HKp
      have HA2 := Lib.hid hA2
      clear hA2
      obtain ⟨WS, hWS⟩ : ∃ WS, WS = wc := ⟨_, rfl⟩
      rw [← hWS] at HR HKp t2 ⊢
      clear hWS
      have HCT : Hid (∀ (Y : World) (s0 : Option Bs) (n : Int), Rs w tvb ovb tb ob WS.heap.size A2 Y [.string (bs nm), sv, uv, .slice none 0 0, .slice none 0 0, .slice none 0 0, .slice none 0 0] s0 → Ob.I64 n → Calls Tryz.prog 32 #[.pointer (some ⟨tb, 0, none⟩), .int .i64 n, .func (.func 37) #[] #[.pointer (some ⟨tvb, 0, none⟩), .pointer (some ⟨ovb, 0, none⟩)]] Y fun e w' => e = .returned (.tuple #[]) ∧ ∃ k st', JVars w tvb ovb tb ob WS.heap.size A2 (.string (bs nm)) (sv) (uv) (.slice none 0 0) (.slice none 0 0) (.slice none 0 0) s0 k st' w' ∧ k ≤ n.toNat ∧ ∀ r, st' = some r → k = n.toNat) := fun Y s0 n hY hn => timesVars hY HKp.out n hn
      have HRD := Lib.hid (HR.out.new HKp.out (below_drew WS))
      have HCN := Lib.hid (tnum_any HRD.out.tk)
      have HQ0 : Hid (WS.drew.cell? ⟨tvb, 0, none⟩ = some (.pointer (some ⟨tb, 0, none⟩))) := t2
      have htvl : tvb < WS.heap.size := lt_of_cell t2
      go_cut [] from 8 (fun wc => ∃ (vs : List Ob.Gl) (vv : Value) (s4 : Option Bs), Hid (Rs w tvb ovb tb ob wc.heap.size (fun Y => A2 Y ∧ (Row Y (Dn tb ob wc.heap.size) 54 4 vv vs.length (cellsOf glC vs))) wc [.string (bs nm), sv, uv, vv, .slice none 0 0, .slice none 0 0, .slice none 0 0] s4) ∧ Hid (Stage (Ob.listT Ob.glT) s3 s4 vs) ∧ Hid (vs.length ≤ 1000000 ∧ ∀ x ∈ vs, x.name.length ≤ 1000000) ∧ WS.heap.size ≤ wc.heap.size)
      case first =>
        go_region_held3 (fun Y => Y.cell? ⟨tvb, 0, none⟩ = some (.pointer (some ⟨tb, 0, none⟩))) (with_reducible (first | exact HQ2.out | exact HQ1.out | exact HQ0.out)) (first | (go_at_call 33; refine HCN.out.mono ?_; rintro e W5 ⟨⟨n, rfl, hx5, htk5, hv5⟩, hI5⟩; have hn5 := hI5 n rfl; have hR5 := HRD.out.take HKp.out hx5 htk5; have HR5 := Lib.hid hR5; have HV5 := Lib.hid hv5; have HQ1 : Hid (W5.cell? ⟨tvb, 0, none⟩ = some (.pointer (some ⟨tb, 0, none⟩))) := cell_blk hR5.kt; clear hx5 htk5 hv5 hI5 hR5) | (go_at_call 32; refine (HCT.out _ _ n HR5.out hn5).mono ?_; rintro e W6 ⟨rfl, k6, st6, hJ6, hk6, he6⟩; obtain ⟨xs6, v6, hU6, hO6, hL6, hB6⟩ := hJ6; have HQ2 : Hid (W6.cell? ⟨tvb, 0, none⟩ = some (.pointer (some ⟨tb, 0, none⟩))) := cell_blk hU6.kt; have HU6 := Lib.hid hU6; have HO6 := Lib.hid hO6; have HD6 := Lib.hid (hL6.done hk6 he6); have HL6 := Lib.hid hL6; have HB6 := Lib.hid hB6; clear hU6 hO6 hL6 hB6 hk6 he6))
        all_goals
          go_wp2_with fail
          go_meet
          case rel =>
            exact ⟨xs6, v6, st6, HU6.out.onto ⟨HU6.out.a, rowOf HU6.out HO6.out⟩, listT_any HV5.out HD6.out.1 HD6.out.2, ⟨by have h1 := HL6.out.1; have h2 := HL6.out.2.1; omega, HB6.out⟩, HU6.out.CC⟩
      case rest =>
        obtain ⟨vs, vv, s4, HRn, HS4, HB2, hszn⟩ := hcut
        have HKn : Hid (Keeps tb ob wc.heap.size (fun Y => A2 Y ∧ (Row Y (Dn tb ob wc.heap.size) 54 4 vv vs.length (cellsOf glC vs)))) := keepsAnd hszn HKp.out (keepsRow tb ob wc.heap.size _ _ _ _ _)
        clear HR HKp HCT HRD HCN HQ0 t2 htvl
        have HR := HRn
        have HKp := HKn
        clear HRn HKn
        have t2 : wc.cell? ⟨tvb, 0, none⟩ = some (.pointer (some ⟨tb, 0, none⟩)) := cell_blk HR.out.kt
        go_upto_region 6 with fail
        obtain ⟨A3, hA3⟩ : ∃ AX : World → Prop, AX = (fun Y => A2 Y ∧ (Row Y (Dn tb ob wc.heap.size) 54 4 vv vs.length (cellsOf glC vs))) := ⟨_, rfl⟩
        rw [← hA3] at HR HKp
        have HA3 := Lib.hid hA3
        clear hA3
        obtain ⟨WS, hWS⟩ : ∃ WS, WS = wc := ⟨_, rfl⟩
        rw [← hWS] at HR HKp t2 ⊢
        clear hWS
        have HCT : Hid (∀ (Y : World) (s0 : Option Bs) (n : Int), Rs w tvb ovb tb ob WS.heap.size A3 Y [.string (bs nm), sv, uv, vv, .slice none 0 0, .slice none 0 0, .slice none 0 0] s0 → Ob.I64 n → Calls Tryz.prog 32 #[.pointer (some ⟨tb, 0, none⟩), .int .i64 n, .func (.func 38) #[] #[.pointer (some ⟨ovb, 0, none⟩), .pointer (some ⟨tvb, 0, none⟩)]] Y fun e w' => e = .returned (.tuple #[]) ∧ ∃ k st', JNames w tvb ovb tb ob WS.heap.size A3 (.string (bs nm)) (sv) (uv) (vv) (.slice none 0 0) (.slice none 0 0) s0 k st' w' ∧ k ≤ n.toNat ∧ ∀ r, st' = some r → k = n.toNat) := fun Y s0 n hY hn => timesNames hY HKp.out n hn
        have HRD := Lib.hid (HR.out.new HKp.out (below_drew WS))
        have HCN := Lib.hid (tnum_any HRD.out.tk)
        have HQ0 : Hid (WS.drew.cell? ⟨tvb, 0, none⟩ = some (.pointer (some ⟨tb, 0, none⟩))) := t2
        have htvl : tvb < WS.heap.size := lt_of_cell t2
        go_cut [] from 8 (fun wc => ∃ (ns : List Bs) (nv : Value) (s5 : Option Bs), Hid (Rs w tvb ovb tb ob wc.heap.size (fun Y => A3 Y ∧ (Row Y (Dn tb ob wc.heap.size) 9 1 nv ns.length (cellsOf stC ns))) wc [.string (bs nm), sv, uv, vv, .slice none 0 0, nv, .slice none 0 0] s5) ∧ Hid (Stage (Ob.listT Ob.txtT) s4 s5 ns) ∧ Hid (ns.length ≤ 1000000 ∧ ∀ x ∈ ns, x.length ≤ 1000000) ∧ WS.heap.size ≤ wc.heap.size)
        case first =>
          go_region_held3 (fun Y => Y.cell? ⟨tvb, 0, none⟩ = some (.pointer (some ⟨tb, 0, none⟩))) (with_reducible (first | exact HQ2.out | exact HQ1.out | exact HQ0.out)) (first | (go_at_call 33; refine HCN.out.mono ?_; rintro e W5 ⟨⟨n, rfl, hx5, htk5, hv5⟩, hI5⟩; have hn5 := hI5 n rfl; have hR5 := HRD.out.take HKp.out hx5 htk5; have HR5 := Lib.hid hR5; have HV5 := Lib.hid hv5; have HQ1 : Hid (W5.cell? ⟨tvb, 0, none⟩ = some (.pointer (some ⟨tb, 0, none⟩))) := cell_blk hR5.kt; clear hx5 htk5 hv5 hI5 hR5) | (go_at_call 32; refine (HCT.out _ _ n HR5.out hn5).mono ?_; rintro e W6 ⟨rfl, k6, st6, hJ6, hk6, he6⟩; obtain ⟨xs6, v6, hU6, hO6, hL6, hB6⟩ := hJ6; have HQ2 : Hid (W6.cell? ⟨tvb, 0, none⟩ = some (.pointer (some ⟨tb, 0, none⟩))) := cell_blk hU6.kt; have HU6 := Lib.hid hU6; have HO6 := Lib.hid hO6; have HD6 := Lib.hid (hL6.done hk6 he6); have HL6 := Lib.hid hL6; have HB6 := Lib.hid hB6; clear hU6 hO6 hL6 hB6 hk6 he6))
          all_goals
            go_wp2_with fail
            go_meet
            case rel =>
              exact ⟨xs6, v6, st6, HU6.out.onto ⟨HU6.out.a, rowOf HU6.out HO6.out⟩, listT_any HV5.out HD6.out.1 HD6.out.2, ⟨by have h1 := HL6.out.1; have h2 := HL6.out.2.1; omega, HB6.out⟩, HU6.out.CC⟩
        case rest =>
          obtain ⟨ns, nv, s5, HRn, HS5, HB3, hszn⟩ := hcut
          have HKn : Hid (Keeps tb ob wc.heap.size (fun Y => A3 Y ∧ (Row Y (Dn tb ob wc.heap.size) 9 1 nv ns.length (cellsOf stC ns)))) := keepsAnd hszn HKp.out (keepsRow tb ob wc.heap.size _ _ _ _ _)
          clear HR HKp HCT HRD HCN HQ0 t2 htvl
          have HR := HRn
          have HKp := HKn
          clear HRn HKn
          have t2 : wc.cell? ⟨tvb, 0, none⟩ = some (.pointer (some ⟨tb, 0, none⟩)) := cell_blk HR.out.kt
          have HNB := HB3
          have HNV : Hid (∃ nva nvc, nv = .slice nva ns.length nvc) := by
            rcases HR.out.a.2 with ⟨h1, h2, _⟩ | ⟨g, cap, cur, h1, _⟩
            · exact ⟨none, 0, by rw [h1, h2]⟩
            · exact ⟨_, _, h1⟩
          go_upto_region 7 with fail
          obtain ⟨A4, hA4⟩ : ∃ AX : World → Prop, AX = (fun Y => A3 Y ∧ (Row Y (Dn tb ob wc.heap.size) 9 1 nv ns.length (cellsOf stC ns))) := ⟨_, rfl⟩
          rw [← hA4] at HR HKp
          have HA4 := Lib.hid hA4
          clear hA4
          obtain ⟨WS, hWS⟩ : ∃ WS, WS = wc := ⟨_, rfl⟩
          rw [← hWS] at HR HKp t2 ⊢
          clear hWS
          have HCT : Hid (∀ (Y : World) (s0 : Option Bs) (n : Int), Rs w tvb ovb tb ob WS.heap.size A4 Y [.string (bs nm), sv, uv, vv, .slice none 0 0, nv, .slice none 0 0] s0 → Ob.I64 n → Calls Tryz.prog 32 #[.pointer (some ⟨tb, 0, none⟩), .int .i64 n, .func (.func 39) #[] #[.pointer (some ⟨tvb, 0, none⟩), .pointer (some ⟨ovb, 0, none⟩)]] Y fun e w' => e = .returned (.tuple #[]) ∧ ∃ k st', JProcs w tvb ovb tb ob WS.heap.size A4 (.string (bs nm)) (sv) (uv) (vv) (nv) (.slice none 0 0) s0 k st' w' ∧ k ≤ n.toNat ∧ ∀ r, st' = some r → k = n.toNat) := fun Y s0 n hY hn => timesProcs hY HKp.out n hn
          have HRD := Lib.hid (HR.out.new HKp.out (below_drew WS))
          have o2 : WS.cell? ⟨ovb, 0, none⟩ = some (.pointer (some ⟨ob, 0, none⟩)) := cell_blk HR.out.ko
          have n2 : WS.cell? ⟨ob, 5, none⟩ = some nv := cell_blk HR.out.kb
          have HQ0 : Hid (WS.drew.cell? ⟨tvb, 0, none⟩ = some (.pointer (some ⟨tb, 0, none⟩)) ∧ WS.drew.cell? ⟨ovb, 0, none⟩ = some (.pointer (some ⟨ob, 0, none⟩)) ∧ WS.drew.cell? ⟨ob, 5, none⟩ = some nv) := ⟨t2, o2, n2⟩
          have hobl : ob < WS.heap.size := lt_of_cell n2
          have hovl : ovb < WS.heap.size := lt_of_cell o2
          have htvl : tvb < WS.heap.size := lt_of_cell t2
          go_cut [] from 8 (fun wc => ∃ (ps : List Ob.En) (pv : Value) (s6 : Option Bs), Hid (Rs w tvb ovb tb ob wc.heap.size (fun Y => A4 Y ∧ (Row Y (Dn tb ob wc.heap.size) 47 3 pv ps.length (cellsOf enC ps))) wc [.string (bs nm), sv, uv, vv, pv, nv, .slice none 0 0] s6) ∧ Hid (Stage (Ob.repR Ob.enT ns.length) s5 s6 ps) ∧ Hid (ps.length ≤ 1000000 ∧ ∀ x ∈ ps, Ob.I64 x.args) ∧ WS.heap.size ≤ wc.heap.size)
          case first =>
            obtain ⟨nva, nvc, hnv⟩ := HNV.out
            subst hnv
            go_region_held3 (fun Y => Y.cell? ⟨tvb, 0, none⟩ = some (.pointer (some ⟨tb, 0, none⟩)) ∧ Y.cell? ⟨ovb, 0, none⟩ = some (.pointer (some ⟨ob, 0, none⟩)) ∧ Y.cell? ⟨ob, 5, none⟩ = some (.slice nva ns.length nvc)) (with_reducible (first | exact HQ2.out | exact HQ0.out)) (first | (go_at_call 32; refine (HCT.out _ _ (ns.length : Int) HRD.out (by have := HNB.out.1; unfold Ob.I64; omega)).mono ?_; rintro e W6 ⟨rfl, k6, st6, hJ6, hk6, he6⟩; obtain ⟨xs6, v6, hU6, hO6, hL6, hB6⟩ := hJ6; have HQ2 : Hid (W6.cell? ⟨tvb, 0, none⟩ = some (.pointer (some ⟨tb, 0, none⟩)) ∧ W6.cell? ⟨ovb, 0, none⟩ = some (.pointer (some ⟨ob, 0, none⟩)) ∧ W6.cell? ⟨ob, 5, none⟩ = some (.slice nva ns.length nvc)) := ⟨cell_blk hU6.kt, cell_blk hU6.ko, cell_blk hU6.kb⟩; have HU6 := Lib.hid hU6; have HO6 := Lib.hid hO6; have HD6 := Lib.hid (hL6.done hk6 he6); have HL6 := Lib.hid hL6; have HB6 := Lib.hid hB6; clear hU6 hO6 hL6 hB6 hk6 he6))
            all_goals
              go_wp2_with fail
              go_meet
              case rel =>
                exact ⟨xs6, v6, st6, HU6.out.onto ⟨HU6.out.a, rowOf HU6.out HO6.out⟩, HD6.out, ⟨by have h1 := HL6.out.1; have h2 := HL6.out.2.1; omega, HB6.out⟩, HU6.out.CC⟩
          case rest =>
            obtain ⟨ps, pv, s6, HRn, HS6, HB4, hszn⟩ := hcut
            have HKn : Hid (Keeps tb ob wc.heap.size (fun Y => A4 Y ∧ (Row Y (Dn tb ob wc.heap.size) 47 3 pv ps.length (cellsOf enC ps)))) := keepsAnd hszn HKp.out (keepsRow tb ob wc.heap.size _ _ _ _ _)
            clear HR HKp HCT HRD o2 n2 hobl hovl HQ0 t2 htvl
            have HR := HRn
            have HKp := HKn
            clear HRn HKn
            have t2 : wc.cell? ⟨tvb, 0, none⟩ = some (.pointer (some ⟨tb, 0, none⟩)) := cell_blk HR.out.kt
            go_upto_region 8 with fail
            obtain ⟨A5, hA5⟩ : ∃ AX : World → Prop, AX = (fun Y => A4 Y ∧ (Row Y (Dn tb ob wc.heap.size) 47 3 pv ps.length (cellsOf enC ps))) := ⟨_, rfl⟩
            rw [← hA5] at HR HKp
            have HA5 := Lib.hid hA5
            clear hA5
            obtain ⟨WS, hWS⟩ : ∃ WS, WS = wc := ⟨_, rfl⟩
            rw [← hWS] at HR HKp t2 ⊢
            clear hWS
            have HCT : Hid (∀ (Y : World) (s0 : Option Bs) (n : Int), Rs w tvb ovb tb ob WS.heap.size A5 Y [.string (bs nm), sv, uv, vv, pv, nv, .slice none 0 0] s0 → Ob.I64 n → Calls Tryz.prog 32 #[.pointer (some ⟨tb, 0, none⟩), .int .i64 n, .func (.func 40) #[] #[.pointer (some ⟨tvb, 0, none⟩), .pointer (some ⟨ovb, 0, none⟩)]] Y fun e w' => e = .returned (.tuple #[]) ∧ ∃ k st', JCode w tvb ovb tb ob WS.heap.size A5 (.string (bs nm)) (sv) (uv) (vv) (pv) (nv) s0 k st' w' ∧ k ≤ n.toNat ∧ ∀ r, st' = some r → k = n.toNat) := fun Y s0 n hY hn => timesCode hY HKp.out n hn
            have HRD := Lib.hid (HR.out.new HKp.out (below_drew WS))
            have HCN := Lib.hid (tnum_any HRD.out.tk)
            have HQ0 : Hid (WS.drew.cell? ⟨tvb, 0, none⟩ = some (.pointer (some ⟨tb, 0, none⟩))) := t2
            have htvl : tvb < WS.heap.size := lt_of_cell t2
            go_cut [] from 8 (fun wc => ∃ (cs : List Ob.In) (cv : Value) (s7 : Option Bs), Hid (Rs w tvb ovb tb ob wc.heap.size (fun Y => A5 Y ∧ (Row Y (Dn tb ob wc.heap.size) 49 3 cv cs.length (cellsOf inC cs))) wc [.string (bs nm), sv, uv, vv, pv, nv, cv] s7) ∧ Hid (Stage (Ob.listT Ob.inT) s6 s7 cs) ∧ Hid (cs.length ≤ 1000000 ∧ ∀ x ∈ cs, Ob.I64 x.a) ∧ WS.heap.size ≤ wc.heap.size)
            case first =>
              go_region_held3 (fun Y => Y.cell? ⟨tvb, 0, none⟩ = some (.pointer (some ⟨tb, 0, none⟩))) (with_reducible (first | exact HQ2.out | exact HQ1.out | exact HQ0.out)) (first | (go_at_call 33; refine HCN.out.mono ?_; rintro e W5 ⟨⟨n, rfl, hx5, htk5, hv5⟩, hI5⟩; have hn5 := hI5 n rfl; have hR5 := HRD.out.take HKp.out hx5 htk5; have HR5 := Lib.hid hR5; have HV5 := Lib.hid hv5; have HQ1 : Hid (W5.cell? ⟨tvb, 0, none⟩ = some (.pointer (some ⟨tb, 0, none⟩))) := cell_blk hR5.kt; clear hx5 htk5 hv5 hI5 hR5) | (go_at_call 32; refine (HCT.out _ _ n HR5.out hn5).mono ?_; rintro e W6 ⟨rfl, k6, st6, hJ6, hk6, he6⟩; obtain ⟨xs6, v6, hU6, hO6, hL6, hB6⟩ := hJ6; have HQ2 : Hid (W6.cell? ⟨tvb, 0, none⟩ = some (.pointer (some ⟨tb, 0, none⟩))) := cell_blk hU6.kt; have HU6 := Lib.hid hU6; have HO6 := Lib.hid hO6; have HD6 := Lib.hid (hL6.done hk6 he6); have HL6 := Lib.hid hL6; have HB6 := Lib.hid hB6; clear hU6 hO6 hL6 hB6 hk6 he6))
              all_goals
                go_wp2_with fail
                go_meet
                case rel =>
                  exact ⟨xs6, v6, st6, HU6.out.onto ⟨HU6.out.a, rowOf HU6.out HO6.out⟩, listT_any HV5.out HD6.out.1 HD6.out.2, ⟨by have h1 := HL6.out.1; have h2 := HL6.out.2.1; omega, HB6.out⟩, HU6.out.CC⟩
            case rest =>
              obtain ⟨cs, cv, s7, HRn, HS7, HB5, hszn⟩ := hcut
              have HKn : Hid (Keeps tb ob wc.heap.size (fun Y => A5 Y ∧ (Row Y (Dn tb ob wc.heap.size) 49 3 cv cs.length (cellsOf inC cs)))) := keepsAnd hszn HKp.out (keepsRow tb ob wc.heap.size _ _ _ _ _)
              clear HR HKp HCT HRD HCN HQ0 t2 htvl
              have HR := HRn
              have HKp := HKn
              clear HRn HKn
              have t2 : wc.cell? ⟨tvb, 0, none⟩ = some (.pointer (some ⟨tb, 0, none⟩)) := cell_blk HR.out.kt
              have HST := Lib.hid (obT_stages HS1.out HS2.out HS3.out HS4.out HS5.out HS6.out HS7.out)
              obtain ⟨ha5, hrc⟩ := HR.out.a
              rw [HA5.out] at ha5
              obtain ⟨ha4, hrp⟩ := ha5
              rw [HA4.out] at ha4
              obtain ⟨ha3, hrn⟩ := ha4
              rw [HA3.out] at ha3
              obtain ⟨ha2, hrv⟩ := ha3
              rw [HA2.out] at ha2
              obtain ⟨ha1, ucs, hru1, hru2⟩ := ha2
              rw [HA1.out] at ha1
              obtain ⟨_, hrs⟩ := ha1
              have hs := hrs.sl
              have hu := hru2.sl
              have hv := hrv.sl
              have hp := hrp.sl
              have hn := hrn.sl
              have hc := hrc.sl
              have hkb := HR.out.kb
              have hko := HR.out.ko
              have htk := HR.out.tk
              have hbel := HR.out.bel
              clear HNV
              obtain ⟨sa, sc, rfl, _⟩ := id hs
              obtain ⟨ua, uc, rfl, _⟩ := id hu
              obtain ⟨va, vc, rfl, _⟩ := id hv
              obtain ⟨pa, pc, rfl, _⟩ := id hp
              obtain ⟨na, nc, rfl, _⟩ := id hn
              obtain ⟨ca, cc, rfl, _⟩ := id hc
              have hOA : OA wc ob 0 ⟨nm, ss, us, vs, ps, ns, cs⟩ := ⟨sa, ua, va, pa, na, ca, sc, uc, vc, pc, nc, cc, ⟨(cell_blk hkb).trans rfl, (cell_blk hkb).trans rfl, (cell_blk hkb).trans rfl, (cell_blk hkb).trans rfl, (cell_blk hkb).trans rfl, (cell_blk hkb).trans rfl, (cell_blk hkb).trans rfl, hs, ⟨ucs, RepU.repN _ _ hru1, hu⟩, hv, hp, hn, hc⟩⟩
              have hBd : Bd ⟨nm, ss, us, vs, ps, ns, cs⟩ := by
                obtain ⟨b0, b0'⟩ := HB0.out
                obtain ⟨b1, b1'⟩ := HB1.out
                obtain ⟨b2, b2'⟩ := HB2.out
                obtain ⟨b3, b3'⟩ := HB3.out
                obtain ⟨b4, b4'⟩ := HB4.out
                obtain ⟨b5, b5'⟩ := HB5.out
                exact ⟨by show nm.length ≤ _; omega, b0, fun x hx => by have := b0' x hx; omega, b1, fun x hx => by obtain ⟨e1, e2, e3⟩ := b1' x hx; exact ⟨by omega, e2, fun y hy => by have := e3 y hy; omega⟩, b2, fun x hx => by have := b2' x hx; omega, b4, b3, fun x hx => by have := b3' x hx; omega, b5, b5'⟩
              obtain ⟨O, hO⟩ : ∃ O : Ob.O, O = ⟨nm, ss, us, vs, ps, ns, cs⟩ := ⟨_, rfl⟩
              rw [← hO] at hOA hBd HST
              clear hO
              have HOA := Lib.hid hOA
              have HCW := Lib.hid (rwrite_oa hOA hBd)
              obtain ⟨l7, hkl, hl7, hst7⟩ := htk.c
              have o2 : wc.cell? ⟨ovb, 0, none⟩ = some (.pointer (some ⟨ob, 0, none⟩)) := cell_blk hko
              have hovl : ovb < wc.heap.size := lt_of_cell o2
              have htvl : tvb < wc.heap.size := lt_of_cell t2
              have HKL := Lib.hid hkl
              have HBEL := Lib.hid hbel
              have HST7 := Lib.hid hst7
              clear hs hu hv hp hn hc hkb hko htk hbel hOA hBd hrs hru1 hru2 hrv hrp hrn hrc hkl hst7
              go_wp2_with fail
              refine HCW.out.mono ?_
              rintro e W9 ⟨hWP, hb9⟩
              have HB9 : Hid (Below w.heap.size w W9) := HBEL.out.trans (hb9.mono HBEL.out.size)
              have HOA9 := Lib.hid (HOA.out.below hb9)
              have o9 : W9.cell? ⟨ovb, 0, none⟩ = some (.pointer (some ⟨ob, 0, none⟩)) := (hb9.cell (p := ⟨ovb, 0, none⟩) hovl).trans o2
              have t9 : W9.cell? ⟨tvb, 0, none⟩ = some (.pointer (some ⟨tb, 0, none⟩)) := (hb9.cell (p := ⟨tvb, 0, none⟩) htvl).trans t2
              have hk9 := (hb9.block tb (lt_blk HKL.out)).trans HKL.out
              have c9 : W9.cell? ⟨tb, 0, none⟩ = some (.string (bs l7)) := cell_blk hk9
              have d9 : W9.cell? ⟨tb, 1, none⟩ = some (.bool s7.isNone) := cell_blk hk9
              have hl9 : tb < W9.heap.size := lt_blk hk9
              have hl9b : tvb < W9.heap.size := lt_of_cell t9
              have hl9c : ovb < W9.heap.size := lt_of_cell o9
              have HBADR : Hid (readT l = none → ∀ W, Below w.heap.size w W → Below w.heap.size w W ∧ RP (.returned (.tuple #[.pointer none, .int .i64 3])) W) := fun hr W hW => ⟨hW, (HRP.out _ _).2 (by rw [hr])⟩
              have HOK : Hid (readT l = some O → Below w.heap.size w W9 ∧ RP (.returned (.tuple #[.pointer (some ⟨ob, 0, none⟩), .int .i64 0])) W9) := fun hr => ⟨HB9.out, (HRP.out _ _).2 (by rw [hr]; exact ⟨ob, rfl, HOA9.out⟩)⟩
              have HWP := Lib.hid hWP
              clear hb9 hk9 o2 t2 hovl htvl HKL HBEL HCW hWP HR HKp HS1 HS2 HS3 HS4 HS5 HS6 HS7 HB0 HB1 HB2 HB3 HB4 HB5 HNB HA0 HA1 HA2 HA3 HA4 HA5 hszn
              have hee : ∃ (u : Bs) (ec : Int), e = .returned (.tuple #[.string (bs u), .int .i64 ec]) ∧ ((Ob.rightB O = true ∧ u = Ob.obW O ∧ ec = 0) ∨ (Ob.rightB O = false ∧ ec = 1)) := by
                have := HWP.out
                unfold RWriteP at this
                by_cases hr : Ob.rightB O = true
                · rw [if_pos hr] at this
                  exact ⟨_, _, this, Or.inl ⟨hr, rfl, rfl⟩⟩
                · rw [if_neg hr] at this
                  exact ⟨[], _, this, Or.inr ⟨by simpa using hr, rfl⟩⟩
              obtain ⟨u, ec, rfl, hcs⟩ := hee
              clear HWP
              cases s7 with
              | none =>
                have hr : readT l = none := by
                  have h1 := HST.out.1
                  unfold readT
                  rcases hq : Ob.obT l with _ | ⟨y, r⟩
                  · rfl
                  · simp only [Option.bind_some, hq] at h1; cases h1
                have HFIN := Lib.hid (HBADR.out hr W9 HB9.out)
                simp only [Option.isNone_none] at d9
                clear hr hcs HBADR HOK HST HST7
                go_wp2_with fail
                go_ret2
                exact HFIN.out
              | some r7 =>
                have e7 := HST7.out r7 rfl
                subst e7
                have hob : Ob.obT l = some (O, r7) := by
                  have h1 := HST.out.1
                  have h2 := HST.out.2
                  simp only [Option.bind_some] at h1 h2
                  rcases hq : Ob.obT l with _ | ⟨y, r⟩
                  · rw [hq] at h1; cases h1
                  · rw [hq] at h1; cases h1
                    rw [h2 y _ hq]
                simp only [Option.isNone_some] at d9
                cases r7 with
                | cons b t =>
                  have hr : readT l = none := by unfold readT; rw [hob]
                  have HFIN := Lib.hid (HBADR.out hr W9 HB9.out)
                  have hts := bs_toList (b :: t)
                  clear hr hcs HBADR HOK HST HST7 hob
                  go_wp2_with fail
                  go_ret2
                  exact HFIN.out
                | nil =>
                  have he2 : (bs ([] : Bs)) = ⟨#[]⟩ := rfl
                  rw [he2] at c9
                  rcases hcs with ⟨hR, rfl, rfl⟩ | ⟨hR, rfl⟩
                  · have hbq := bs_beq (Ob.obW O) l
                    by_cases heq : Ob.obW O = l
                    · have hr : readT l = some O := by unfold readT; rw [hob]; simp only; rw [if_pos ⟨hR, heq⟩]
                      have HFIN := Lib.hid (HOK.out hr)
                      have hb1 : ((bs (Ob.obW O)).toList == (bs l).toList) = true := by rw [hbq]; exact decide_eq_true heq
                      generalize bs (Ob.obW O) = uu at *
                      clear hr HBADR HOK HST HST7 hob hbq heq hR he2
                      go_wp2_with fail
                      go_ret2
                      exact HFIN.out
                    · have hr : readT l = none := by unfold readT; rw [hob]; simp only; rw [if_neg (fun h => heq h.2)]
                      have HFIN := Lib.hid (HBADR.out hr W9 HB9.out)
                      have hb1 : ((bs (Ob.obW O)).toList == (bs l).toList) = false := by rw [hbq]; exact decide_eq_false heq
                      generalize bs (Ob.obW O) = uu at *
                      clear hr HBADR HOK HST HST7 hob hbq heq hR he2
                      go_wp2_with fail
                      go_ret2
                      exact HFIN.out
                  · have hr : readT l = none := by unfold readT; rw [hob]; simp only; rw [if_neg (fun h => by rw [hR] at h; cases h.1)]
                    have HFIN := Lib.hid (HBADR.out hr W9 HB9.out)
                    clear hr HBADR HOK HST HST7 hob hR he2
                    go_wp2_with fail
                    go_ret2
                    exact HFIN.out
end Go.Proofs.YtijhpokclpdjpaaGreatDoor
/- The law's own: the same objects. -/
namespace Go.Proofs.YtijhpokclpdjpaaGreatDoor
open Go.RowKit
open Ob (Bs)
set_option maxRecDepth 100000 in
set_option maxHeartbeats 400000 in
theorem sameObject_nil (w : World) : Calls Tryz.prog 14 #[.pointer none, .pointer none] w fun e w' => e = .returned (.bool true) ∧ w' = w := by
  go_enter Tryz.func14, Tryz.ntmps14
  go_wp2_with fail
  go_ret
  exact ⟨rfl, rfl⟩
set_option maxRecDepth 100000 in
set_option maxHeartbeats 8000000 in
theorem sameObject_eq {w : World} {b o b' o' : Nat} {O : Ob.O} {sa ua va pa na ca sa' ua' va' pa' na' ca' : Option Addr} {sc uc vc pc nc cc sc' uc' vc' pc' nc' cc' : Nat} (hV : OV w b o O sa ua va pa na ca sc uc vc pc nc cc) (hV' : OV w b' o' O sa' ua' va' pa' na' ca' sc' uc' vc' pc' nc' cc') (hB : Bd O) :
    Calls Tryz.prog 14 #[.pointer (some ⟨b, o, none⟩), .pointer (some ⟨b', o', none⟩)] w fun e w' => e = .returned (.bool true) ∧ ∃ m, w' = w.drewN m := by
  have hbl := lt_of_cell hV.c0
  have hbl' := lt_of_cell hV'.c0
  have c0 := hV.c0
  have c1 := hV.c1
  have c2 := hV.c2
  have c3 := hV.c3
  have c4 := hV.c4
  have c5 := hV.c5
  have y0 := hV'.c0
  have y1 := hV'.c1
  have y2 := hV'.c2
  have y3 := hV'.c3
  have y4 := hV'.c4
  have y5 := hV'.c5
  have lu : (O.uses.length : Int) ≤ 1000000 := by have := hB.ul; omega
  have HV := Lib.hid hV
  have HV' := Lib.hid hV'
  have HBd := Lib.hid hB
  have H1 : Hid (∀ n, Calls Tryz.prog 42 #[.slice sa O.syms.length sc, .slice sa' O.syms.length sc'] (w.drewN n) fun e w' => e = .returned (.bool true) ∧ ∃ m, w' = (w.drewN n).drewN m) := fun n => sameSyms_eq (hV.s.below (below_drewN w n)) (hV'.s.below (below_drewN w n)) hB.sl
  have H2 : Hid (∀ n, Calls Tryz.prog 43 #[.slice va O.vars.length vc, .slice va' O.vars.length vc'] (w.drewN n) fun e w' => e = .returned (.bool true) ∧ ∃ m, w' = (w.drewN n).drewN m) := fun n => sameVars_eq (hV.v.below (below_drewN w n)) (hV'.v.below (below_drewN w n)) hB.vl
  have H3 : Hid (∀ n, Calls Tryz.prog 44 #[.slice na O.names.length nc, .slice na' O.names.length nc'] (w.drewN n) fun e w' => e = .returned (.bool true) ∧ ∃ m, w' = (w.drewN n).drewN m) := fun n => sameTexts_eq (hV.n.below (below_drewN w n)) (hV'.n.below (below_drewN w n)) hB.nl
  clear hV hV' hB
  go_enter Tryz.func14, Tryz.ntmps14
  go_wp2_with fail
  refine wp_region_quiet_lit (by kernel_rfl) (by kernel_rfl) ?_
  simp only [List.append_eq, List.cons_append, List.nil_append]
  iterate 71 (go_big_quiet_step (first | (go_at_call 42; exact Calls.quiet_of (H1.out _)) | (go_at_call 43; exact Calls.quiet_of (H2.out _)) | (go_at_call 44; exact Calls.quiet_of (H3.out _))))
  refine wpQuiet_nil ?_
  intro _ hw'
  obtain ⟨nq, hw''⟩ := hw'
  subst hw''
  have c2d : (w.drewN nq).cell? ⟨b, o + 2, none⟩ = some (.slice ua O.uses.length uc) := (drewN_cell w nq _).trans c2
  clear H1 H2 H3
  go_wp2_with fail
  clear c2d
  go_loopg [5] O.uses.length (fun k vi wr => ∃ i n : Nat, i ≤ O.uses.length ∧ k = O.uses.length - i ∧ vi = .int .i64 (i : Int) ∧ wr = w.drewN n)
  case atStart => exact ⟨0, nq, by omega, by omega, rfl, rfl⟩
  case round =>
    obtain ⟨i, n, hid, hk, rfl, hwr⟩ := hrel
    have k2 : (w.drewN n).cell? ⟨b, o + 2, none⟩ = some (.slice ua O.uses.length uc) := (drewN_cell w n _).trans c2
    have k2' : (w.drewN n).cell? ⟨b', o' + 2, none⟩ = some (.slice ua' O.uses.length uc') := (drewN_cell w n _).trans y2
    by_cases hlt : i < O.uses.length
    · have hlt' : (i : Int) < (O.uses.length : Int) := by omega
      obtain ⟨ucs, hU1, hU2⟩ := HV.out.u
      obtain ⟨n1, n2, q0, q1, q2, q3⟩ := RepN.get _ _ hU1 i hlt
      obtain ⟨a0', c0', hsl0, _, hall⟩ := hU2
      cases hsl0
      obtain ⟨g, go, rfl, e0⟩ := hall _ _ q0
      obtain ⟨g', go', hgg, e1⟩ := hall _ _ q1
      cases hgg
      obtain ⟨g', go', hgg, e2⟩ := hall _ _ q2
      cases hgg
      obtain ⟨ucs', hU1', hU2'⟩ := HV'.out.u
      obtain ⟨m1, m2, r0, r1, r2, r3⟩ := RepN.get _ _ hU1' i hlt
      obtain ⟨a1', c1', hsl1, _, hall'⟩ := hU2'
      cases hsl1
      obtain ⟨h, ho, rfl, d0⟩ := hall' _ _ r0
      obtain ⟨h', ho', hgg, d1⟩ := hall' _ _ r1
      cases hgg
      obtain ⟨h', ho', hgg, d2⟩ := hall' _ _ r2
      cases hgg
      have e0 : (w.drewN n).cell? ⟨g, go + i * 3, none⟩ = some (.string (bs O.uses[i].name)) := (drewN_cell w n _).trans e0
      have e1 : (w.drewN n).cell? ⟨g, go + i * 3 + 1, none⟩ = some (.string (bs O.uses[i].need)) := (drewN_cell w n _).trans e1
      have e2 : (w.drewN n).cell? ⟨g, go + i * 3 + 2, none⟩ = some (.slice n1 O.uses[i].names.length n2) := (drewN_cell w n _).trans e2
      have d0 : (w.drewN n).cell? ⟨h, ho + i * 3, none⟩ = some (.string (bs O.uses[i].name)) := (drewN_cell w n _).trans d0
      have d1 : (w.drewN n).cell? ⟨h, ho + i * 3 + 1, none⟩ = some (.string (bs O.uses[i].need)) := (drewN_cell w n _).trans d1
      have d2 : (w.drewN n).cell? ⟨h, ho + i * 3 + 2, none⟩ = some (.slice m1 O.uses[i].names.length m2) := (drewN_cell w n _).trans d2
      have hxl := (HBd.out.u _ (List.getElem_mem hlt)).2.1
      have H3 : Hid (∀ k, Calls Tryz.prog 44 #[.slice n1 O.uses[i].names.length n2, .slice m1 O.uses[i].names.length m2] (wr.drewN k) fun e w' => e = .returned (.bool true) ∧ ∃ m, w' = (wr.drewN k).drewN m) := fun k => sameTexts_eq ((q3.below (by rw [hwr]; exact below_drewN w n)).below (below_drewN wr k)) ((r3.below (by rw [hwr]; exact below_drewN w n)).below (below_drewN wr k)) hxl
      rw [← hwr] at e0 e1 e2 d0 d1 d2 k2 k2'
      have HWR := Lib.hid hwr
      have hz1 : g < wr.heap.size := lt_of_cell e0
      have hz2 : h < wr.heap.size := lt_of_cell d0
      have hz3 : b < wr.heap.size := lt_of_cell k2
      have hz4 : b' < wr.heap.size := lt_of_cell k2'
      clear hwr q0 q1 q2 q3 r0 r1 r2 r3 hU1 hU1' hall hall' hxl
      generalize O.uses[i] = x at *
      go_wp2_with fail
      refine wp_region_quiet_lit (by kernel_rfl) (by kernel_rfl) ?_
      try simp only [List.append_eq, List.cons_append, List.nil_append]
      iterate 56 (go_big_quiet_step ((go_at_call 44; exact Calls.quiet_of (H3.out _))))
      refine wpQuiet_nil ?_
      intro _ hw'
      obtain ⟨nq2, hw''⟩ := hw'
      subst hw''
      have HW2 : Hid (wr.drewN nq2 = w.drewN (n + nq2)) := by show _ = _; rw [HWR.out, World.drewN_drewN]
      clear e0 e1 e2 d0 d1 d2 k2 k2' H3
      go_wp2_with fail
      go_roundg (O.uses.length - (i + 1))
      case measure => omega
      case rel => exact ⟨i + 1, n + nq2, by omega, rfl, by go_num, HW2.out⟩
    · have hlt' : ¬ (i : Int) < (O.uses.length : Int) := by omega
      rw [← hwr] at k2
      have HWR := Lib.hid hwr
      have hz3 : b < wr.heap.size := lt_of_cell k2
      clear hwr
      go_wp2_with fail
      go_ret
      exact ⟨rfl, n, HWR.out⟩
end Go.Proofs.YtijhpokclpdjpaaGreatDoor
/- The document's own Write, Right of no object; what ObjWrites asks of an object, as one. -/
namespace Go.Proofs.YtijhpokclpdjpaaGreatDoor
open Go.RowKit
open Ob (Bs)
set_option maxRecDepth 100000 in
set_option maxHeartbeats 400000 in
theorem rright_nil (w : World) : Calls Tryz.prog 9 #[.pointer none] w fun e w' => e = .returned (.bool false) ∧ Below w.heap.size w w' := by
  go_enter Tryz.func9, Tryz.ntmps9
  go_wp2_with fail
  refine wp_region_quiet_lit (by kernel_rfl) (by kernel_rfl) ?_
  simp only [List.append_eq, List.cons_append, List.nil_append]
  iterate 72 (go_big_quiet_step (fail))
  refine wpQuiet_nil ?_
  intro _ hw'
  obtain ⟨nq, hw''⟩ := hw'
  subst hw''
  go_wp2_with fail
  go_ret
  exact ⟨rfl, below_drewN _ _⟩
set_option maxRecDepth 100000 in
set_option maxHeartbeats 400000 in
theorem rwrite_nil (w : World) : Calls Tryz.prog 5 #[.pointer none] w fun e w' => e = .returned (.tuple #[.string ⟨#[]⟩, .int .i64 1]) ∧ Below w.heap.size w w' := by
  go_enter Tryz.func5, Tryz.ntmps5
  go_wp2_with fail
  refine (rright_nil w).mono ?_
  rintro e w1 ⟨rfl, hb1⟩
  go_wp2_with fail
  go_ret2
  exact ⟨rfl, hb1⟩
/- what is asked of an object, wherever it goes on from w -/
structure Ask (w : World) (p : Option Addr) (t : ByteArray) (n : Int) (ev : Value) (rb : Bool) : Prop where
  rw' : ∀ W, Below w.heap.size w W → Calls Tryz.prog 5 #[.pointer p] W fun e w' => e = .returned (.tuple #[.string t, .int .i64 n]) ∧ Below W.heap.size W w'
  ow : ∀ W, Below w.heap.size w W → Calls Tryz.prog 6 #[.pointer p] W fun e w' => e = .returned (.tuple #[.string t, ev]) ∧ Below W.heap.size W w'
  rr : ∀ W, Below w.heap.size w W → Calls Tryz.prog 9 #[.pointer p] W fun e w' => e = .returned (.bool rb) ∧ Below W.heap.size W w'
  orr : ∀ W, Below w.heap.size w W → Calls Tryz.prog 8 #[.pointer p] W fun e w' => e = .returned (.bool rb) ∧ Below W.heap.size W w'
  er : ErrV ev n
theorem ask_nil (w : World) : Ask w none ⟨#[]⟩ 1 (.iface 24 (.int .i64 1)) false :=
  ⟨fun W _ => rwrite_nil W, fun W _ => write_nil W, fun W _ => rright_nil W, fun W _ => right_nil W, Or.inr rfl⟩
theorem ask_oa {w : World} {b o : Nat} {O : Ob.O} (h : OA w b o O) (hB : Bd O) : ∃ t n ev rb, Ask w (some ⟨b, o, none⟩) t n ev rb := by
  have hbel : ∀ W, Below w.heap.size w W → OA W b o O := fun W hW => by
    obtain ⟨sa, ua, va, pa, na, ca, sc, uc, vc, pc, nc, cc, hV⟩ := h
    exact ⟨sa, ua, va, pa, na, ca, sc, uc, vc, pc, nc, cc, hV.below hW⟩
  by_cases hr : Ob.rightB O = true
  · refine ⟨bs (Ob.obW O), 0, .nilIface, true, ⟨fun W hW => ?_, fun W hW => ?_, fun W hW => ?_, fun W hW => ?_, Or.inl ⟨rfl, rfl⟩⟩⟩
    · refine (rwrite_oa (hbel W hW) hB).mono ?_
      rintro e w' ⟨h1, h2⟩
      unfold RWriteP at h1; rw [if_pos hr] at h1
      exact ⟨h1, h2⟩
    · refine (write_oa (hbel W hW) hB).mono ?_
      rintro e w' ⟨h1, h2⟩
      unfold WriteP at h1; rw [if_pos hr] at h1
      exact ⟨h1, h2⟩
    · have := rright_oa (hbel W hW) hB; rw [hr] at this; exact this
    · have := right_oa (hbel W hW) hB; rw [hr] at this; exact this
  · have hf : Ob.rightB O = false := by simpa using hr
    refine ⟨⟨#[]⟩, 1, .iface 24 (.int .i64 1), false, ⟨fun W hW => ?_, fun W hW => ?_, fun W hW => ?_, fun W hW => ?_, Or.inr rfl⟩⟩
    · refine (rwrite_oa (hbel W hW) hB).mono ?_
      rintro e w' ⟨h1, h2⟩
      unfold RWriteP at h1; rw [if_neg hr] at h1
      exact ⟨h1, h2⟩
    · refine (write_oa (hbel W hW) hB).mono ?_
      rintro e w' ⟨h1, h2⟩
      unfold WriteP at h1; rw [if_neg hr] at h1
      exact ⟨h1, h2⟩
    · have := rright_oa (hbel W hW) hB; rw [hf] at this; exact this
    · have := right_oa (hbel W hW) hB; rw [hf] at this; exact this
/- what Read and Parse give of one text: the same, or none -/
def Both (l : Bs) : Prop := parseB l = none ∨ ∃ O, parseB l = some O ∧ Bd O
theorem both_of (l : Bs) (hl : l.length ≤ 1500) : Both l := by
  unfold Both
  rcases hp : parseB l with _ | O
  · exact Or.inl rfl
  · refine Or.inr ⟨O, rfl, ?_⟩
    unfold parseB at hp
    rcases ho : Ob.obR l with _ | ⟨O', r⟩
    · rw [ho] at hp; cases hp
    · rw [ho] at hp
      have := ob_bd (l := l) (by omega) ho
      simp only at hp
      split at hp
      · cases hp; exact this
      · cases hp
end Go.Proofs.YtijhpokclpdjpaaGreatDoor
