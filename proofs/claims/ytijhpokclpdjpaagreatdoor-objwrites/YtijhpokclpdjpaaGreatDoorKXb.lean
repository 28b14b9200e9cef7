import Derived.Test.YtijhpokclpdjpaaGreatDoorKJh
import Derived.Test.YtijhpokclpdjpaaGreatDoorKJe
import Derived.Test.YtijhpokclpdjpaaGreatDoorKJd
import Derived.Laws.IdiomStrings
/- Chapter 6.2 as the document's own reader goes through it: numbers of at most ten bytes; none: it is bad. -/
namespace Ob

/- a number's bytes: how many were there, u so far, what the next seven bits count -/
def nt (i u f : Nat) : Bs → Option (Nat × Bs)
  | [] => none
  | b :: r => if i < 10 then (if b.toNat < 128 then some ((u + b.toNat % 128 * f) % 18446744073709551616, r) else nt (i + 1) ((u + b.toNat % 128 * f) % 18446744073709551616) (f * 128 % 18446744073709551616) r) else none
def numT : Rd Int := fun l => (nt 0 0 1 l).map fun x => (zag x.1, x.2)
def txtT : Rd Bs := fun l => (numT l).bind fun x => if 0 ≤ x.1 ∧ x.1 ≤ (x.2.length : Int) then some (x.2.take x.1.toNat, x.2.drop x.1.toNat) else none
def flagT : Rd Bool := fun l => match l with
  | [] => none
  | b :: r => some (decide (b.toNat = 1), r)
def listT {α : Type} (one : Rd α) : Rd (List α) := fun l => (numT l).bind fun x => repR one x.1.toNat x.2
def symT : Rd Sm := fun l => (txtT l).bind fun x => (numT x.2).bind fun y => (numT y.2).map fun z => (⟨x.1, y.1, z.1⟩, z.2)
def useT : Rd Us := fun l => (txtT l).bind fun x => (txtT x.2).bind fun y => (listT txtT y.2).map fun z => (⟨x.1, y.1, z.1⟩, z.2)
def glT : Rd Gl := fun l => (txtT l).bind fun x => (numT x.2).bind fun y => (flagT y.2).map fun z => (⟨x.1, 0, y.1, z.1⟩, z.2)
def enT : Rd En := fun l => (numT l).bind fun x => (numT x.2).bind fun y => (numT y.2).map fun z => (⟨x.1, y.1, z.1⟩, z.2)
def inT : Rd In := fun l => (numT l).bind fun x => (numT x.2).bind fun y => (numT y.2).map fun z => (⟨x.1, y.1, z.1⟩, z.2)
def obT : Rd O := fun l =>
  (txtT l).bind fun n => (listT symT n.2).bind fun s => (listT useT s.2).bind fun u => (listT glT u.2).bind fun v =>
  (listT txtT v.2).bind fun m => (repR enT m.1.length m.2).bind fun p => (listT inT p.2).map fun c => (⟨n.1, s.1, u.1, v.1, p.1, m.1, c.1⟩, c.2)

theorem nt_vb (u : Nat) : ∀ (i v : Nat) (t : Bs), i ≤ 9 → v < 2 ^ (7 * i) → v + u * 2 ^ (7 * i) < 18446744073709551616 → nt i v (2 ^ (7 * i) % 18446744073709551616) (vb u ++ t) = some (v + u * 2 ^ (7 * i), t) := by
  induction u using Nat.strongRecOn with
  | ind u ih =>
    intro i v t hi hv hlt
    have hp : 2 ^ (7 * i) < 18446744073709551616 := by
      have : 2 ^ (7 * i) ≤ 2 ^ 63 := Nat.pow_le_pow_right (by omega) (by omega)
      omega
    unfold vb
    by_cases h : u < 128
    · rw [if_pos h]
      have e : (UInt8.ofNat u).toNat = u := by rw [UInt8.toNat_ofNat']; omega
      simp only [List.cons_append, List.nil_append, nt]
      rw [if_pos (by omega), e, if_pos h, Nat.mod_eq_of_lt hp, Nat.mod_eq_of_lt h, Nat.mod_eq_of_lt hlt]
    · rw [if_neg h]
      have e : (UInt8.ofNat (u % 128 + 128)).toNat = u % 128 + 128 := by rw [UInt8.toNat_ofNat']; omega
      simp only [List.cons_append, nt]
      have hsp : u * 2 ^ (7 * i) = u % 128 * 2 ^ (7 * i) + u / 128 * 2 ^ (7 * (i + 1)) := by
        rw [show 7 * (i + 1) = 7 * i + 7 by omega, Nat.pow_add, ← Nat.mul_assoc, Nat.mul_right_comm, ← Nat.add_mul]
        congr 1
        have := Nat.div_add_mod u 128
        show u = u % 128 + u / 128 * 128
        omega
      have hpos : 0 < 2 ^ (7 * i) := Nat.pow_pos (by omega)
      have hu1 : 2 ^ (7 * (i + 1)) ≤ u / 128 * 2 ^ (7 * (i + 1)) := Nat.le_mul_of_pos_left _ (by omega)
      have hi' : i + 1 ≤ 9 := by
        by_cases hh : i + 1 ≤ 9
        · exact hh
        · exfalso
          have : 2 ^ 70 ≤ 2 ^ (7 * (i + 1)) := Nat.pow_le_pow_right (by omega) (by omega)
          omega
      have hlo : v + u % 128 * 2 ^ (7 * i) < 2 ^ (7 * (i + 1)) := by
        rw [show 7 * (i + 1) = 7 * i + 7 by omega, Nat.pow_add]
        have h1 : u % 128 * 2 ^ (7 * i) ≤ 127 * 2 ^ (7 * i) := Nat.mul_le_mul_right _ (by omega)
        omega
      rw [if_pos (by omega), e, if_neg (by omega), show (u % 128 + 128) % 128 = u % 128 by omega, Nat.mod_eq_of_lt hp, Nat.mod_eq_of_lt (a := v + u % 128 * 2 ^ (7 * i)) (by omega)]
      rw [show 2 ^ (7 * i) * 128 = 2 ^ (7 * (i + 1)) by rw [show 7 * (i + 1) = 7 * i + 7 by omega, Nat.pow_add]]
      rw [ih (u / 128) (by omega) (i + 1) _ _ hi' hlo (by omega)]
      rw [hsp, Nat.add_assoc]
theorem numT_num {n : Int} (h : I64 n) (t : Bs) : numT (num n ++ t) = some (n, t) := by
  unfold numT num
  have := nt_vb (zig n) 0 0 t (by omega) (by simp) (by have := zig_lt h; simp; omega)
  rw [show (2 ^ (7 * 0) % 18446744073709551616 : Nat) = 1 from rfl] at this
  rw [this]
  simp [zag_zig]
theorem txtT_txt {s : Bs} (t : Bs) (hs : s.length ≤ 1000000000000) : txtT (txt s ++ t) = some (s, t) := by
  unfold txtT
  have e : txt s ++ t = num (s.length : Nat) ++ (s ++ t) := by simp [txt]
  rw [e, numT_num (by unfold I64; omega)]
  simp only [Option.bind_some]
  rw [if_pos ⟨by omega, by simp; omega⟩]
  simp
theorem flagT_app (b : Bool) (t : Bs) : flagT ([if b then 1 else 0] ++ t) = some (b, t) := by
  cases b <;> simp [flagT]
theorem repT_app {α : Type} {one : Rd α} {w : α → Bs} (l : List α) (t : Bs) (h : ∀ x, x ∈ l → ∀ t, one (w x ++ t) = some (x, t)) : repR one l.length ((l.map w).flatten ++ t) = some (l, t) := by
  induction l with
  | nil => rfl
  | cons x l ih =>
    simp only [List.map_cons, List.flatten_cons, List.length_cons, repR, List.append_assoc]
    rw [h x (by simp) _]
    simp only [Option.bind_some]
    rw [ih (fun y hy => h y (by simp [hy]))]
    rfl
theorem listT_lst {α : Type} {one : Rd α} {w : α → Bs} (l : List α) (t : Bs) (hl : l.length ≤ 1000000) (h : ∀ x, x ∈ l → ∀ t, one (w x ++ t) = some (x, t)) : listT one (lst w l ++ t) = some (l, t) := by
  unfold listT lst
  rw [List.append_assoc, numT_num (by unfold I64; omega)]
  simp only [Option.bind_some]
  rw [show ((l.length : Int)).toNat = l.length by omega]
  exact repT_app l t h
end Ob
namespace Go.Proofs.YtijhpokclpdjpaaGreatDoor
open Go.RowKit
open Ob (Bs)
theorem obT_back {O : Ob.O} (h : RB O) (t : Bs) : Ob.obT (Ob.obW O ++ t) = some (O, t) := by
  have htx : ∀ (s t : Bs), s.length ≤ 4000 → Ob.txtT (Ob.txt s ++ t) = some (s, t) := fun s t hs => Ob.txtT_txt t (by omega)
  have hsy : ∀ x, x ∈ O.syms → ∀ t, Ob.symT (Ob.smW x ++ t) = some (x, t) := by
    intro x hx t
    have hh := h.s x hx
    unfold Ob.smW Ob.symT
    simp only [List.append_assoc]
    rw [htx _ _ (by omega)]
    simp only [Option.bind_some]
    rw [Ob.numT_num hh.2.1]
    simp only [Option.bind_some]
    rw [Ob.numT_num hh.2.2]
    rfl
  have hus : ∀ x, x ∈ O.uses → ∀ t, Ob.useT (Ob.usW x ++ t) = some (x, t) := by
    intro x hx t
    have hh := h.u x hx
    unfold Ob.usW Ob.useT
    simp only [List.append_assoc]
    rw [htx _ _ (by omega)]
    simp only [Option.bind_some]
    rw [htx _ _ (by omega)]
    simp only [Option.bind_some]
    rw [Ob.listT_lst x.names t (by omega) (fun y hy t => htx y t (by have := hh.2.2.2 y hy; omega))]
    rfl
  have hgl : ∀ x, x ∈ O.vars → ∀ t, Ob.glT (Ob.glW x ++ t) = some (x, t) := by
    intro x hx t
    have hh := h.v x hx
    unfold Ob.glW Ob.glT
    simp only [List.append_assoc]
    rw [htx _ _ (by omega)]
    simp only [Option.bind_some]
    rw [Ob.numT_num hh.2.2]
    simp only [Option.bind_some]
    rw [Ob.flagT_app]
    obtain ⟨n, a, l, s⟩ := x
    simp only at hh
    rw [hh.2.1]
    rfl
  have hen : ∀ x, x ∈ O.procs → ∀ t, Ob.enT (Ob.enW x ++ t) = some (x, t) := by
    intro x hx t
    have hh := h.p x hx
    unfold Ob.enW Ob.enT
    simp only [List.append_assoc]
    rw [Ob.numT_num hh.1]
    simp only [Option.bind_some]
    rw [Ob.numT_num hh.2.1]
    simp only [Option.bind_some]
    rw [Ob.numT_num hh.2.2]
    rfl
  have hin : ∀ x, x ∈ O.code → ∀ t, Ob.inT (Ob.inW x ++ t) = some (x, t) := by
    intro x hx t
    have hh := h.c x hx
    unfold Ob.inW Ob.inT
    simp only [List.append_assoc]
    rw [Ob.numT_num hh.1]
    simp only [Option.bind_some]
    rw [Ob.numT_num hh.2.1]
    simp only [Option.bind_some]
    rw [Ob.numT_num hh.2.2]
    rfl
  have q1 := h.nm
  have q2 := h.sl
  have q3 := h.ul
  have q4 := h.vl
  have q5 := h.nl
  have q6 := h.cl
  unfold Ob.obW Ob.headW Ob.codeW Ob.obT
  simp only [List.append_assoc]
  rw [htx _ _ (by omega)]
  simp only [Option.bind_some]
  rw [Ob.listT_lst O.syms _ (by omega) hsy]
  simp only [Option.bind_some]
  rw [Ob.listT_lst O.uses _ (by omega) hus]
  simp only [Option.bind_some]
  rw [Ob.listT_lst O.vars _ (by omega) hgl]
  simp only [Option.bind_some]
  rw [Ob.listT_lst O.names _ (by omega) (fun y hy t => htx y t (by have := h.n y hy; omega))]
  simp only [Option.bind_some]
  rw [← h.pn, Ob.repT_app O.procs _ hen]
  simp only [Option.bind_some]
  rw [Ob.listT_lst O.code _ (by omega) hin]
  rfl
/- what comes of the document's Read -/
def readT (l : Bs) : Option Ob.O := match Ob.obT l with
  | some (O, []) => if Ob.rightB O = true ∧ Ob.obW O = l then some O else none
  | _ => none
theorem nt_lt : ∀ (l : Bs) (i u f : Nat) (x : Nat) (r : Bs), Ob.nt i u f l = some (x, r) → x < 18446744073709551616 ∧ r.length < l.length := by
  intro l
  induction l with
  | nil => intro i u f x r h; simp [Ob.nt] at h
  | cons b l ih =>
    intro i u f x r h
    simp only [Ob.nt] at h
    split at h
    · split at h
      · simp at h; rw [← h.2, ← h.1]; exact ⟨Nat.mod_lt _ (by omega), by simp⟩
      · have := ih _ _ _ _ _ h
        exact ⟨this.1, by simp; omega⟩
    · cases h
theorem numT_rng {l r : Bs} {n : Int} (h : Ob.numT l = some (n, r)) : Ob.I64 n ∧ r.length < l.length := by
  unfold Ob.numT at h
  rcases hn : Ob.nt 0 0 1 l with _ | ⟨x, y⟩
  · rw [hn] at h; simp at h
  · rw [hn] at h
    simp at h
    have := nt_lt l 0 0 1 x y hn
    rw [← h.1, ← h.2]
    refine ⟨?_, this.2⟩
    unfold Ob.zag Ob.I64
    split <;> omega
theorem repT_all {α : Type} {one : Ob.Rd α} {P : α → Prop} (h1 : ∀ l x r, one l = some (x, r) → P x) : ∀ (n : Nat) (l r : Bs) (xs : List α), Ob.repR one n l = some (xs, r) → ∀ x ∈ xs, P x := by
  intro n
  induction n with
  | zero => intro l r xs h; simp [Ob.repR] at h; rw [h.1]; simp
  | succ n ih =>
    intro l r xs h
    simp only [Ob.repR] at h
    obtain ⟨⟨x, r1⟩, ho, h⟩ := bind_some' h
    obtain ⟨⟨ys, r2⟩, h2, h⟩ := map_some' h
    cases h
    intro z hz
    rcases List.mem_cons.1 hz with rfl | hz
    · exact h1 _ _ _ ho
    · exact ih _ _ _ h2 z hz
theorem inT_a {l r : Bs} {x : Ob.In} (h : Ob.inT l = some (x, r)) : Ob.I64 x.a := by
  unfold Ob.inT at h
  obtain ⟨⟨a, r1⟩, h1, h⟩ := bind_some' h
  obtain ⟨⟨b, r2⟩, h2, h⟩ := bind_some' h
  obtain ⟨⟨c, r3⟩, h3, h⟩ := map_some' h
  cases h
  exact (numT_rng h2).1
theorem obT_code {l r : Bs} {O : Ob.O} (h : Ob.obT l = some (O, r)) : ∀ x ∈ O.code, Ob.I64 x.a := by
  unfold Ob.obT at h
  obtain ⟨n, h1, h⟩ := bind_some' h
  obtain ⟨s, h2, h⟩ := bind_some' h
  obtain ⟨u, h3, h⟩ := bind_some' h
  obtain ⟨v, h4, h⟩ := bind_some' h
  obtain ⟨m, h5, h⟩ := bind_some' h
  obtain ⟨p, h6, h⟩ := bind_some' h
  obtain ⟨⟨c, r'⟩, h7, h⟩ := map_some' h
  cases h
  unfold Ob.listT at h7
  obtain ⟨k, h8, h9⟩ := bind_some' h7
  exact repT_all (P := fun x => Ob.I64 x.a) (fun l x r hh => inT_a hh) _ _ _ _ h9
theorem obR_code {l r : Bs} {O : Ob.O} (hl : l.length ≤ 1000000000) (h : Ob.obR l = some (O, r)) : ∀ x ∈ O.code, Ob.I64 x.a := (ob_bd hl h).c
theorem readT_eq {l : Bs} (hl : l.length ≤ 1000000000) : readT l = parseB l := by
  rcases hp : parseB l with _ | O
  · rcases hr : readT l with _ | O
    · rfl
    · exfalso
      unfold readT at hr
      rcases ho : Ob.obT l with _ | ⟨O', r⟩
      · rw [ho] at hr; simp at hr
      · rw [ho] at hr
        cases r with
        | cons b r => simp at hr
        | nil =>
          simp only at hr
          split at hr
          · rename_i hc
            cases hr
            have := parseB_back hc.1 (obT_code ho) (by rw [hc.2]; exact hl)
            rw [hc.2, hp] at this
            cases this
          · cases hr
  · obtain ⟨h1, h2, r, h3⟩ := parseB_some hp
    have h4 := obT_back (right_rb h1 (obR_code hl h3)) []
    rw [List.append_nil, h2] at h4
    unfold readT
    rw [h4]
    simp only
    rw [if_pos ⟨h1, h2⟩]
end Go.Proofs.YtijhpokclpdjpaaGreatDoor
/- The document's own: in, low, dig, Name, named. -/
namespace Go.Proofs.YtijhpokclpdjpaaGreatDoor
open Go.RowKit
open Ob (Bs)

set_option maxRecDepth 100000 in
set_option maxHeartbeats 400000 in
theorem rin_any (w : World) (n lo hi : Int) : Calls Tryz.prog 26 #[.int .i64 n, .int .i64 lo, .int .i64 hi] w fun e w' => e = .returned (.bool (decide (lo ≤ n) && decide (n ≤ hi))) ∧ w' = w := by
  obtain ⟨r, hr⟩ : ∃ r, (decide (lo ≤ n) && decide (n ≤ hi)) = r := ⟨_, rfl⟩
  rw [hr]
  have HR := Lib.hid hr
  clear hr
  by_cases h1 : lo ≤ n
  · by_cases h2 : n ≤ hi
    · go_enter Tryz.func26, Tryz.ntmps26
      go_wp2_with fail
      go_ret
      exact ⟨by rw [← HR.out, decide_eq_true h1, decide_eq_true h2]; rfl, rfl⟩
    · go_enter Tryz.func26, Tryz.ntmps26
      go_wp2_with fail
      go_ret
      exact ⟨by rw [← HR.out, decide_eq_true h1, decide_eq_false (p := n ≤ hi) (by omega)]; rfl, rfl⟩
  · go_enter Tryz.func26, Tryz.ntmps26
    go_wp2_with fail
    go_ret
    exact ⟨by rw [← HR.out, decide_eq_false (p := lo ≤ n) (by omega)]; rfl, rfl⟩
def lowB (c : UInt8) : Bool := decide (97 ≤ c.toNat) && decide (c.toNat ≤ 122)
def digB (c : UInt8) : Bool := decide (48 ≤ c.toNat) && decide (c.toNat ≤ 57)
set_option maxRecDepth 100000 in
set_option maxHeartbeats 400000 in
theorem rlow_any (w : World) (c : UInt8) : Calls Tryz.prog 29 #[.int .u8 (c.toNat : Int)] w fun e w' => e = .returned (.bool (lowB c)) ∧ w' = w := by
  have HR : Hid (lowB c = (decide (97 ≤ c.toNat) && decide (c.toNat ≤ 122))) := rfl
  generalize lowB c = r at *
  by_cases h1 : 97 ≤ c.toNat
  · have g1 : (97 : Int) ≤ (c.toNat : Int) := by omega
    by_cases h2 : c.toNat ≤ 122
    · have g2 : (c.toNat : Int) ≤ 122 := by omega
      go_enter Tryz.func29, Tryz.ntmps29
      go_wp2_with fail
      go_ret
      exact ⟨by rw [HR.out, decide_eq_true h1, decide_eq_true h2]; rfl, rfl⟩
    · have g2 : ¬ (c.toNat : Int) ≤ 122 := by omega
      go_enter Tryz.func29, Tryz.ntmps29
      go_wp2_with fail
      go_ret
      exact ⟨by rw [HR.out, decide_eq_true h1, decide_eq_false h2]; rfl, rfl⟩
  · have g1 : ¬ (97 : Int) ≤ (c.toNat : Int) := by omega
    go_enter Tryz.func29, Tryz.ntmps29
    go_wp2_with fail
    go_ret
    exact ⟨by rw [HR.out, decide_eq_false h1]; rfl, rfl⟩
set_option maxRecDepth 100000 in
set_option maxHeartbeats 400000 in
theorem rdig_any (w : World) (c : UInt8) : Calls Tryz.prog 30 #[.int .u8 (c.toNat : Int)] w fun e w' => e = .returned (.bool (digB c)) ∧ w' = w := by
  have HR : Hid (digB c = (decide (48 ≤ c.toNat) && decide (c.toNat ≤ 57))) := rfl
  generalize digB c = r at *
  by_cases h1 : 48 ≤ c.toNat
  · have g1 : (48 : Int) ≤ (c.toNat : Int) := by omega
    by_cases h2 : c.toNat ≤ 57
    · have g2 : (c.toNat : Int) ≤ 57 := by omega
      go_enter Tryz.func30, Tryz.ntmps30
      go_wp2_with fail
      go_ret
      exact ⟨by rw [HR.out, decide_eq_true h1, decide_eq_true h2]; rfl, rfl⟩
    · have g2 : ¬ (c.toNat : Int) ≤ 57 := by omega
      go_enter Tryz.func30, Tryz.ntmps30
      go_wp2_with fail
      go_ret
      exact ⟨by rw [HR.out, decide_eq_true h1, decide_eq_false h2]; rfl, rfl⟩
  · have g1 : ¬ (48 : Int) ≤ (c.toNat : Int) := by omega
    go_enter Tryz.func30, Tryz.ntmps30
    go_wp2_with fail
    go_ret
    exact ⟨by rw [HR.out, decide_eq_false h1]; rfl, rfl⟩
set_option maxRecDepth 100000 in
set_option maxHeartbeats 1000000 in
theorem rname_any (w : World) (s : Bs) (hs : s.length ≤ 1000000000) :
    Calls Tryz.prog 11 #[.string (bs s)] w fun e w' => e = .returned (.bool (Ob.nameB s)) ∧ w' = w := by
  have hz := bs_size s
  have hs' : (s.length : Int) ≤ 1000000000 := by omega
  go_enter Tryz.func11, Tryz.ntmps11
  go_wp2_with fail
  go_loopg [6] s.length (fun k vi wr => ∃ i : Nat, i ≤ s.length ∧ k = s.length - i ∧ vi = .int .i64 (i : Int) ∧ Hid (∀ j (h : j < s.length), j < i → Ob.good j s[j] = true) ∧ wr = w)
  case atStart => exact ⟨0, by omega, by omega, rfl, fun j _ h => by omega, rfl⟩
  case round =>
    obtain ⟨i, hid, hk, rfl, HG, rfl⟩ := hrel
    by_cases hlt : i < s.length
    · have hlt' : (i : Int) < (s.length : Int) := by omega
      have hget := fun h => bs_get s i h hlt
      have HNX : Hid (Ob.good i s[i] = true → ∀ j (h : j < s.length), j < i + 1 → Ob.good j s[j] = true) := by
        intro e j h hj
        by_cases hji : j = i
        · subst hji; exact e
        · exact HG.out j h (by omega)
      have HBD : Hid (Ob.good i s[i] = false → Ob.nameB s = false) := by
        intro e
        unfold Ob.nameB
        rw [Bool.and_eq_false_iff]
        refine Or.inl (decide_eq_false fun hall => ?_)
        rw [hall i hlt] at e
        cases e
      have hgd : Ob.good i s[i] = (lowB s[i] || (digB s[i] && !decide (i = 0))) := rfl
      have HGD := Lib.hid hgd
      clear hgd HG
      generalize Ob.good i s[i] = gd at *
      have HL := Lib.hid (rlow_any wr s[i])
      have HD := Lib.hid (rdig_any wr s[i])
      generalize s[i] = c at *
      generalize lowB c = lb at *
      generalize digB c = db at *
      go_wp2_with fail
      refine HL.out.mono ?_
      rintro e w1 ⟨rfl, rfl⟩
      cases lb with
      | true =>
        have HN := Lib.hid (HNX.out (by rw [HGD.out]; rfl))
        clear HNX HBD HGD
        go_wp2_with fail
        go_roundg (s.length - (i + 1))
        case measure => omega
        case rel => exact ⟨i + 1, by omega, rfl, by go_num, HN, rfl⟩
      | false =>
        by_cases hi0 : i = 0
        · have gi : ((i : Int) == 0) = true := by simp; omega
          have HF := Lib.hid (HBD.out (by rw [HGD.out, decide_eq_true hi0]; cases db <;> rfl))
          clear HNX HBD HGD hi0
          go_wp2_with fail
          go_ret
          exact ⟨by rw [HF.out]; rfl, rfl⟩
        · have gi : ((i : Int) == 0) = false := by simp; omega
          have HGD' : Hid (gd = db) := by show gd = db; rw [HGD.out, decide_eq_false hi0]; cases db <;> rfl
          clear HGD hi0
          go_wp2_with fail
          refine HD.out.mono ?_
          rintro e w1 ⟨rfl, rfl⟩
          cases db with
          | true =>
            have HN := Lib.hid (HNX.out HGD'.out)
            clear HNX HBD
            go_wp2_with fail
            go_roundg (s.length - (i + 1))
            case measure => omega
            case rel => exact ⟨i + 1, by omega, rfl, by go_num, HN, rfl⟩
          | false =>
            have HF := Lib.hid (HBD.out HGD'.out)
            clear HNX HBD
            go_wp2_with fail
            go_ret
            exact ⟨by rw [HF.out]; rfl, rfl⟩
    · have hlt' : ¬ (i : Int) < (s.length : Int) := by omega
      have HNM : Hid (Ob.nameB s = (decide ((1 : Int) ≤ (s.length : Int)) && decide ((s.length : Int) ≤ 10))) := by
        show _ = _
        unfold Ob.nameB
        rw [decide_eq_true (p := ∀ i (h : i < s.length), Ob.good i s[i] = true) (fun j h => HG.out j h (by omega)), Bool.true_and]
        congr 1
        · rw [Bool.eq_iff_iff]; simp only [decide_eq_true_eq]; omega
        · rw [Bool.eq_iff_iff]; simp only [decide_eq_true_eq]; omega
      have HI := Lib.hid (rin_any wr (s.length : Int) 1 10)
      rw [← HNM.out] at HI
      clear HNM HG
      go_wp2_with fail
      refine HI.out.mono ?_
      rintro e w1 ⟨rfl, rfl⟩
      go_wp2_with fail
      go_ret
      exact ⟨rfl, rfl⟩
set_option maxRecDepth 100000 in
set_option maxHeartbeats 1000000 in
theorem rnamed_any {w : World} {a : Option Addr} {cap : Nat} (ns : List Bs) (hS : Sl w (.slice a ns.length cap) 1 ns.length (cellsOf stC ns)) (hl : ns.length ≤ 1000000) (hn : ∀ y ∈ ns, y.length ≤ 1000000000) :
    Calls Tryz.prog 27 #[.slice a ns.length cap] w fun e w' => e = .returned (.bool (ns.all Ob.nameB)) ∧ w' = w := by
  have HS := Lib.hid hS
  have HN := Lib.hid hn
  have hl' : (ns.length : Int) ≤ 1000000 := by omega
  have HB : Hid (ns.all Ob.nameB = ns.all Ob.nameB) := rfl
  clear hS hn
  go_enter Tryz.func27, Tryz.ntmps27
  go_wp2_with fail
  go_loopg [7] ns.length (fun k vi wr => ∃ i : Nat, i ≤ ns.length ∧ k = ns.length - i ∧ vi = .int .i64 (i : Int) ∧ Hid (ns.all Ob.nameB = (ns.drop i).all Ob.nameB) ∧ wr = w)
  case atStart => exact ⟨0, by omega, by omega, rfl, rfl, rfl⟩
  case round =>
    obtain ⟨i, hid, hk, rfl, HG, rfl⟩ := hrel
    by_cases hlt : i < ns.length
    · have hlt' : (i : Int) < (ns.length : Int) := by omega
      obtain ⟨g, go, rfl, hgl, hcell⟩ := HS.out.at' stC_len (by omega) i hlt
      have e0 : wr.cell? ⟨g, go + i * 1, none⟩ = some (.string (bs ns[i])) := hcell 0 _ rfl
      rw [Nat.mul_one] at e0
      have HC := Lib.hid (rname_any wr ns[i] (HN.out _ (List.getElem_mem hlt)))
      have HD : Hid (ns.all Ob.nameB = (Ob.nameB ns[i] && (ns.drop (i + 1)).all Ob.nameB)) := by
        show _ = _
        rw [HG.out, List.drop_eq_getElem_cons hlt, List.all_cons]
      generalize ns[i] = x at *
      clear hcell HG HB
      generalize Ob.nameB x = xb at *
      go_wp2_with fail
      refine HC.out.mono ?_
      rintro e w1 ⟨rfl, rfl⟩
      cases xb with
      | true =>
        go_wp2_with fail
        go_roundg (ns.length - (i + 1))
        case measure => omega
        case rel => exact ⟨i + 1, by omega, rfl, by go_num, by rw [HD.out, Bool.true_and]; exact rfl, rfl⟩
      | false =>
        go_wp2_with fail
        go_ret
        exact ⟨by rw [HD.out]; rfl, rfl⟩
    · have hlt' : ¬ (i : Int) < (ns.length : Int) := by omega
      have HD : Hid (ns.all Ob.nameB = true) := by show _ = _; rw [HG.out, List.drop_eq_nil_of_le (by omega)]; rfl
      clear HG HB
      go_wp2_with fail
      go_ret
      exact ⟨by rw [HD.out]; rfl, rfl⟩
end Go.Proofs.YtijhpokclpdjpaaGreatDoor
/- The document's own: number, text, texts. -/
namespace Go.Proofs.YtijhpokclpdjpaaGreatDoor
open Go.RowKit
open Ob (Bs)

theorem bs_app (a b : Bs) : bs a ++ bs b = bs (a ++ b) := by apply ByteArray.ext; simp [bs, ByteArray.data_append]
theorem conv1 (W : World) (b : Nat) (c : UInt8) (h0 : W.cell? ⟨b, 0, none⟩ = some (.int .u8 (c.toNat : Int))) : (convert 62 9 (.slice (some ⟨b, 0, none⟩) 1 1)).run Tryz.prog W = .ok (.string (bs [c])) W := by
  refine run_convert_bytes_back (P := Tryz.prog) W 62 9 5 ⟨b, 0, none⟩ 1 [c] Tryz.underlying62 Tryz.underlying5 Tryz.underlying9 ?_
  intro j hj
  rw [Addr.add_lit]
  match j, hj with
  | 0, _ => exact h0
  | k + 1, hk => exact absurd hk (by simp)
theorem conv1' (W : World) (c : UInt8) (t : TypeId) : (convert 62 9 (.slice (some ⟨W.heap.size, 0, none⟩) 1 1)).run Tryz.prog (W.alloc (.cells #[.int .u8 (c.toNat : Int)] t)) = .ok (.string (bs [c])) (W.alloc (.cells #[.int .u8 (c.toNat : Int)] t)) :=
  conv1 _ _ c (cell_blk (new_blk W _))
set_option maxRecDepth 100000 in
set_option maxHeartbeats 1000000 in
theorem rnumber_any (w : World) (n : Int) (hn : Ob.I64 n) : Calls Tryz.prog 16 #[.int .i64 n] w fun e w' => e = .returned (.string (bs (Ob.num n))) ∧ Below w.heap.size w w' := by
  have hzl := Ob.zig_lt hn
  have hcase : (n < 0 ∧ ∃ b : Nat, IntKind.u64.wrap (IntKind.u64.wrap n * 2) = (b : Int) ∧ Go.bits .xor .u64 IntKind.u64.max (b : Int) = (Ob.zig n : Int)) ∨ (¬ n < 0 ∧ IntKind.u64.wrap (IntKind.u64.wrap n * 2) = (Ob.zig n : Int)) := by
    by_cases h0 : n < 0
    · exact Or.inl ⟨h0, zig_neg hn h0⟩
    · exact Or.inr ⟨h0, zig_pos hn h0⟩
  obtain ⟨T, hT⟩ : ∃ T, Ob.num n = T := ⟨_, rfl⟩
  have hTL : T.length ≤ 10 := by rw [← hT]; exact num_len hn
  have HT : Hid (Ob.vb (Ob.zig n) = T) := hT
  rw [hT]
  clear hT hn
  generalize Ob.zig n = z at *
  rcases hcase with ⟨h0, b, ez1, ez2⟩ | ⟨h0, ez1⟩
  all_goals
    go_enter Tryz.func16, Tryz.ntmps16
    go_wp2_with fail
    go_loopg [3, 4] z (fun k vu vs wr => ∃ (u : Nat) (m : Bs), k = u ∧ vu = .int .u64 (u : Int) ∧ vs = .string (bs m) ∧ u < 18446744073709551616 ∧ Hid (m ++ Ob.vb u = T) ∧ Hid (Below w.heap.size w wr))
    case atStart => exact ⟨z, [], rfl, rfl, rfl, hzl, HT, Below.refl _ _⟩
    case round =>
      obtain ⟨u, m, hk, rfl, rfl, hu, HM, HB⟩ := hrel
      clear HT ez1 h0
      have hml : m.length < 10 := by
        have := congrArg List.length HM.out
        have h3 := Ob.vb_pos u
        rw [List.length_append] at this
        omega
      have hsz : ¬ 9223372036854775807 < (bs m).size + 1 := by rw [bs_size]; omega
      by_cases hge : u < 128
      · have hge' : (u : Int) ≤ 127 := by omega
        have ew : IntKind.u8.wrap (u : Int) = (((UInt8.ofNat u).toNat : Nat) : Int) := by rw [IntKind.wrap_u8', UInt8.toNat_ofNat']; omega
        have HV : Hid (T = m ++ [UInt8.ofNat u]) := by rw [← HM.out]; unfold Ob.vb; rw [if_pos hge]; exact rfl
        have hs1 : (bs [UInt8.ofNat u]).size = 1 := rfl
        have hcv := conv1' wr (UInt8.ofNat u) 5
        generalize UInt8.ofNat u = c at *
        clear hge HM
        go_wp2_with fail
        go_ret
        exact ⟨by rw [HV.out, ← bs_app]; rfl, HB.out.alloc HB.out.size _⟩
      · have hge' : ¬ (u : Int) ≤ 127 := by omega
        obtain ⟨q, hq⟩ : ∃ q : Nat, q = u % 128 := ⟨_, rfl⟩
        obtain ⟨d, hd⟩ : ∃ d : Nat, d = u / 128 := ⟨_, rfl⟩
        have e0 : (u : Int) % 128 = (q : Int) := by omega
        have ew : (q : Int) + 128 = (((UInt8.ofNat (u % 128 + 128)).toNat : Nat) : Int) := by rw [UInt8.toNat_ofNat']; omega
        have eq' : (u : Int) / 128 = (d : Int) := by omega
        have HV : Hid (m ++ [UInt8.ofNat (u % 128 + 128)] ++ Ob.vb (u / 128) = T) := by
          show _ = _
          rw [← HM.out, List.append_assoc]
          congr 1
          conv => rhs; unfold Ob.vb
          rw [if_neg hge]
          rfl
        rw [← hd] at HV
        have hs1 : (bs [UInt8.ofNat (u % 128 + 128)]).size = 1 := rfl
        have hcv := conv1' wr (UInt8.ofNat (u % 128 + 128)) 5
        have hul : d < 18446744073709551616 := by omega
        have HDC : Hid (d < u) := by show d < u; omega
        generalize UInt8.ofNat (u % 128 + 128) = c at *
        clear hge HM hq hd
        go_wp2_with fail
        go_roundg d
        case measure => have := HDC.out; omega
        case rel => exact ⟨d, m ++ [c], rfl, by go_num, by rw [← bs_app], hul, HV, HB.out.alloc HB.out.size _⟩
set_option maxRecDepth 100000 in
set_option maxHeartbeats 1000000 in
theorem rn_any (w : World) (n : Int) (hn : Ob.I64 n) : Calls Tryz.prog 15 #[.int .i64 n] w fun e w' => e = .returned (.string (bs (Ob.num n))) ∧ Below w.heap.size w w' := by
  have HC := Lib.hid (rnumber_any w n hn)
  generalize bs (Ob.num n) = T at *
  clear hn
  go_enter Tryz.func15, Tryz.ntmps15
  go_wp2_with fail
  refine HC.out.mono ?_
  rintro e w1 ⟨rfl, hb⟩
  go_wp2_with fail
  go_ret
  exact ⟨rfl, hb⟩
set_option maxRecDepth 100000 in
set_option maxHeartbeats 1000000 in
theorem rtext_any (w : World) (s : Bs) (hs : s.length ≤ 1000000) : Calls Tryz.prog 17 #[.string (bs s)] w fun e w' => e = .returned (.string (bs (Ob.txt s))) ∧ Below w.heap.size w w' := by
  have hz := bs_size s
  have hI : Ob.I64 (s.length : Int) := by unfold Ob.I64; omega
  have HC := Lib.hid (rnumber_any w (s.length : Int) hI)
  have hnl := num_len hI
  have HT : Hid (bs (Ob.txt s) = bs (Ob.num (s.length : Int)) ++ bs s) := by show _ = _; rw [bs_app]; rfl
  have hsz : ¬ 9223372036854775807 < (bs (Ob.num (s.length : Int))).size + s.length := by rw [bs_size]; omega
  have hs' : (s.length : Int) ≤ 1000000 := by omega
  generalize bs (Ob.txt s) = T at *
  generalize bs (Ob.num (s.length : Int)) = N at *
  clear hI hnl
  go_enter Tryz.func17, Tryz.ntmps17
  go_wp2_with fail
  refine HC.out.mono ?_
  rintro e w1 ⟨rfl, hb⟩
  go_wp2_with fail
  go_ret
  exact ⟨by rw [HT.out]; rfl, hb⟩
set_option maxRecDepth 100000 in
set_option maxHeartbeats 1000000 in
theorem rtexts_any {w : World} {a : Option Addr} {cap : Nat} (ns : List Bs) (hS : Sl w (.slice a ns.length cap) 1 ns.length (cellsOf stC ns)) (hl : ns.length ≤ 1000) (hn : ∀ y ∈ ns, y.length ≤ 1000) :
    Calls Tryz.prog 18 #[.slice a ns.length cap] w fun e w' => e = .returned (.string (bs (Ob.lst Ob.txt ns))) ∧ Below w.heap.size w w' := by
  have hI : Ob.I64 (ns.length : Int) := by unfold Ob.I64; omega
  have HC := Lib.hid (rnumber_any w (ns.length : Int) hI)
  have hnl := num_len hI
  have HS := Lib.hid hS
  have HN := Lib.hid hn
  have hl' : (ns.length : Int) ≤ 1000 := by omega
  obtain ⟨T, hT⟩ : ∃ T, bs (Ob.lst Ob.txt ns) = T := ⟨_, rfl⟩
  have HT : Hid (T = bs (Ob.num (ns.length : Int) ++ (ns.map Ob.txt).flatten)) := by show _ = _; rw [← hT]; rfl
  rw [hT]
  clear hT hI hS hn
  obtain ⟨t0, ht0⟩ : ∃ t0, Ob.num (ns.length : Int) = t0 := ⟨_, rfl⟩
  rw [ht0] at HC HT hnl
  clear ht0
  go_enter Tryz.func18, Tryz.ntmps18
  go_wp2_with fail
  refine HC.out.mono ?_
  rintro e w1 ⟨rfl, hb⟩
  have HB1 := Lib.hid hb
  clear hb HC
  go_wp2_with fail
  go_loopg [3, 11] ns.length (fun k vs vi wr => ∃ (i : Nat) (m : Bs), i ≤ ns.length ∧ k = ns.length - i ∧ vi = .int .i64 (i : Int) ∧ vs = .string (bs m) ∧ Hid (m = t0 ++ ((ns.take i).map Ob.txt).flatten) ∧ m.length ≤ 10 + 1010 * i ∧ Hid (Below w.heap.size w wr))
  case atStart => exact ⟨0, t0, by omega, by omega, rfl, rfl, by show _ = _; simp, by omega, HB1⟩
  case round =>
    obtain ⟨i, m, hid, hk, rfl, rfl, HM, hml, HB⟩ := hrel
    by_cases hlt : i < ns.length
    · have hlt' : (i : Int) < (ns.length : Int) := by omega
      obtain ⟨g, go, rfl, hgl, hcell⟩ := HS.out.at' stC_len (by omega) i hlt
      have e0 : wr.cell? ⟨g, go + i, none⟩ = some (.string (bs ns[i])) := by have := (HB.out.cell (p := ⟨g, go + i * 1, none⟩) hgl).trans (hcell 0 _ rfl); rwa [Nat.mul_one] at this
      have hgw := lt_of_cell e0
      have hxl := HN.out _ (List.getElem_mem hlt)
      have HC := Lib.hid (rtext_any wr ns[i] (by omega))
      have htl := txt_len (s := ns[i]) (by omega)
      have HD : Hid (m ++ Ob.txt ns[i] = t0 ++ ((ns.take (i + 1)).map Ob.txt).flatten) := by show _ = _; rw [HM.out, part_next Ob.txt t0 ns i hlt]
      generalize ns[i] = x at *
      have hsz : ¬ 9223372036854775807 < (bs m).size + (bs (Ob.txt x)).size := by rw [bs_size, bs_size]; omega
      have hml2 : (m ++ Ob.txt x).length ≤ 10 + 1010 * (i + 1) := by rw [List.length_append]; omega
      have HA : Hid (bs m ++ bs (Ob.txt x) = bs (m ++ Ob.txt x)) := bs_app _ _
      clear hcell HM hml htl
      generalize m ++ Ob.txt x = m2 at *
      generalize bs (Ob.txt x) = bx at *
      generalize bs m = bm at *
      go_wp2_with fail
      refine HC.out.mono ?_
      rintro e w2 ⟨rfl, hb⟩
      have HB2 := Lib.hid (HB.out.trans (hb.mono HB.out.size))
      clear hb
      go_wp2_with fail
      go_roundg (ns.length - (i + 1))
      case measure => omega
      case rel => exact ⟨i + 1, m2, by omega, rfl, by go_num, by rw [HA.out], HD, hml2, HB2⟩
    · have hlt' : ¬ (i : Int) < (ns.length : Int) := by omega
      have HD : Hid (T = bs m) := by show _ = _; rw [HT.out, HM.out, List.take_of_length_le (by omega)]
      clear HM
      go_wp2_with fail
      go_ret
      exact ⟨by rw [HD.out]; rfl, HB.out⟩
end Go.Proofs.YtijhpokclpdjpaaGreatDoor
/- The document's own reader: num, text, times. -/
namespace Go.Proofs.YtijhpokclpdjpaaGreatDoor
open Go.RowKit
open Ob (Bs)

/- the taker's own block: what is left, and whether it is bad; none: it is bad -/
structure Tk (w : World) (tb : Nat) (st : Option Bs) : Prop where
  c : ∃ l : Bs, w.heap[tb]? = some (.cells #[.string (bs l), .bool st.isNone] 76 (0, 0)) ∧ l.length ≤ 999999 ∧ ∀ r, st = some r → r = l
theorem Tk.ext {w w' : World} {tb : Nat} {st : Option Bs} (h : Tk w tb st) (hb : Below w.heap.size w w') : Tk w' tb st := by
  obtain ⟨l, h1, h2⟩ := h.c
  exact ⟨l, (hb.block tb (lt_blk h1)).trans h1, h2⟩
theorem Tk.lt {w : World} {tb : Nat} {st : Option Bs} (h : Tk w tb st) : tb < w.heap.size := by
  obtain ⟨l, h1, h2⟩ := h.c
  exact lt_blk h1
/- what a call that takes leaves: a value; or, if it is bad, any value of its kind -/
def Tp {α : Type} (tb : Nat) (w : World) (val : α → Value) (rd : Ob.Rd α) (st : Option Bs) (e : Ending) (w' : World) : Prop :=
  ∃ x, e = .returned (val x) ∧ Ext tb w w' ∧ Tk w' tb ((st.bind rd).map (·.2)) ∧ ∀ y r, st.bind rd = some (y, r) → y = x
theorem not_u64 (n : Nat) (h : n < 9223372036854775808) : IntKind.i64.wrap (Go.bits .xor .u64 IntKind.u64.max (n : Int)) = -(n : Int) - 1 := by
  have e : IntKind.u64.max = 18446744073709551615 := rfl
  rw [e, not64 n (by omega), IntKind.wrap_i64]
  omega
set_option maxRecDepth 100000 in
set_option maxHeartbeats 2000000 in
theorem tnum_any {w : World} {tb : Nat} {st : Option Bs} (h : Tk w tb st) :
    Calls Tryz.prog 33 #[.pointer (some ⟨tb, 0, none⟩)] w fun e w' => Tp tb w (fun n => .int .i64 n) Ob.numT st e w' ∧ ∀ n, e = .returned (.int .i64 n) → Ob.I64 n := by
  obtain ⟨l, hblk, hl, hst⟩ := h.c
  have hsz := bs_size l
  have htl := lt_blk hblk
  have c0 : w.cell? ⟨tb, 0, none⟩ = some (.string (bs l)) := cell_blk hblk
  have c1 : w.cell? ⟨tb, 1, none⟩ = some (.bool st.isNone) := cell_blk hblk
  have f0 : w.frozen? ⟨tb, 0, none⟩ = false := frozen_blk hblk
  have f1 : w.frozen? ⟨tb, 1, none⟩ = false := frozen_blk hblk
  have hl' : (l.length : Int) ≤ 999999 := by omega
  have HBLK := Lib.hid hblk
  have HST := Lib.hid hst
  have HH := Lib.hid h
  have HBAD : Hid (st.bind Ob.numT = none → Tp tb w (fun n => .int .i64 n) Ob.numT st (.returned (.int .i64 0)) (w.setCell ⟨tb, 1, none⟩ (.bool true))) := fun hn => by
    refine ⟨0, rfl, (Ext.refl _ _).set 1 _, ?_, fun y r he => by rw [hn] at he; cases he⟩
    rw [hn]
    exact ⟨l, set_blk 1 (.bool true) hblk, hl, fun r hr => by cases hr⟩
  clear hblk hst h hl
  cases st with
  | none =>
    have HB := Lib.hid (HBAD.out rfl)
    clear HBAD
    simp only [Option.isNone_none] at c1
    generalize Tp tb w (fun n => Value.int .i64 n) Ob.numT none = TP at *
    go_enter Tryz.func33, Tryz.ntmps33
    go_wp2_with fail
    go_loopg [3, 4, 5] 0 (fun k vu vf vi wr => vi = .int .i64 0 ∧ vu = .int .u64 0 ∧ vf = .int .u64 1 ∧ wr = w)
    case atStart => exact ⟨rfl, rfl, rfl, rfl⟩
    case round =>
      obtain ⟨rfl, rfl, rfl, rfl⟩ := hrel
      by_cases h0 : (0 : Int) < (l.length : Int)
      all_goals
        go_wp2_with fail
        go_ret
        exact ⟨HB.out, fun n hn => by cases hn; unfold Ob.I64; omega⟩
  | some r0 =>
    obtain rfl := HST.out r0 rfl
    simp only [Option.isNone_some] at c1
    obtain ⟨TP, hTP⟩ : ∃ TP, Tp tb w (fun n => Value.int .i64 n) Ob.numT (some r0) = TP := ⟨_, rfl⟩
    have HTP := Lib.hid hTP
    rw [hTP] at HBAD ⊢
    clear hTP HST
    have HBAD' : Hid (Ob.nt 0 0 1 r0 = none → TP (.returned (.int .i64 0)) (w.setCell ⟨tb, 1, none⟩ (.bool true))) := fun hn => HBAD.out (by show Ob.numT r0 = none; unfold Ob.numT; rw [hn]; rfl)
    clear HBAD
    go_enter Tryz.func33, Tryz.ntmps33
    go_wp2_with fail
    go_loopg [3, 4, 5] (r0.length + 1) (fun k vu vf vi wr => ∃ (u f i : Nat), i ≤ r0.length ∧ k = r0.length + 1 - i ∧ vu = .int .u64 (u : Int) ∧ vf = .int .u64 (f : Int) ∧ vi = .int .i64 (i : Int) ∧ u < 18446744073709551616 ∧ f < 18446744073709551616 ∧ Hid (Ob.nt i u f (r0.drop i) = Ob.nt 0 0 1 r0) ∧ wr = w)
    case atStart => exact ⟨0, 1, 0, by omega, by omega, rfl, rfl, rfl, by omega, by omega, rfl, rfl⟩
    case round =>
      obtain ⟨u, f, i, hid, hk, rfl, rfl, rfl, hu, hf, HN, rfl⟩ := hrel
      by_cases hlt : i < r0.length
      · have hlt' : (i : Int) < (r0.length : Int) := by omega
        by_cases h10 : i < 10
        · have h10' : (i : Int) < 10 := by omega
          have hget := fun h => bs_get r0 i h hlt
          have HN2 : Hid (Ob.nt 0 0 1 r0 = if r0[i].toNat < 128 then some ((u + r0[i].toNat % 128 * f) % 18446744073709551616, r0.drop (i + 1)) else Ob.nt (i + 1) ((u + r0[i].toNat % 128 * f) % 18446744073709551616) (f * 128 % 18446744073709551616) (r0.drop (i + 1))) := by
            show _ = _
            rw [← HN.out, List.drop_eq_getElem_cons hlt]
            show (if i < 10 then _ else _) = _
            rw [if_pos h10]
          generalize r0[i] = c at *
          have hcl := c.toNat_lt
          obtain ⟨q, hq⟩ : ∃ q : Nat, q = c.toNat % 128 := ⟨_, rfl⟩
          have e0 : (c.toNat : Int) % 128 = (q : Int) := by omega
          obtain ⟨p, hp⟩ : ∃ p : Nat, p = (q * f) % 18446744073709551616 := ⟨_, rfl⟩
          have e1 : IntKind.u64.wrap ((q : Int) * (f : Int)) = (p : Int) := by rw [IntKind.wrap_u64, hp]; simp
          obtain ⟨u2, hu2⟩ : ∃ u2 : Nat, u2 = (u + p) % 18446744073709551616 := ⟨_, rfl⟩
          have e2 : IntKind.u64.wrap ((u : Int) + (p : Int)) = (u2 : Int) := by rw [IntKind.wrap_u64, hu2]; simp
          obtain ⟨f2, hf2⟩ : ∃ f2 : Nat, f2 = (f * 128) % 18446744073709551616 := ⟨_, rfl⟩
          have e3 : IntKind.u64.wrap ((f : Int) * 128) = (f2 : Int) := by rw [IntKind.wrap_u64, hf2]; simp
          have hu2l : u2 < 18446744073709551616 := by omega
          have hf2l : f2 < 18446744073709551616 := by omega
          have HU2 : Hid ((u + c.toNat % 128 * f) % 18446744073709551616 = u2) := by show _ = _; rw [hu2, hp, hq]; simp
          rw [HU2.out, ← hf2] at HN2
          clear hq hp hu2 hf2 HU2 HN
          have HGOOD : Hid (∀ x r, Ob.nt 0 0 1 r0 = some (x, r) → r.length ≤ r0.length → TP (.returned (.int .i64 (Ob.zag x))) (wr.setCell ⟨tb, 0, none⟩ (.string (bs r)))) := fun x r he hr => by
            rw [← HTP.out]
            have he2 : (some r0).bind Ob.numT = some (Ob.zag x, r) := by show Ob.numT r0 = _; unfold Ob.numT; rw [he]; rfl
            refine ⟨Ob.zag x, rfl, (Ext.refl _ _).set 0 _, ?_, fun y r' hy => by rw [he2] at hy; cases hy; rfl⟩
            rw [he2]
            exact ⟨r, set_blk 0 (.string (bs r)) HBLK.out, by omega, fun r' hr' => by cases hr'; rfl⟩
          by_cases hc : c.toNat < 128
          · have hc' : (c.toNat : Int) < 128 := by omega
            have HE : Hid (Ob.nt 0 0 1 r0 = some (u2, r0.drop (i + 1))) := by show _ = _; rw [HN2.out, if_pos hc]
            have HTPx := Lib.hid (HGOOD.out _ _ HE.out (by simp))
            have HZI : Hid (Ob.I64 (Ob.zag u2)) := by show Ob.I64 _; unfold Ob.zag Ob.I64; split <;> omega
            have ex : (bs r0).extract (i + 1) r0.length = bs (r0.drop (i + 1)) := by
              apply ByteArray.ext; simp [bs, ByteArray.data_extract]; exact List.take_of_length_le (by simp)
            obtain ⟨d, hd⟩ : ∃ d : Nat, d = u2 / 2 := ⟨_, rfl⟩
            have e4 : (u2 : Int) / 2 = (d : Int) := by omega
            have hdl : d < 9223372036854775808 := by omega
            generalize bs (r0.drop (i + 1)) = rb at *
            by_cases hodd : u2 % 2 = 1
            · have e5 : (u2 : Int) % 2 = 1 := by omega
              obtain ⟨nb, hnb⟩ : ∃ nb : Nat, Go.bits .xor .u64 IntKind.u64.max (d : Int) = (nb : Int) := ⟨18446744073709551615 - d, by rw [show IntKind.u64.max = 18446744073709551615 from rfl, not64 d (by omega)]⟩
              have hz : IntKind.i64.wrap (nb : Int) = Ob.zag u2 := by
                rw [← hnb, not_u64 d hdl]; unfold Ob.zag; rw [if_pos hodd, ← hd]
              have HZ : Hid (wrap64 (nb : Int) = Ob.zag u2) := by first | exact hz | (show _ = _; rw [← hz]; simp [wrap64, IntKind.wrap_i64])
              generalize Ob.zag u2 = z at *
              clear hc HN2 HE HGOOD HBAD' hd hodd hz
              go_wp2_with fail
              go_ret
              rw [← HZ.out] at HTPx HZI
              exact ⟨HTPx.out, fun n hn => by cases hn; exact HZI.out⟩
            · have e5 : (u2 : Int) % 2 = 0 := by omega
              have hz : (d : Int) = Ob.zag u2 := by unfold Ob.zag; rw [if_neg hodd, ← hd]
              have HZ := Lib.hid hz
              generalize Ob.zag u2 = z at *
              clear hc HN2 HE HGOOD HBAD' hd hodd hz
              go_wp2_with fail
              go_ret
              rw [← HZ.out] at HTPx HZI
              exact ⟨HTPx.out, fun n hn => by cases hn; exact HZI.out⟩
          · have hc' : ¬ (c.toNat : Int) < 128 := by omega
            have HE : Hid (Ob.nt (i + 1) u2 f2 (r0.drop (i + 1)) = Ob.nt 0 0 1 r0) := by show _ = _; rw [HN2.out, if_neg hc]
            clear hc HN2 HGOOD
            go_wp2_with fail
            go_roundg (r0.length + 1 - (i + 1))
            case measure => omega
            case rel => exact ⟨u2, f2, i + 1, by omega, rfl, by go_num, by go_num, by go_num, hu2l, hf2l, HE, rfl⟩
        · have h10' : ¬ (i : Int) < 10 := by omega
          have HE : Hid (Ob.nt 0 0 1 r0 = none) := by
            show _ = _
            rw [← HN.out, List.drop_eq_getElem_cons hlt]
            show (if i < 10 then _ else _) = _
            rw [if_neg h10]
          have HB := Lib.hid (HBAD'.out HE.out)
          clear HBAD' HE HN
          go_wp2_with fail
          go_ret
          exact ⟨HB.out, fun n hn => by cases hn; unfold Ob.I64; omega⟩
      · have hlt' : ¬ (i : Int) < (r0.length : Int) := by omega
        have HE : Hid (Ob.nt 0 0 1 r0 = none) := by
          show _ = _
          rw [← HN.out, List.drop_eq_nil_of_le (by omega)]
          rfl
        have HB := Lib.hid (HBAD'.out HE.out)
        clear HBAD' HE HN
        go_wp2_with fail
        go_ret
        exact ⟨HB.out, fun n hn => by cases hn; unfold Ob.I64; omega⟩
theorem txtT_none {st : Option Bs} (h : st.bind Ob.numT = none) : st.bind Ob.txtT = none := by
  cases st with
  | none => rfl
  | some l =>
    have h' : Ob.numT l = none := h
    show Ob.txtT l = none
    unfold Ob.txtT
    rw [h']
    rfl
theorem txtT_some {st : Option Bs} {n : Int} {r : Bs} (h : st.bind Ob.numT = some (n, r)) : st.bind Ob.txtT = if 0 ≤ n ∧ n ≤ (r.length : Int) then some (r.take n.toNat, r.drop n.toNat) else none := by
  cases st with
  | none => cases h
  | some l =>
    have h' : Ob.numT l = some (n, r) := h
    show Ob.txtT l = _
    unfold Ob.txtT
    rw [h']
    rfl
set_option maxRecDepth 100000 in
set_option maxHeartbeats 2000000 in
theorem ttext_aux {w : World} {tb : Nat} {st : Option Bs} (h : Tk w tb st) :
    Calls Tryz.prog 31 #[.pointer (some ⟨tb, 0, none⟩)] w fun e w' => (∃ s : Bs, e = .returned (.string (bs s)) ∧ s.length ≤ 1000000 ∧ Ext tb w w' ∧ Tk w' tb ((st.bind Ob.txtT).map (·.2)) ∧ (∀ y r, st.bind Ob.txtT = some (y, r) → y = s)) ∧ True := by
  have HC := Lib.hid (tnum_any h)
  clear h
  obtain ⟨PP, hPP⟩ : ∃ PP : Ending → World → Prop, (fun e w' => ∃ s : Bs, e = .returned (.string (bs s)) ∧ s.length ≤ 1000000 ∧ Ext tb w w' ∧ Tk w' tb ((st.bind Ob.txtT).map (·.2)) ∧ ∀ y r, st.bind Ob.txtT = some (y, r) → y = s) = PP := ⟨_, rfl⟩
  have HPP : Hid (∀ e w', (∃ s : Bs, e = .returned (.string (bs s)) ∧ s.length ≤ 1000000 ∧ Ext tb w w' ∧ Tk w' tb ((st.bind Ob.txtT).map (·.2)) ∧ ∀ y r, st.bind Ob.txtT = some (y, r) → y = s) → PP e w') := fun e w' hh => by rw [← hPP]; exact hh
  have hPP2 : ∀ e w', (∃ s : Bs, e = .returned (.string (bs s)) ∧ s.length ≤ 1000000 ∧ Ext tb w w' ∧ Tk w' tb ((st.bind Ob.txtT).map (·.2)) ∧ (∀ y r, st.bind Ob.txtT = some (y, r) → y = s)) = PP e w' := fun e w' => congrFun (congrFun hPP e) w'
  simp only [hPP2]
  clear hPP hPP2
  go_enter Tryz.func31, Tryz.ntmps31
  go_wp2_with fail
  refine HC.out.mono ?_
  rintro e w1 ⟨⟨n, rfl, hx1, htk, hval⟩, hI⟩
  have hnI := hI n rfl
  obtain ⟨l, hblk, hl, hst⟩ := htk.c
  have hsz := bs_size l
  have htl := lt_blk hblk
  have c0 : w1.cell? ⟨tb, 0, none⟩ = some (.string (bs l)) := cell_blk hblk
  have f0 : w1.frozen? ⟨tb, 0, none⟩ = false := frozen_blk hblk
  have hg1 : ∃ bb, w1.cell? ⟨tb, 1, none⟩ = some (.bool bb) := ⟨_, cell_blk hblk⟩
  obtain ⟨bb, c1⟩ := hg1
  have f1 : w1.frozen? ⟨tb, 1, none⟩ = false := frozen_blk hblk
  have hl' : (l.length : Int) ≤ 999999 := by omega
  have HBAD : Hid ((n < 0 ∨ (l.length : Int) < n) → PP (.returned (.string ⟨#[]⟩)) (w1.setCell ⟨tb, 1, none⟩ (.bool true))) := fun hn => by
    refine HPP.out _ _ ⟨[], rfl, by simp, hx1.trans ((Ext.refl _ _).set 1 _), ?_, ?_⟩
    all_goals
      have hno : st.bind Ob.txtT = none := by
        rcases hb : st.bind Ob.numT with _ | ⟨n', r⟩
        · exact txtT_none hb
        · have e1 := hval n' r hb
          have e2 := hst r (by rw [hb]; rfl)
          rw [txtT_some hb, e1, e2, if_neg (by omega)]
      rw [hno]
    · exact ⟨l, set_blk 1 (.bool true) hblk, hl, fun r hr => by cases hr⟩
    · intro y r hy; cases hy
  have HGOOD : Hid (∀ k : Nat, n = (k : Int) → k ≤ l.length → PP (.returned (.string (bs (l.take k)))) (w1.setCell ⟨tb, 0, none⟩ (.string (bs (l.drop k))))) := fun k hk hkl => by
    have hb2 := set_blk 0 (.string (bs (l.drop k))) hblk
    refine HPP.out _ _ ⟨l.take k, rfl, by simp; omega, hx1.trans ((Ext.refl _ _).set 0 _), ?_, ?_⟩
    · rcases hb : st.bind Ob.numT with _ | ⟨n', r⟩
      · rw [txtT_none hb]
        rw [hb] at hb2
        exact ⟨l.drop k, hb2, by simp; omega, fun r hr => by cases hr⟩
      · have e1 := hval n' r hb
        have e2 := hst r (by rw [hb]; rfl)
        rw [hb] at hb2
        rw [txtT_some hb, e1, e2, if_pos (by omega), hk, Int.toNat_natCast]
        exact ⟨l.drop k, hb2, by simp; omega, fun r hr => by cases hr; rfl⟩
    · intro y r' hy
      rcases hb : st.bind Ob.numT with _ | ⟨n', r⟩
      · rw [txtT_none hb] at hy; cases hy
      · have e1 := hval n' r hb
        have e2 := hst r (by rw [hb]; rfl)
        rw [txtT_some hb, e1, e2, if_pos (by omega), hk, Int.toNat_natCast] at hy
        cases hy
        rfl
  clear hblk hst hval htk hx1 hI HPP HC hnI hl
  by_cases hn0 : n < 0
  · have HB := Lib.hid (HBAD.out (Or.inl hn0))
    clear HBAD HGOOD
    go_wp2_with fail
    go_ret
    exact ⟨HB.out, trivial⟩
  · by_cases hnl : (l.length : Int) < n
    · have HB := Lib.hid (HBAD.out (Or.inr hnl))
      clear HBAD HGOOD
      go_wp2_with fail
      go_ret
      exact ⟨HB.out, trivial⟩
    · obtain ⟨k, hk⟩ : ∃ k : Nat, n = (k : Int) := ⟨n.toNat, by omega⟩
      have HB := Lib.hid (HGOOD.out k hk (by omega))
      subst hk
      have hkl : (k : Int) ≤ (l.length : Int) := by omega
      have ex1 : (bs l).extract 0 k = bs (l.take k) := by apply ByteArray.ext; simp [bs, ByteArray.data_extract]
      have ex2 : (bs l).extract k l.length = bs (l.drop k) := by apply ByteArray.ext; simp [bs, ByteArray.data_extract]; exact List.take_of_length_le (by simp)
      clear HBAD HGOOD hn0 hnl
      generalize bs (l.take k) = ta at *
      generalize bs (l.drop k) = tdr at *
      go_wp2_with fail
      go_ret
      exact ⟨HB.out, trivial⟩
theorem ttext_any {w : World} {tb : Nat} {st : Option Bs} (h : Tk w tb st) :
    Calls Tryz.prog 31 #[.pointer (some ⟨tb, 0, none⟩)] w fun e w' => ∃ s : Bs, e = .returned (.string (bs s)) ∧ s.length ≤ 1000000 ∧ Ext tb w w' ∧ Tk w' tb ((st.bind Ob.txtT).map (·.2)) ∧ (∀ y r, st.bind Ob.txtT = some (y, r) → y = s) :=
  (ttext_aux h).mono fun _ _ hh => hh.1
/- a function that is done so often, but not if it is bad: by what holds behind k of them -/
set_option maxRecDepth 100000 in
set_option maxHeartbeats 2000000 in
theorem ttimes_any {w : World} {tb : Nat} {fn : FuncId} {c1 c2 : Value} {J : Nat → Option Bs → World → Prop} (n : Int) (hn : Ob.I64 n) {st : Option Bs} (h0 : J 0 st w) (hJ : ∀ k st W, J k st W → Tk W tb st)
    (hcf : ∀ (args : Array Value) (w : World), (callFunc fn args).run Tryz.prog w = .ok (.enter fn args) w)
    (hstep : ∀ k r W, J k (some r) W → Calls Tryz.prog fn #[c1, c2] W fun e w' => e = .returned (.tuple #[]) ∧ ∃ st', J (k + 1) st' w') :
    Calls Tryz.prog 32 #[.pointer (some ⟨tb, 0, none⟩), .int .i64 n, .func (.func fn) #[] #[c1, c2]] w fun e w' => e = .returned (.tuple #[]) ∧ ∃ k st', J k st' w' ∧ k ≤ n.toNat ∧ ∀ r, st' = some r → k = n.toNat := by
  have HJ := Lib.hid hJ
  have HS := Lib.hid hstep
  have H0 := Lib.hid h0
  have hnr : -9223372036854775808 ≤ n ∧ n ≤ 9223372036854775807 := hn
  clear hJ hstep h0 hn
  go_enter Tryz.func32, Tryz.ntmps32
  go_wp2_with fail
  go_loopg [1] n.toNat (fun g vn wr => ∃ (k : Nat) (m : Int) (st' : Option Bs), vn = .int .i64 m ∧ m ≤ n ∧ -9223372036854775808 ≤ m ∧ g = m.toNat ∧ k + m.toNat = n.toNat ∧ Hid (J k st' wr))
  case atStart => exact ⟨0, n, st, rfl, by omega, by omega, rfl, by omega, H0⟩
  case round =>
    clear H0
    obtain ⟨k, m, st', rfl, hmn, hm0, hg, hkm, HJk⟩ := hrel
    obtain ⟨l, hblk, hl, hst⟩ := (HJ.out k st' wr HJk.out).c
    have htl := lt_blk hblk
    have c1' : wr.cell? ⟨tb, 1, none⟩ = some (.bool st'.isNone) := cell_blk hblk
    clear hblk hl hst
    by_cases hpos : 0 < m
    · cases st' with
      | none =>
        simp only [Option.isNone_none] at c1'
        go_wp2_with fail
        refine bodyPost_end (results_none rfl _ _ _) rfl ⟨rfl, k, none, HJk.out, by omega, fun r hr => by cases hr⟩
      | some r =>
        simp only [Option.isNone_some] at c1'
        have HC := Lib.hid (HS.out k r wr HJk.out)
        go_wp2_with fail
        refine HC.out.mono ?_
        rintro e w2 ⟨rfl, st2, hJ2⟩
        have HJ2 := Lib.hid hJ2
        clear hJ2
        go_wp2_with fail
        go_roundg (m - 1).toNat
        case measure => omega
        case rel => exact ⟨k + 1, m - 1, st2, by go_num, by omega, by omega, rfl, by omega, HJ2⟩
    · go_wp2_with fail
      refine bodyPost_end (results_none rfl _ _ _) rfl ⟨rfl, k, st', HJk.out, by omega, fun r hr => by omega⟩
end Go.Proofs.YtijhpokclpdjpaaGreatDoor
