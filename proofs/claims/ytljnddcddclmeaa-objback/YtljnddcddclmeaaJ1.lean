/- Chapter 6 on plain objects: numbers, texts, lists as bytes; read, and written. -/
namespace Ob
abbrev Bs := List UInt8

/- a number, seven bits a byte, the least ones first -/
def vb (u : Nat) : Bs := if u < 128 then [UInt8.ofNat u] else UInt8.ofNat (u % 128 + 128) :: vb (u / 128)
def zig (n : Int) : Nat := if n < 0 then (-2 * n - 1).toNat else (2 * n).toNat
def zag (u : Nat) : Int := if u % 2 = 1 then -(u / 2 : Nat) - 1 else (u / 2 : Nat)
def num (n : Int) : Bs := vb (zig n)
def txt (s : Bs) : Bs := num s.length ++ s
def I64 (n : Int) : Prop := -9223372036854775808 ≤ n ∧ n ≤ 9223372036854775807

theorem zag_zig (n : Int) : zag (zig n) = n := by unfold zag zig; split <;> split <;> omega
theorem zig_lt {n : Int} (h : I64 n) : zig n < 18446744073709551616 := by unfold I64 at h; unfold zig; split <;> omega

/- what is read of a number's bytes: u so far, bits; none: there are no more -/
def orS (u b bits : Nat) : Nat := u ||| ((b % 128) <<< bits) % 18446744073709551616
def nu (u bits : Nat) : Bs → Option (Nat × Bs)
  | [] => none
  | b :: r => if b.toNat < 128 then some (orS u b.toNat bits, r) else nu (orS u b.toNat bits) (bits + 7) r
/- a reader: what is read, and what is left -/
abbrev Rd (α : Type) := Bs → Option (α × Bs)
def numR : Rd Int := fun l => (nu 0 0 l).map fun x => (zag x.1, x.2)
def takeR (n : Nat) : Rd Bs := fun l => if n ≤ l.length then some (l.take n, l.drop n) else none
def manyR (most : Nat) : Rd Nat := fun l => (numR l).bind fun x => if 0 ≤ x.1 ∧ x.1 ≤ most then some (x.1.toNat, x.2) else none
def txtR : Rd Bs := fun l => (manyR l.length l).bind fun x => takeR x.1 x.2
def flagR : Rd Bool := fun l => (takeR 1 l).map fun x => (decide (x.1 ≠ [0]), x.2)
def repR {α : Type} (one : Rd α) : Nat → Rd (List α)
  | 0 => fun l => some ([], l)
  | n + 1 => fun l => (one l).bind fun x => (repR one n x.2).map fun y => (x.1 :: y.1, y.2)
def listR {α : Type} (most : Nat) (one : Rd α) : Rd (List α) := fun l => (manyR most l).bind fun x => repR one x.1 x.2

structure Sm where
  name : Bs
  len : Int
  args : Int
structure Us where
  name : Bs
  need : Bs
  names : List Bs
structure Gl where
  name : Bs
  at' : Int
  len : Int
  seen : Bool
structure En where
  at' : Int
  args : Int
  locals : Int
structure In where
  op : Int
  a : Int
  b : Int
structure O where
  name : Bs
  syms : List Sm
  uses : List Us
  vars : List Gl
  procs : List En
  names : List Bs
  code : List In

def symR : Rd Sm := fun l => (txtR l).bind fun x => (numR x.2).bind fun y => (numR y.2).map fun z => (⟨x.1, y.1, z.1⟩, z.2)
def useR : Rd Us := fun l => (txtR l).bind fun x => (txtR x.2).bind fun y => (listR 100 txtR y.2).map fun z => (⟨x.1, y.1, z.1⟩, z.2)
def glR : Rd Gl := fun l => (txtR l).bind fun x => (numR x.2).bind fun y => (flagR y.2).map fun z => (⟨x.1, 0, y.1, z.1⟩, z.2)
def enR : Rd En := fun l => (numR l).bind fun x => (numR x.2).bind fun y => (numR y.2).map fun z => (⟨x.1, y.1, z.1⟩, z.2)
def inR : Rd In := fun l => (numR l).bind fun x => (numR x.2).bind fun y => (numR y.2).map fun z => (⟨x.1, y.1, z.1⟩, z.2)
def obR : Rd O := fun l =>
  (txtR l).bind fun n => (listR 20 symR n.2).bind fun s => (listR 6 useR s.2).bind fun u => (listR 10 glR u.2).bind fun v =>
  (listR 10 txtR v.2).bind fun m => (repR enR m.1.length m.2).bind fun p => (listR 4000 inR p.2).map fun c => (⟨n.1, s.1, u.1, v.1, p.1, m.1, c.1⟩, c.2)

/- written -/
def lst {α : Type} (one : α → Bs) (l : List α) : Bs := num l.length ++ (l.map one).flatten
def smW (s : Sm) : Bs := txt s.name ++ num s.len ++ num s.args
def usW (u : Us) : Bs := txt u.name ++ txt u.need ++ lst txt u.names
def glW (g : Gl) : Bs := txt g.name ++ num g.len ++ [if g.seen then 1 else 0]
def enW (e : En) : Bs := num e.at' ++ num e.args ++ num e.locals
def inW (x : In) : Bs := num x.op ++ num x.a ++ num x.b
def headW (o : O) : Bs := txt o.name ++ lst smW o.syms ++ lst usW o.uses ++ lst glW o.vars
def codeW (o : O) : Bs := lst txt o.names ++ (o.procs.map enW).flatten ++ lst inW o.code
def obW (o : O) : Bs := headW o ++ codeW o

/- a reader reads what is written -/
theorem or_shift {u x bits : Nat} (h : u < 2 ^ bits) : u ||| x <<< bits = u + x * 2 ^ bits := by
  rw [Nat.or_comm, ← Nat.shiftLeft_add_eq_or_of_lt h, Nat.shiftLeft_eq, Nat.add_comm]
theorem nu_vb (u : Nat) : ∀ (v bits : Nat) (t : Bs), v < 2 ^ bits → v + u * 2 ^ bits < 18446744073709551616 → nu v bits (vb u ++ t) = some (v + u * 2 ^ bits, t) := by
  induction u using Nat.strongRecOn with
  | ind u ih =>
    intro v bits t hv hlt
    unfold vb
    by_cases h : u < 128
    · rw [if_pos h]
      have e : (UInt8.ofNat u).toNat = u := by rw [UInt8.toNat_ofNat']; omega
      simp only [List.cons_append, List.nil_append, nu]
      rw [e, if_pos h]
      unfold orS
      rw [Nat.mod_eq_of_lt h, Nat.shiftLeft_eq, Nat.mod_eq_of_lt (by omega), ← Nat.shiftLeft_eq, or_shift hv]; try rw [Nat.shiftLeft_eq]
    · rw [if_neg h]
      have e : (UInt8.ofNat (u % 128 + 128)).toNat = u % 128 + 128 := by rw [UInt8.toNat_ofNat']; omega
      simp only [List.cons_append, nu]
      rw [e, if_neg (by omega)]
      have hsp : u * 2 ^ bits = u % 128 * 2 ^ bits + u / 128 * 2 ^ (bits + 7) := by
        rw [Nat.pow_add, ← Nat.mul_assoc, Nat.mul_right_comm, ← Nat.add_mul]
        congr 1
        have := Nat.div_add_mod u 128
        show u = u % 128 + u / 128 * 128
        omega
      have hpos : 0 < 2 ^ bits := Nat.pow_pos (by omega)
      have hlo : v + u % 128 * 2 ^ bits < 2 ^ (bits + 7) := by
        rw [Nat.pow_add]
        have h1 : u % 128 * 2 ^ bits ≤ 127 * 2 ^ bits := Nat.mul_le_mul_right _ (by omega)
        omega
      have e2 : orS v (u % 128 + 128) bits = v + u % 128 * 2 ^ bits := by
        unfold orS
        rw [show (u % 128 + 128) % 128 = u % 128 by omega, Nat.shiftLeft_eq, Nat.mod_eq_of_lt (by omega), ← Nat.shiftLeft_eq, or_shift hv]; try rw [Nat.shiftLeft_eq]
      rw [e2, ih (u / 128) (by omega) _ _ _ hlo (by omega)]
      rw [hsp, Nat.add_assoc]
theorem numR_num {n : Int} (h : I64 n) (t : Bs) : numR (num n ++ t) = some (n, t) := by
  unfold numR num
  rw [nu_vb _ 0 0 t (by simp) (by have := zig_lt h; omega)]
  simp [zag_zig]
theorem manyR_num {n most : Nat} (h : n ≤ most) (hm : most ≤ 1000000000000) (t : Bs) : manyR most (num n ++ t) = some (n, t) := by
  unfold manyR
  rw [numR_num (by unfold I64; omega)]
  simp
  omega
theorem takeR_app (s t : Bs) : takeR s.length (s ++ t) = some (s, t) := by simp [takeR]
theorem vb_pos (u : Nat) : 0 < (vb u).length := by unfold vb; split <;> simp
theorem txtR_txt {s : Bs} (t : Bs) (ht : (txt s ++ t).length ≤ 1000000000000) : txtR (txt s ++ t) = some (s, t) := by
  unfold txtR
  have e : txt s ++ t = num (s.length : Nat) ++ (s ++ t) := by simp [txt]
  rw [e] at ht ⊢
  rw [manyR_num (by simp; omega) ht]
  simp [takeR_app]
theorem flagR_app (b : Bool) (t : Bs) : flagR ([if b then 1 else 0] ++ t) = some (b, t) := by
  unfold flagR
  rw [show (1 : Nat) = [if b then (1 : UInt8) else 0].length from rfl, takeR_app]
  cases b <;> simp
theorem repR_app {α : Type} {one : Rd α} {w : α → Bs} {B : Nat} (l : List α) (t : Bs) (h : ∀ x, x ∈ l → ∀ t, (w x ++ t).length ≤ B → one (w x ++ t) = some (x, t)) (hB : ((l.map w).flatten ++ t).length ≤ B) : repR one l.length ((l.map w).flatten ++ t) = some (l, t) := by
  induction l with
  | nil => rfl
  | cons x l ih =>
    simp only [List.map_cons, List.flatten_cons, List.length_cons, repR, List.append_assoc] at hB ⊢
    rw [h x (by simp) _ hB]
    simp only [Option.bind_some]
    rw [ih (fun y hy => h y (by simp [hy])) (by simp at hB ⊢; omega)]
    rfl
theorem listR_lst {α : Type} {one : Rd α} {w : α → Bs} {most : Nat} (l : List α) (t : Bs) (hm : most ≤ 1000000) (hl : l.length ≤ most) (h : ∀ x, x ∈ l → ∀ t, (w x ++ t).length ≤ 1000000000000 → one (w x ++ t) = some (x, t)) (hB : (lst w l ++ t).length ≤ 1000000000000) : listR most one (lst w l ++ t) = some (l, t) := by
  unfold listR lst at *
  rw [List.append_assoc] at hB ⊢
  rw [manyR_num hl (by omega)]
  simp only [Option.bind_some]
  exact repR_app l t h (by simp at hB ⊢; omega)
end Ob
