/- Chapter 6.1 on plain objects: which may be. -/
import Derived.Test.YtljnddcddclmeaaJ1
namespace Ob

def good (i : Nat) (c : UInt8) : Bool := (decide (97 ≤ c.toNat) && decide (c.toNat ≤ 122)) || ((decide (48 ≤ c.toNat) && decide (c.toNat ≤ 57)) && !decide (i = 0))
def nameB (s : Bs) : Bool := decide (∀ i (h : i < s.length), good i s[i] = true) && (decide (1 ≤ s.length) && decide (s.length ≤ 10))
def lenB (n : Int) : Bool := decide (0 ≤ n) && decide (n ≤ 30)
def countsB (n : Int) (many : Nat) : Bool := decide (0 ≤ n) && decide (n < (many : Int))
def allB {α : Type} (p : α → Bool) (most : Nat) (l : List α) : Bool := decide (l.length ≤ most) && !(l.any fun x => !p x)
def symB (s : Sm) : Bool := nameB s.name && (decide (-1 ≤ s.args) && (decide (s.args ≤ 10) && (lenB s.len && (decide (s.args < 0) || decide (s.len = 0)))))
def useB (u : Us) : Bool := nameB u.name && (decide (u.need.length ≤ 4000) && allB nameB 100 u.names)
def otherB (nm : Bs) (u : Us) : Bool := decide (u.name ≠ nm) && useB u
def varB (g : Gl) : Bool := nameB g.name && (decide (g.at' = 0) && lenB g.len)
def headB (o : O) : Bool := nameB o.name && (allB symB 20 o.syms && (allB (otherB o.name) 6 o.uses && allB varB 10 o.vars))
def entB (n : Nat) (e : En) : Bool := countsB e.at' n && (decide (0 ≤ e.args) && (decide (e.args ≤ e.locals) && decide (e.locals ≤ 10)))
def procsB (o : O) : Bool := allB (entB o.code.length) 10 o.procs && (decide (o.names.length = o.procs.length) && allB nameB 10 o.names)
def choices (o : O) (op : Int) : Nat :=
  if op = 3 ∨ op = 4 then 10 else if op = 6 ∨ op = 8 then o.vars.length else if op = 9 then 11 else if op = 12 ∨ op = 13 then o.code.length
  else if op = 2 ∨ op = 10 ∨ op = 11 ∨ op = 15 ∨ op = 16 ∨ op = 17 then 1 else 0
def reachB (o : O) (x : In) (own : Nat) : Bool := if x.b = -1 then countsB x.a own else countsB x.b o.uses.length && countsB x.a ((o.uses[x.b.toNat]?.map fun u => u.names.length).getD 0)
def instB (o : O) (x : In) : Bool :=
  if x.op = 5 ∨ x.op = 7 then reachB o x o.vars.length else if x.op = 14 then reachB o x o.procs.length else if x.op = 1 then decide (x.b = 0) else decide (x.b = 0) && countsB x.a (choices o x.op)
def lastB (o : O) : Bool := match o.code.getLast? with
  | none => false
  | some x => decide (x.op = 12) || (decide (x.op = 15) || decide (x.op = 17))
def codeB (o : O) : Bool := allB (instB o) 4000 o.code && lastB o
def rightB (o : O) : Bool := headB o && (procsB o && codeB o)

theorem allB_le {α : Type} {p : α → Bool} {most : Nat} {l : List α} (h : allB p most l = true) : l.length ≤ most ∧ ∀ x ∈ l, p x = true := by
  unfold allB at h
  simp only [Bool.and_eq_true, decide_eq_true_eq, Bool.not_eq_true', List.any_eq_false] at h
  exact ⟨h.1, fun x hx => by have := h.2 x hx; simpa using this⟩
theorem nameB_len {s : Bs} (h : nameB s = true) : s.length ≤ 10 := by
  unfold nameB at h
  simp only [Bool.and_eq_true, decide_eq_true_eq] at h
  exact h.2.2
theorem choices_le (o : O) (op : Int) (h1 : o.vars.length ≤ 10) (h2 : o.code.length ≤ 4000) : choices o op ≤ 4000 := by
  unfold choices
  repeat (split; omega)
  omega
theorem choices_op {o : O} {op : Int} (h : 0 < choices o op) : 1 ≤ op ∧ op ≤ 17 := by
  unfold choices at h
  split at h
  · omega
  · split at h
    · omega
    · split at h
      · omega
      · split at h
        · omega
        · split at h
          · omega
          · omega
theorem instB_rng {o : O} {x : In} (hu : o.uses.length ≤ 6) (ha : I64 x.a) (h : instB o x = true) : I64 x.op ∧ I64 x.a ∧ I64 x.b := by
  have hb : I64 x.op ∧ I64 x.b := by
    unfold instB at h
    have hr : ∀ own, reachB o x own = true → I64 x.b := by
      intro own h
      unfold reachB at h
      split at h
      · unfold I64; omega
      · simp only [Bool.and_eq_true, countsB, decide_eq_true_eq] at h
        unfold I64; omega
    split at h
    · exact ⟨by unfold I64; omega, hr _ h⟩
    · split at h
      · exact ⟨by unfold I64; omega, hr _ h⟩
      · split at h
        · simp only [decide_eq_true_eq] at h
          exact ⟨by unfold I64; omega, by unfold I64; omega⟩
        · simp only [Bool.and_eq_true, countsB, decide_eq_true_eq] at h
          have := choices_op (o := o) (op := x.op) (by omega)
          exact ⟨by unfold I64; omega, by unfold I64; omega⟩
  exact ⟨hb.1, ha, hb.2⟩
/- what is read of it: numbers of 64 bits -/
theorem nu_lt : ∀ (l : Bs) (u bits : Nat), u < 18446744073709551616 → ∀ x r, nu u bits l = some (x, r) → x < 18446744073709551616 := by
  intro l
  induction l with
  | nil => intro u bits _ x r h; simp [nu] at h
  | cons b l ih =>
    intro u bits hu x r h
    have ho : orS u b.toNat bits < 18446744073709551616 := Nat.or_lt_two_pow (n := 64) hu (Nat.mod_lt _ (by omega))
    simp only [nu] at h
    split at h
    · simp at h; omega
    · exact ih _ _ ho x r h
theorem numR_rng {l r : Bs} {n : Int} (h : numR l = some (n, r)) : I64 n := by
  unfold numR at h
  rcases hn : nu 0 0 l with _ | ⟨x, y⟩
  · rw [hn] at h; simp at h
  · rw [hn] at h
    simp at h
    have := nu_lt l 0 0 (by omega) x y hn
    rw [← h.1]
    unfold zag I64
    split <;> omega
end Ob
