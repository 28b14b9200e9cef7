import Derived.Deep.Quiet
/- A long region that draws its order may be walked in the order of its text: asked part by part. -/
namespace Go
def setN (L : Array Bool) (k : Nat) : Nat → Array Bool
  | 0 => L
  | n + 1 => setN (L.setIfInBounds k true) (k + 1) n
def lexPart (md : Region.Mode) (ops : Array Oper) : Nat → Nat → Array Bool → Bool
  | 0, _, _ => true
  | n + 1, k, L => (Region.ready md ops L).contains k && Region.free md ops L k && lexPart md ops n (k + 1) (L.setIfInBounds k true)
theorem lexPart_from {md : Region.Mode} {ops : Array Oper} : ∀ (n m k : Nat) (L : Array Bool), lexPart md ops n k L = true → Region.lexFrom md ops m (k + n) (setN L k n) = true → Region.lexFrom md ops (n + m) k L = true := by
  intro n
  induction n with
  | zero => intro m k L _ h; simpa [setN] using h
  | succ n ih =>
    intro m k L h1 h2
    rw [lexPart, Bool.and_eq_true] at h1
    rw [show n + 1 + m = (n + m) + 1 by omega, Region.lexFrom, Bool.and_eq_true]
    refine ⟨h1.1, ih m (k + 1) _ h1.2 ?_⟩
    rw [show k + 1 + n = k + (n + 1) by omega]
    exact h2
def lexParts (md : Region.Mode) (ops : Array Oper) : List Nat → Nat → Array Bool → Prop
  | [], k, L => Region.lexFrom md ops 0 k L = true
  | n :: ns, k, L => lexPart md ops n k L = true ∧ lexParts md ops ns (k + n) (setN L k n)
theorem lexParts_from {md : Region.Mode} {ops : Array Oper} : ∀ (ns : List Nat) (k : Nat) (L : Array Bool), lexParts md ops ns k L → Region.lexFrom md ops ns.sum k L = true := by
  intro ns
  induction ns with
  | nil => intro k L h; exact h
  | cons n ns ih =>
    intro k L h
    rw [List.sum_cons]
    exact lexPart_from n ns.sum k L h.1 (ih _ _ h.2)
theorem lexB_parts {md : Region.Mode} {ops : Array Oper} (ns : List Nat) (h0 : Region.noSelect ops = true) (hs : ops.size = ns.sum) (h : lexParts md ops ns 0 (Array.replicate ops.size false)) : Region.lexB md ops = true := by
  rw [Region.lexB, Bool.and_eq_true]
  refine ⟨h0, ?_⟩
  rw [hs]
  rw [hs] at h
  exact lexParts_from ns 0 _ h
end Go
