import Derived.Test.YtkpapioaijmidaaGreatDoorKEn
/- The document's reader: what oneOf says of words with blanks between: whether a text is one of them. -/
namespace Go.Proofs.YtkpapioaijmidaaGreatDoor
def wsj (ws : List (List UInt8)) : List UInt8 := (ws.map fun u => u ++ [32]).flatten
theorem prefix_word : ∀ {s u : List UInt8} {r : List UInt8}, 32 ∉ s → 32 ∉ u → (s ++ [32] <+: u ++ 32 :: r ↔ s = u) := by
  intro s
  induction s with
  | nil =>
    intro u r _ hu
    cases u with
    | nil => simp
    | cons c u =>
      have : (32 : UInt8) ≠ c := fun e => hu (by simp [e])
      simp [List.cons_prefix_cons, this]
  | cons a s ih =>
    intro u r hs hu
    cases u with
    | nil =>
      have : a ≠ 32 := fun e => hs (by simp [e])
      simp [List.cons_prefix_cons, this]
    | cons c u =>
      have h1 : 32 ∉ s := fun e => hs (List.mem_cons_of_mem _ e)
      have h2 : 32 ∉ u := fun e => hu (List.mem_cons_of_mem _ e)
      simp only [List.cons_append, List.cons_prefix_cons, ih h1 h2, List.cons.injEq]
theorem infix_word : ∀ {u : List UInt8} {p r : List UInt8}, 32 ∉ u → (32 :: p <:+: u ++ r ↔ 32 :: p <:+: r) := by
  intro u
  induction u with
  | nil => intro p r _; simp
  | cons c u ih =>
    intro p r hu
    have h1 : (32 : UInt8) ≠ c := fun e => hu (by simp [e])
    have h2 : 32 ∉ u := fun e => hu (List.mem_cons_of_mem _ e)
    rw [List.cons_append, List.infix_cons_iff, ih h2]
    simp [List.cons_prefix_cons, h1]
theorem infix_words {s : List UInt8} (_h0 : s ≠ []) (hs : 32 ∉ s) : ∀ {ws : List (List UInt8)}, (∀ u ∈ ws, 32 ∉ u) → (32 :: (s ++ [32]) <:+: 32 :: wsj ws ↔ s ∈ ws) := by
  intro ws
  induction ws with
  | nil =>
    intro _
    have : ¬ 32 :: (s ++ [32]) <:+: 32 :: wsj [] := by
      intro e
      have := e.length_le
      simp [wsj] at this
    simp [this]
  | cons u ws ih =>
    intro hw
    have hu := hw u (by simp)
    have e1 : wsj (u :: ws) = u ++ 32 :: wsj ws := by simp [wsj]
    rw [e1, List.infix_cons_iff, List.cons_prefix_cons, prefix_word hs hu, infix_word hu, ih fun v hv => hw v (List.mem_cons_of_mem _ hv)]
    simp
theorem contains_blank (s : List UInt8) : Lib.contains s [32] = true ↔ 32 ∈ s := by
  rw [contains_iff]
  constructor
  · intro e; exact e.subset (by simp)
  · intro e
    obtain ⟨a, b, rfl⟩ := List.append_of_mem e
    exact ⟨a, b, by simp⟩
theorem oneB_iff {s : List UInt8} {ws : List (List UInt8)} {y : List UInt8} (hw : ∀ u ∈ ws, 32 ∉ u ∧ u ≠ []) (hy : y ++ [32] = wsj ws) : oneB s y = true ↔ s ∈ ws := by
  unfold oneB
  have e : [32] ++ y ++ [32] = 32 :: wsj ws := by rw [← hy]; simp
  have e2 : [32] ++ s ++ [32] = 32 :: (s ++ [32]) := by simp
  rw [e, e2]
  by_cases h0 : s = []
  · subst h0
    simp
    exact fun h => (hw _ h).2 rfl
  · by_cases h1 : 32 ∈ s
    · have := (contains_blank s).2 h1
      rw [this]
      simp
      exact fun h => (hw _ h).1 h1
    · have : Lib.contains s [32] = false := by
        rw [Bool.eq_false_iff]; exact fun e => h1 ((contains_blank s).1 e)
      rw [this]
      have h2 : s.isEmpty = false := by simpa using h0
      rw [h2]
      simp only [Bool.not_false, Bool.true_and]
      rw [contains_iff, infix_words h0 h1 fun u hu => (hw u hu).1]
end Go.Proofs.YtkpapioaijmidaaGreatDoor
