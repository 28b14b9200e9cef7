import Derived.Test.YtkpapioaijmidaaGreatDoorKEb
import Derived.Deep.QuietTactic
import Derived.OrdersHeld
/- A region that draws its order, whose first operations neither read nor write memory (calls of such functions among them): they may be done first, in the order of the text. -/
namespace Go
section
variable {P : Program} {ops : Array Oper} {md : Region.Mode} {Q : Exit → Act → World → Prop}
/- in whatever world it is done, an operation leaves v, and that world -/
def Lone (P : Program) (o : Oper) (a : Act) (v : Value) : Prop := ∀ w, o.quietAt P a (fun w' => w' = w) w v
def LoneIf (P : Program) (ops : Array Oper) (o : Oper) (v : Value) (a : Act) : Prop :=
  if Region.wanted o (yielded ops a.tmps) = true then Lone P o a v else v = undef
theorem Lone.goes {o : Oper} {a : Act} {v : Value} (h : Lone P o a v) {K : Act → World → Prop} {w : World} (k : K (a.put o.dst v) w) : o.wp P a w K Q :=
  Oper.wp_of_quiet (C := fun w' => w' = w) (K := fun a' => K a' w) rfl (fun _ _ e hk => by rw [e]; exact hk) ⟨v, fun w' e => by rw [e]; exact h w, k⟩
theorem LoneIf.goes {i : Nat} {o : Oper} {v : Value} {a : Act} (hi : ops[i]? = some o) (h : LoneIf P ops o v a) {K : Act → World → Prop} {w : World} (k : K (a.put o.dst v) w) : wpOp P ops Q i K a w := by
  unfold wpOp
  simp only [hi]
  unfold LoneIf at h
  by_cases hw : Region.wanted o (yielded ops a.tmps) = true
  · rw [if_pos hw] at h ⊢
    exact .inl (h.goes k)
  · rw [if_neg hw] at h ⊢
    rw [h] at k
    exact k
theorem LoneIf.same {o : Oper} {v : Value} {a a' : Act} (h : LoneIf P ops o v a) (he : execOp a'.eval o = execOp a.eval o) (hw : Region.wanted o (yielded ops a'.tmps) = Region.wanted o (yielded ops a.tmps)) : LoneIf P ops o v a' := by
  unfold LoneIf Lone Oper.quietAt at *
  rw [he, hw]
  exact h
theorem lone_put {j : Nat} {oi oj : Oper} {v : Value} (hj : ops[j]? = some oj) (hap : oi.apart ops oj = true) (hsi : ∀ cs b, oi.op ≠ .select cs b) (hsj : ∀ cs b, oj.op ≠ .select cs b)
    (hQ : ∀ c a w, Q (.panic c) (a.put oi.dst v) w → Q (.panic c) a w) {K : Act → World → Prop} {a : Act} {w : World} (hy : LoneIf P ops oi v a) (h : wpOp P ops Q j K (a.put oi.dst v) w) :
    wpOp P ops Q j (fun a' w' => LoneIf P ops oi v a' ∧ K (a'.put oi.dst v) w') a w := by
  obtain ⟨h1, h2, h3⟩ := Oper.apart_spec hap
  have kp : ∀ u, LoneIf P ops oi v (a.put oj.dst u) := fun u => hy.same (execOp_put oi hsi a oj.dst u h3) (wanted_put oi a oj.dst u h3)
  have kd : ∀ d u, LoneIf P ops oi v (({ a with defers := d :: a.defers } : Act).put oj.dst u) := fun d u =>
    (LoneIf.same (a' := { a with defers := d :: a.defers }) hy rfl rfl).same (execOp_put oi hsi _ oj.dst u h3) (wanted_put oi _ oj.dst u h3)
  unfold wpOp at *
  simp only [hj] at *
  rw [wanted_put oj a oi.dst v h1] at h
  by_cases hw : Region.wanted oj (yielded ops a.tmps) = true
  · rw [if_pos hw] at h ⊢
    rcases h with h | ⟨ha, hl⟩
    · refine .inl ?_
      unfold Oper.wp at *
      rw [execOp_put oj hsj a oi.dst v h1] at h
      generalize (execOp a.eval oj).run P w = r at *
      rcases r with ⟨n, w'⟩ | ⟨x, w'⟩
      · cases n <;> simp only [Oper.upon] at h ⊢
        case value u => exact ⟨kp u, by rw [← Act.put_comm a v u h2]; exact h⟩
        case skip => exact ⟨kp _, by rw [← Act.put_comm a v undef h2]; exact h⟩
        case defer d => exact ⟨kd d _, by rw [← Act.put_comm _ v undef h2, ← Act.put_defers]; exact h⟩
        case enter f args =>
          refine Calls.mono h fun e w'' he => ?_
          cases e with
          | returned u => exact ⟨kp u, by rw [← Act.put_comm a v u h2]; exact he⟩
          | panicked c => exact hQ _ _ _ he
          | outgrown => exact he
        case row row args => exact Rows.mono h fun u w'' he => ⟨kp u, by rw [← Act.put_comm a v u h2]; exact he⟩
      · cases x <;> simp only [Oper.upon] at h ⊢
        case panic u => exact hQ _ _ _ h
    · exact .inr ⟨by unfold Oper.asks at *; rw [execOp_put oj hsj a oi.dst v h1] at ha; exact ha, hl⟩
  · rw [if_neg hw] at h ⊢
    exact ⟨kp _, by rw [← Act.put_comm a v undef h2]; exact h⟩
theorem lone_first {i : Nat} {oi : Oper} {v : Value} (hi : ops[i]? = some oi) (hsel : ∀ (j : Nat) (o : Oper) cs b, ops[j]? = some o → o.op ≠ .select cs b) (hQ : ∀ c a w, Q (.panic c) (a.put oi.dst v) w → Q (.panic c) a w) :
    ∀ (fuel : Nat) (listed : Array Bool) (a : Act) (w : World),
      (∀ j oj, ops[j]? = some oj → j ≠ i → listed.getD j true = false → (∀ e ∈ oj.after, Region.binds md e = true → e.on ≠ i) → oi.apart ops oj = true) →
      i ∈ Region.ready md ops listed → LoneIf P ops oi v a → wpAny P md ops Q fuel (listed.setIfInBounds i true) (a.put oi.dst v) w → wpAny P md ops Q (fuel + 1) listed a w := by
  intro fuel
  induction fuel with
  | zero =>
    intro listed a w _ hr hy H
    refine ⟨fun h => (by rw [h] at hr; cases hr), fun j hj => ?_⟩
    by_cases hji : j = i
    · subst hji; exact hy.goes hi H
    · have := ready_mono hj hji
      rw [H.1] at this
      cases this
  | succ fuel ih =>
    intro listed a w hfree hr hy H
    refine ⟨fun h => (by rw [h] at hr; cases hr), fun j hj => ?_⟩
    by_cases hji : j = i
    · subst hji; exact hy.goes hi H
    · obtain ⟨hjun, oj, hoj, hall⟩ := mem_ready.1 hj
      have hnot : ∀ e ∈ oj.after, Region.binds md e = true → e.on ≠ i := fun e he hb heq => by
        have h1 := hall e he hb
        have h0 := (mem_ready.1 hr).1
        rw [heq] at h1
        rcases Nat.lt_or_ge i listed.size with h' | h'
        · simp [h'] at h0 h1; rw [h0] at h1; cases h1
        · simp [Array.getElem?_eq_none h'] at h1
      have h2 := lone_put hoj (hfree j oj hoj hji hjun hnot) (fun cs b => hsel i oi cs b hi) (fun cs b => hsel j oj cs b hoj) hQ hy (H.2 j (ready_mono hj hji))
      have hfree' : ∀ k ok, ops[k]? = some ok → k ≠ i → (listed.setIfInBounds j true).getD k true = false → (∀ e ∈ ok.after, Region.binds md e = true → e.on ≠ i) → oi.apart ops ok = true := fun k ok hk hki hun hno => by
        refine hfree k ok hk hki ?_ hno
        by_cases hjk : j = k
        · subst hjk; exact hjun
        · rw [getD_set_ne true hjk] at hun; exact hun
      refine wpOp_mono (fun a' w' h3 => ih (listed.setIfInBounds j true) a' w' hfree' (ready_mono hr (Ne.symm hji)) h3.1 ?_) h2
      rw [Array.setIfInBounds_comm _ _ hji]
      exact h3.2
/- the walk of the first operations, and what follows them -/
def wpLone (P : Program) (ops : Array Oper) (K : Act → Prop) : List Oper → Act → Prop
  | [], a => K a
  | o :: rest, a => if Region.wanted o (yielded ops a.tmps) = true then ∃ v, (∀ w, o.quietAt P a (fun w' => w' = w) w v) ∧ wpLone P ops K rest (a.put o.dst v) else wpLone P ops K rest (a.put o.dst undef)
theorem wpLone_step {K : Act → Prop} {a : Act} {o : Oper} {rest : List Oper}
    (h : ∀ J : Act → Prop, (∀ a, wpLone P ops K rest a → J a) → if Region.wanted o (yielded ops a.tmps) = true then ∃ v, (∀ w, o.quietAt P a (fun w' => w' = w) w v) ∧ J (a.put o.dst v) else J (a.put o.dst undef)) : wpLone P ops K (o :: rest) a :=
  h _ fun _ k => k
theorem wpLone_nil {K : Act → Prop} {a : Act} (h : K a) : wpLone P ops K [] a := h
theorem any_lone (hs : Region.noSelect ops = true) (hQ : ∀ c (a : Act) d v w, Q (.panic c) (a.put d v) w → Q (.panic c) a w) {t : Nat} {w : World} : ∀ (l : List Oper) (k : Nat) (L : Array Bool) (a : Act), (∀ j, j < l.length → l[j]? = ops[k + j]?) →
    lexPart md ops l.length k L = true → wpLone P ops (fun a' => wpAny P md ops Q t (setN L k l.length) a' w) l a → wpAny P md ops Q (l.length + t) L a w := by
  intro l
  induction l with
  | nil => intro k L a _ _ h; rw [List.length_nil, Nat.zero_add]; exact h
  | cons o l ih =>
    intro k L a hl hB h
    have h0 : ops[k]? = some o := by simpa using (hl 0 (by simp)).symm
    rw [List.length_cons, lexPart, Bool.and_eq_true, Bool.and_eq_true] at hB
    have hl' : ∀ j, j < l.length → l[j]? = ops[k + 1 + j]? := fun j hj => by
      have := hl (j + 1) (by simpa using hj)
      rw [show k + 1 + j = k + (j + 1) by omega]
      simpa using this
    rw [show (o :: l).length + t = (l.length + t) + 1 by simp; omega]
    rw [wpLone] at h
    by_cases hw : Region.wanted o (yielded ops a.tmps) = true
    · rw [if_pos hw] at h
      obtain ⟨v, hv, hk⟩ := h
      exact lone_first h0 (Region.noSelect_spec hs) (fun c a w => hQ c a _ _ w) _ L a w (Region.free_spec h0 hB.1.2) (by simpa using hB.1.1) (by unfold LoneIf; rw [if_pos hw]; exact hv) (ih (k + 1) _ _ hl' hB.2 hk)
    · rw [if_neg hw] at h
      exact lone_first h0 (Region.noSelect_spec hs) (fun c a w => hQ c a _ _ w) _ L a w (Region.free_spec h0 hB.1.2) (by simpa using hB.1.1) (by unfold LoneIf; rw [if_neg hw]) (ih (k + 1) _ _ hl' hB.2 h)
/- the only one that may come up -/
theorem any_one {i : Nat} {o : Oper} {fuel : Nat} {L : Array Bool} {a : Act} {w : World} (hr : Region.ready md ops L = [i]) (ho : ops[i]? = some o) (hg : o.guard = none) (h : o.wp P a w (wpAny P md ops Q fuel (L.setIfInBounds i true)) Q) : wpAny P md ops Q (fuel + 1) L a w := by
  refine ⟨fun h0 => (by rw [hr] at h0; cases h0), fun j hj => ?_⟩
  rw [hr] at hj
  obtain rfl : j = i := by simpa using hj
  unfold wpOp
  simp only [ho]
  rw [if_pos (by simp [Region.wanted, hg])]
  exact .inl h
theorem region_lone {id : Nat} {a : Act} {w : World} {l : List Oper} (n t : Nat) (hm : P.follows .mixedOrders = true) (hs : Region.noSelect l.toArray = true) (hn : l.toArray.size = n + t) (hQ : ∀ c (a : Act) d v w, Q (.panic c) (a.put d v) w → Q (.panic c) a w)
    (hB : lexPart .any l.toArray n 0 (Array.replicate (n + t) false) = true) (h : wpLone P l.toArray (fun a' => wpAny P .any l.toArray Q t (setN (Array.replicate (n + t) false) 0 n) a' w.drew) (l.take n) a) : (Code.region id l.toArray true).wp P Q a w := by
  refine wp_region_any hm ?_
  have hlen : (l.take n).length = n := by
    rw [List.size_toArray] at hn
    rw [List.length_take]; omega
  have := any_lone (md := .any) (ops := l.toArray) (t := t) (w := w.drew) hs hQ (l.take n) 0 (Array.replicate (n + t) false) a (fun j hj => by
    rw [hlen] at hj
    rw [List.getElem?_take_of_lt hj, Nat.zero_add, List.getElem?_toArray]) (by rw [hlen]; exact hB) (by rw [hlen]; exact h)
  rw [hlen] at this
  rw [hn]
  exact this
end
end Go
