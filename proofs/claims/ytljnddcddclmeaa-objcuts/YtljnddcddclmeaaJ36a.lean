/- A region that draws, taken in its order; the rest of it, where nothing but copies is left. -/
import Derived.Test.YtljnddcddclmeaaJ35
namespace Go.Proofs.Ytljnddcddclmeaa
open Go.RowKit
open Ob (Bs)

def yieldV (ops : Array Oper) (a : Act) (o : Oper) : Option Value :=
  if Region.wanted o (yielded ops a.tmps) = false then some undef else
  match o.op with
  | .move x => some (a.eval x)
  | .assign x => some (a.eval x)
  | .pick c x y => match a.eval c with
    | .bool true => some (a.eval x)
    | .bool false => some (a.eval y)
    | _ => none
  | _ => none
theorem yieldV_ok {P : Program} {ops : Array Oper} {S : World → Prop} {a : Act} {o : Oper} {v : Value} (h : yieldV ops a o = some v) : YieldsIf P ops S o v a := by
  unfold yieldV at h
  split at h
  · rename_i hw
    cases h
    exact Or.inr ⟨hw, rfl⟩
  · rename_i hw
    have hw' : Region.wanted o (yielded ops a.tmps) = true := by simpa using hw
    refine Or.inl ⟨hw', fun w _ => ?_⟩
    split at h
    · rename_i x ho; cases h; simp [execOp, ho]
    · rename_i x ho; cases h; simp [execOp, ho]
    · rename_i c x y ho
      split at h
      · rename_i hc; cases h; simp [execOp, ho, hc, asBool]
      · rename_i hc; cases h; simp [execOp, ho, hc, asBool]
      · cases h
    · cases h
/- the first n have come up -/
def lst (m : Nat) : Nat → Array Bool
  | 0 => Array.replicate m false
  | n + 1 => (lst m n).setIfInBounds n true
def inOrder (ops : Array Oper) : Bool := Region.noSelect ops && ((List.range ops.size).all fun i => Region.free .any ops (lst ops.size i) i && (Region.ready .any ops (lst ops.size i)).contains i) && (Region.ready .any ops (lst ops.size ops.size)).isEmpty
theorem inOrder_at {ops : Array Oper} (h : inOrder ops = true) {i : Nat} (hi : i < ops.size) : Region.noSelect ops = true ∧ Region.free .any ops (lst ops.size i) i = true ∧ (Region.ready .any ops (lst ops.size i)).contains i = true := by
  unfold inOrder at h
  rw [Bool.and_eq_true, Bool.and_eq_true, List.all_eq_true] at h
  have := h.1.2 i (List.mem_range.2 hi)
  rw [Bool.and_eq_true] at this
  exact ⟨h.1.1, this.1, this.2⟩
theorem takeI {P : Program} {ops : Array Oper} {Q : Exit → Act → World → Prop} {S : World → Prop} {d : Option Tmp} {v : Value} {fuel : Nat} {a : Act} {w : World} (n : Nat) (hin : inOrder ops = true) (hn : n < ops.size) (hd : (ops[n]?).map (fun o => o.dst) = some d)
    (hQ : ∀ c a w, Q (.panic c) (a.put d v) w → Q (.panic c) a w) (hy : ∀ oi, ops[n]? = some oi → YieldsIf P ops S oi v a) (hS : S w)
    (h : wpAnyH P .any ops Q S fuel (lst ops.size (n + 1)) (a.put d v) w) : wpAnyH P .any ops Q S (fuel + 1) (lst ops.size n) a w := by
  obtain ⟨h1, h2, h3⟩ := inOrder_at hin hn
  rcases ho : ops[n]? with _ | oi
  · rw [ho] at hd; cases hd
  · rw [ho] at hd
    cases hd
    exact wpAnyH_take ho h1 h2 h3 hQ (hy oi ho) hS h
def restB (ops : Array Oper) : Nat → Nat → Act → Option Act
  | 0, _, a => some a
  | n + 1, i, a => match ops[i]? with
    | none => none
    | some o => match yieldV ops a o with
      | some v => restB ops n (i + 1) (a.put o.dst v)
      | none => none
theorem rest_go {P : Program} {ops : Array Oper} {Q : Exit → Act → World → Prop} {S : World → Prop} (hin : inOrder ops = true) (hQ : ∀ c a d v w, Q (.panic c) (a.put d v) w → Q (.panic c) a w) {w : World} (hS : S w) :
    ∀ (n i : Nat) (a a' : Act) (fuel : Nat), restB ops n i a = some a' → n + i = ops.size → n ≤ fuel → Q .normal a' w → wpAnyH P .any ops Q S fuel (lst ops.size i) a w := by
  intro n
  induction n with
  | zero =>
    intro i a a' fuel h hi _ hq
    cases h
    rw [Nat.zero_add] at hi
    subst hi
    refine wpAnyH_done ?_ hq fuel
    have h2 := hin
    unfold inOrder at h2
    rw [Bool.and_eq_true] at h2
    simpa using h2.2
  | succ n ih =>
    intro i a a' fuel h hi hf hq
    obtain ⟨f, rfl⟩ : ∃ f, fuel = f + 1 := ⟨fuel - 1, by omega⟩
    have hil : i < ops.size := by omega
    obtain ⟨h1, h2, h3⟩ := inOrder_at hin hil
    unfold restB at h
    split at h
    · cases h
    · rename_i o ho
      split at h
      · rename_i v hv
        exact wpAnyH_take ho h1 h2 h3 (fun c a w h => hQ c a _ _ w h) (yieldV_ok hv) hS (ih (i + 1) _ _ f h (by omega) (by omega) hq)
      · cases h
/- it ends so: slot t has v, nothing is deferred -/
theorem rest_end {P : Program} {ops : Array Oper} {Q : Exit → Act → World → Prop} {S : World → Prop} {w : World} {t : Nat} {v : Value} {fuel : Nat} {a : Act} (n i : Nat) (hin : inOrder ops = true) (hQ : ∀ c a d v w, Q (.panic c) (a.put d v) w → Q (.panic c) a w) (hS : S w)
    (hr : (restB ops n i a).map (fun a => (a.tmps.getD t undef, a.defers.length)) = some (v, 0)) (hi : n + i = ops.size) (hf : n ≤ fuel) (h : ∀ a', a'.tmps.getD t undef = v → a'.defers = [] → Q .normal a' w) : wpAnyH P .any ops Q S fuel (lst ops.size i) a w := by
  rcases hx : restB ops n i a with _ | a'
  · rw [hx] at hr; cases hr
  · rw [hx] at hr
    simp at hr
    exact rest_go hin hQ hS n i a a' fuel hx hi hf (h a' (by simpa using hr.1) hr.2)
/- the region's operations behind a name -/
theorem region_abs {P : Program} {id : Nat} {ops : Array Oper} {b : Bool} {Q : Exit → Act → World → Prop} {a : Act} {w : World} (h : ∀ ops', Hid (ops' = ops) → (Code.region id ops' b).wp P Q a w) : (Code.region id ops b).wp P Q a w := h ops rfl
theorem begin_order {P : Program} {id : Nat} {ops : Array Oper} {Q : Exit → Act → World → Prop} {S : World → Prop} {a : Act} {w : World} {m : Nat} (hm : P.follows .mixedOrders = true) (hz : ops.size = m) (hS : S w.drew)
    (h : S w.drew → wpAnyH P .any ops Q S m (lst ops.size 0) a w.drew) : (Code.region id ops true).wp P Q a w := by
  refine wp_region_held_drew hm hS (fun hS => ?_)
  have := h hS
  rw [← hz] at this
  exact this
/- a call comes up -/
theorem call_order {P : Program} {ops : Array Oper} {Q : Exit → Act → World → Prop} {S : World → Prop} {fuel : Nat} {a : Act} {w : World} (n : Nat) (hr : Region.ready .any ops (lst ops.size n) = [n]) (o : Oper) (ho : ops[n]? = some o)
    (h : ∀ K' : Act → World → Prop, Shut (∀ a w, S w → (S w → wpAnyH P .any ops Q S fuel (lst ops.size (n + 1)) a w) → K' a w) → if Region.wanted o (yielded ops a.tmps) = true then Oper.wp P o a w K' Q else K' (a.put o.dst undef) w) : wpAnyH P .any ops Q S (fuel + 1) (lst ops.size n) a w :=
  wpAnyH_ready (rs := [n]) hr (by simp) (AllReadyH.cons ho h AllReadyH.nil)
end Go.Proofs.Ytljnddcddclmeaa
