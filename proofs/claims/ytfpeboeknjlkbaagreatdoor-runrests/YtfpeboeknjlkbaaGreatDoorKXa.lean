import Derived.Test.YtfpeboeknjlkbaaGreatDoorKPa
import Derived.Test.YtfpeboeknjlkbaaGreatDoorKPb
import Derived.Test.YtfpeboeknjlkbaaGreatDoorKPc
import Derived.Test.YtfpeboeknjlkbaaGreatDoorKPd
import Derived.Test.YtfpeboeknjlkbaaGreatDoorKPe
import Derived.Test.YtfpeboeknjlkbaaGreatDoorKWa
import Derived.Test.YtfpeboeknjlkbaaGreatDoorKWb
import Derived.Test.YtfpeboeknjlkbaaGreatDoorKWc
import Derived.Test.YtfpeboeknjlkbaaGreatDoorKWd
import Derived.Test.YtfpeboeknjlkbaaGreatDoorKWe
import Derived.Test.YtfpeboeknjlkbaaGreatDoorKWf
import Derived.Test.YtfpeboeknjlkbaaGreatDoorKWg
import Derived.Test.YtfpeboeknjlkbaaGreatDoorKWh
import Derived.Test.YtfpeboeknjlkbaaGreatDoorKWi
import Derived.Test.YtfpeboeknjlkbaaGreatDoorKWj
import Derived.Test.YtfpeboeknjlkbaaGreatDoorKWk
import Derived.Test.YtfpeboeknjlkbaaGreatDoorKWl
import Derived.Test.YtfpeboeknjlkbaaGreatDoorKWm
import Derived.Test.YtfpeboeknjlkbaaGreatDoorKWn
import Derived.Test.YtfpeboeknjlkbaaGreatDoorKWo
import Derived.Test.YtfpeboeknjlkbaaGreatDoorKSha
import Derived.Test.YtfpeboeknjlkbaaGreatDoorKMa
import Derived.Test.YtfpeboeknjlkbaaGreatDoorKQa
import Derived.Test.YtfpeboeknjlkbaaGreatDoorKQb
import Derived.Test.YtfpeboeknjlkbaaGreatDoorKQc
import Derived.Test.YtfpeboeknjlkbaaGreatDoorKMb
import Derived.Test.YtfpeboeknjlkbaaGreatDoorKQd
import Derived.Test.YtfpeboeknjlkbaaGreatDoorKQe
import Derived.Test.YtfpeboeknjlkbaaGreatDoorKQf
import Derived.Test.YtfpeboeknjlkbaaGreatDoorKMc
import Derived.Test.YtfpeboeknjlkbaaGreatDoorKMd
import Derived.Test.YtfpeboeknjlkbaaGreatDoorKQg
import Derived.Test.YtfpeboeknjlkbaaGreatDoorKQh
import Derived.Test.YtfpeboeknjlkbaaGreatDoorKQi
import Derived.Test.YtfpeboeknjlkbaaGreatDoorKQj
import Derived.Test.YtfpeboeknjlkbaaGreatDoorKMe
import Derived.Test.YtfpeboeknjlkbaaGreatDoorKMf
import Derived.Test.YtfpeboeknjlkbaaGreatDoorKQk
/- Chapter 4: what ends ends: with more fuel it ends just so; with less it tells a beginning. No program stands in it. -/
namespace Tp
def Rs.more (s : Rs) (d : Nat) : Rs := { s with left := s.left + d }
def after {α : Type} (l : List Int) : Rr α → Prop
  | .ok _ s => l <+: s.out
  | .stop _ s => l <+: s.out
  | .gas => True
structure Fu {α : Type} (f : Ru α) : Prop where
  grow : ∀ s, after s.out (f s)
  ok : ∀ s d v s1, f s = .ok v s1 → f (s.more d) = .ok v (s1.more d)
  stop : ∀ s d way s1, f s = .stop way s1 → way ≠ fuelW → f (s.more d) = .stop way (s1.more d)
  fuel : ∀ s d s1, f s = .stop fuelW s1 → after s1.out (f (s.more d))
theorem after_mono {α : Type} {l l' : List Int} {r : Rr α} (h : l <+: l') (k : after l' r) : after l r := by
  cases r with
  | ok v s => exact h.trans k
  | stop way s => exact h.trans k
  | gas => trivial
theorem Fu.pure {α : Type} (v : α) : Fu (Ru.pure v) := ⟨fun s => List.prefix_refl _, fun s d v s1 h => (by cases h; rfl), fun s d way s1 h => (by cases h), fun s d s1 h => by cases h⟩
theorem Fu.stop' {α : Type} {way : Nat} (hw : way ≠ fuelW) : Fu (Ru.stop way : Ru α) := ⟨fun s => List.prefix_refl _, fun s d v s1 h => (by cases h), fun s d way s1 h _ => (by cases h; rfl), fun s d s1 h => by cases h; exact absurd rfl hw⟩
theorem Fu.out {α : Type} : Fu (Ru.out : Ru α) := ⟨fun s => trivial, fun s d v s1 h => (by cases h), fun s d way s1 h => (by cases h), fun s d s1 h => by cases h⟩
theorem Fu.tick : Fu tick := by
  refine ⟨fun s => ?_, fun s d v s1 h => ?_, fun s d way s1 h hw => ?_, fun s d s1 h => ?_⟩
  · unfold Tp.tick; cases s.left <;> exact List.prefix_refl _
  · unfold Tp.tick at h ⊢
    cases hl : s.left with
    | zero => rw [hl] at h; cases h
    | succ n =>
      rw [hl] at h
      cases h
      have : (s.more d).left = (n + d) + 1 := by simp [Rs.more, hl]; omega
      rw [this]
      rfl
  · unfold Tp.tick at h
    cases hl : s.left with
    | zero => rw [hl] at h; cases h; exact absurd rfl hw
    | succ n => rw [hl] at h; cases h
  · unfold Tp.tick at h
    cases hl : s.left with
    | zero =>
      rw [hl] at h
      cases h
      unfold Tp.tick
      cases (s.more d).left <;> exact List.prefix_refl _
    | succ n => rw [hl] at h; cases h
theorem Fu.tellN (n : Int) : Fu (tellN n) := by
  refine ⟨fun s => ?_, fun s d v s1 h => ?_, fun s d way s1 h hw => ?_, fun s d s1 h => ?_⟩
  · unfold Tp.tellN; split
    · exact List.prefix_append _ _
    · exact List.prefix_refl _
  · unfold Tp.tellN at h ⊢
    split at h
    · cases h; rw [if_pos (by assumption)]; rfl
    · cases h
  · unfold Tp.tellN at h ⊢
    split at h
    · cases h
    · cases h; rw [if_neg (by assumption)]
  · unfold Tp.tellN at h
    split at h <;> cases h
theorem Fu.getV (md nm : Bs) : Fu (getV md nm) := ⟨fun s => List.prefix_refl _, fun s d v s1 h => (by cases h; rfl), fun s d way s1 h => (by cases h), fun s d s1 h => by cases h⟩
theorem Fu.setV (md nm : Bs) (l : List Int) : Fu (setV md nm l) := ⟨fun s => List.prefix_refl _, fun s d v s1 h => (by cases h; rfl), fun s d way s1 h => (by cases h), fun s d s1 h => by cases h⟩
theorem Fu.procOf (md nm : Bs) : Fu (procOf md nm) := ⟨fun s => List.prefix_refl _, fun s d v s1 h => (by cases h; rfl), fun s d way s1 h => (by cases h), fun s d s1 h => by cases h⟩
theorem Fu.bind {α β : Type} {f : Ru α} {g : α → Ru β} (hf : Fu f) (hg : ∀ v, Fu (g v)) : Fu (f.bind g) := by
  have gr : ∀ s l, after l (f s) → after l ((f.bind g) s) := by
    intro s l h
    unfold Ru.bind
    cases hs : f s with
    | ok v s1 => rw [hs] at h; exact after_mono h ((hg v).grow s1)
    | stop way s1 => rw [hs] at h; exact h
    | gas => trivial
  refine ⟨fun s => gr s _ (hf.grow s), fun s d v s1 h => ?_, fun s d way s1 h hw => ?_, fun s d s1 h => ?_⟩
  · unfold Ru.bind at h ⊢
    cases hs : f s with
    | ok u s2 => rw [hs] at h; rw [hf.ok s d u s2 hs]; exact (hg u).ok s2 d v s1 h
    | stop way s2 => rw [hs] at h; cases h
    | gas => rw [hs] at h; cases h
  · unfold Ru.bind at h ⊢
    cases hs : f s with
    | ok u s2 => rw [hs] at h; rw [hf.ok s d u s2 hs]; exact (hg u).stop s2 d way s1 h hw
    | stop way' s2 => rw [hs] at h; cases h; rw [hf.stop s d _ _ hs hw]
    | gas => rw [hs] at h; cases h
  · cases hs : f s with
    | ok u s2 =>
      have h' : g u s2 = .stop fuelW s1 := by unfold Ru.bind at h; rw [hs] at h; exact h
      have := (hg u).fuel s2 d s1 h'
      unfold Ru.bind
      rw [hf.ok s d u s2 hs]
      exact this
    | stop way s2 =>
      have h' : Rr.stop way s2 = (Rr.stop fuelW s1 : Rr β) := by unfold Ru.bind at h; rw [hs] at h; exact h
      cases h'
      exact gr _ _ (hf.fuel s d _ hs)
    | gas => unfold Ru.bind at h; rw [hs] at h; cases h
theorem Fu.ite {α : Type} {p : Prop} [Decidable p] {f g : Ru α} (hf : Fu f) (hg : Fu g) : Fu (if p then f else g) := by split <;> assumption
structure FuAll (n : Nat) : Prop where
  ex : ∀ k md own l, Fu (evX n k md own l)
  exs : ∀ k md own l, Fu (evs n k md own l)
  cl : ∀ k md p vs, Fu (callP n k md p vs)
  ss : ∀ k md own l, Fu (goS n k md own l)
  s1 : ∀ k md own x, Fu (go1 n k md own x)
  wh : ∀ k md own c b, Fu (goW n k md own c b)
theorem bne : bounds ≠ fuelW := by decide
theorem zne : zero ≠ fuelW := by decide
theorem dne : deep ≠ fuelW := by decide
theorem fu_all : ∀ n, FuAll n := by
  intro n
  induction n with
  | zero => exact ⟨fun _ _ _ _ => by unfold evX; exact Fu.out, fun _ _ _ _ => by unfold evs; exact Fu.out, fun _ _ _ _ => by unfold callP; exact Fu.out, fun _ _ _ _ => by unfold goS; exact Fu.out, fun _ _ _ _ => by unfold go1; exact Fu.out, fun _ _ _ _ _ => by unfold goW; exact Fu.out⟩
  | succ n ih =>
    refine ⟨fun k md own l => ?_, fun k md own l => ?_, fun k md p vs => ?_, fun k md own l => ?_, fun k md own x => ?_, fun k md own c b => ?_⟩
    · cases l with
      | nil => unfold evX; exact Fu.pure _
      | cons x t =>
        unfold evX
        refine Fu.ite (Fu.pure _) (Fu.ite (Fu.ite ?_ ((Fu.getV _ _).bind fun _ => Fu.pure _)) (Fu.ite ((ih.ex _ _ _ _).bind fun i => (Fu.getV _ _).bind fun l => Fu.ite (Fu.pure _) (Fu.stop' bne)) (Fu.ite ((ih.ex _ _ _ _).bind fun v => Fu.pure _) (Fu.ite ((ih.ex _ _ _ _).bind fun a => Fu.ite (Fu.ite (Fu.pure _) ((ih.ex _ _ _ _).bind fun b => Fu.pure _)) (Fu.ite (Fu.ite (Fu.pure _) ((ih.ex _ _ _ _).bind fun b => Fu.pure _)) ((ih.ex _ _ _ _).bind fun b => ?_))) (Fu.ite ((ih.exs _ _ _ _).bind fun vs => (Fu.procOf _ _).bind fun p => ?_) (Fu.pure _))))))
        · split
          · exact Fu.pure _
          · exact (Fu.getV _ _).bind fun _ => Fu.pure _
        · split
          · exact Fu.pure _
          · exact Fu.stop' zne
        · split
          · exact Fu.pure _
          · exact ih.cl _ _ _ _
    · cases l with
      | nil => unfold evs; exact Fu.pure _
      | cons x t => unfold evs; exact (ih.ex _ _ _ _).bind fun v => (ih.exs _ _ _ _).bind fun vs => Fu.pure _
    · unfold callP; exact Fu.ite (Fu.stop' dne) ((ih.ss _ _ _ _).bind fun r => Fu.pure _)
    · cases l with
      | nil => unfold goS; exact Fu.pure _
      | cons x t =>
        unfold goS
        refine Fu.tick.bind fun _ => (ih.s1 _ _ _ _).bind fun r => ?_
        split
        · exact Fu.pure _
        · exact ih.ss _ _ _ _
    · unfold go1
      refine Fu.ite (Fu.ite ((ih.ex _ _ _ _).bind fun v => ?_) ((ih.ex _ _ _ _).bind fun i => (ih.ex _ _ _ _).bind fun v => (Fu.getV _ _).bind fun l => Fu.ite ((Fu.setV _ _ _).bind fun _ => Fu.pure _) (Fu.stop' bne))) (Fu.ite ((ih.ex _ _ _ _).bind fun v => Fu.ite (ih.ss _ _ _ _) (ih.ss _ _ _ _)) (Fu.ite (ih.wh _ _ _ _ _) (Fu.ite ((ih.ex _ _ _ _).bind fun v => Fu.pure _) (Fu.ite ((ih.ex _ _ _ _).bind fun v => (Fu.tellN _).bind fun _ => Fu.pure _) ((ih.ex _ _ _ _).bind fun _ => Fu.pure _)))))
      split
      · exact Fu.pure _
      · exact (Fu.setV _ _ _).bind fun _ => Fu.pure _
    · unfold goW
      refine (ih.ex _ _ _ _).bind fun v => Fu.ite (Fu.pure _) ((ih.ss _ _ _ _).bind fun r => ?_)
      split
      · exact Fu.pure _
      · exact Fu.tick.bind fun _ => ih.wh _ _ _ _ _
end Tp
/- Chapter 4: worlds: Load, Call, Get, Names, Swap on plain modules; what RunRests says, and RunRefuses. No program stands in it. -/
namespace Tp
def getW (w : List Pt) (md nm : Bs) : Option (List Int) := (partOf w md).bind fun p => if p.m.vars.any (fun g => g.name == nm) then some (p.vars nm) else none
/- WHAT ENDS ENDS: two runs of the same, one with d more fuel -/
theorem run_rests {w : List Pt} {l : List S} {f d : Nat} {md : Bs} {own : Own} {r1 r2 : Rr (Own × Option Int)} (h1 : r1 = goS (gasOf w l f) 0 md own l ⟨w, f, []⟩) (h2 : r2 = goS (gasOf w l (f + d)) 0 md own l ⟨w, f + d, []⟩) :
    ((endOf r1).2.way ≠ fuelW → endOf r2 = endOf r1) ∧ ((endOf r1).2.way = fuelW → (endOf r1).2.out <+: (endOf r2).2.out) := by
  have n1 : goS (gasOf w l f) 0 md own l ⟨w, f, []⟩ ≠ .gas := goS_enough
  have n2 : goS (gasOf w l (f + d)) 0 md own l ⟨w, f + d, []⟩ ≠ .gas := goS_enough
  have e1 := goS_more (d := gasOf w l (f + d)) n1
  have e2 := goS_more (d := gasOf w l f) n2
  rw [Nat.add_comm] at e2
  rw [← e1] at h1
  rw [← e2] at h2
  rw [← e2] at n2
  have hf := (fu_all (gasOf w l f + gasOf w l (f + d))).ss 0 md own l
  have hm : (⟨w, f, []⟩ : Rs).more d = ⟨w, f + d, []⟩ := rfl
  cases hr : goS (gasOf w l f + gasOf w l (f + d)) 0 md own l ⟨w, f, []⟩ with
  | ok v s1 =>
    have := hf.ok _ d v s1 hr
    rw [hm] at this
    rw [h1, h2, hr, this]
    exact ⟨fun _ => rfl, fun h => absurd h (by simp [endOf, fuelW])⟩
  | stop way s1 =>
    rw [h1, h2, hr]
    refine ⟨fun h => ?_, fun h => ?_⟩
    · have := hf.stop _ d way s1 hr h
      rw [hm] at this
      rw [this]
      rfl
    · have hw : way = fuelW := h
      subst hw
      have := hf.fuel _ d s1 hr
      rw [hm] at this
      cases hq : goS (gasOf w l f + gasOf w l (f + d)) 0 md own l ⟨w, f + d, []⟩ with
      | ok v s2 => rw [hq] at this; exact this
      | stop way s2 => rw [hq] at this; exact this
      | gas => exact absurd hq n2
  | gas => rw [e1] at hr; exact absurd hr n1
theorem load_rests {ofF : M → List Sy} {w : List Pt} {m : M} {f d : Nat} : (loadW ofF w m f).err = (loadW ofF w m (f + d)).err ∧ ((loadW ofF w m f).e.way ≠ fuelW → (loadW ofF w m (f + d)).e = (loadW ofF w m f).e ∧ (loadW ofF w m (f + d)).w = (loadW ofF w m f).w) ∧ ((loadW ofF w m f).e.way = fuelW → (loadW ofF w m f).e.out <+: (loadW ofF w m (f + d)).e.out) := by
  unfold loadW
  split
  · exact ⟨rfl, fun _ => ⟨rfl, rfl⟩, fun h => by simp [no, fuelW] at h⟩
  · cases hc : check m (seenW ofF w) with
    | some e => exact ⟨rfl, fun _ => ⟨rfl, rfl⟩, fun h => by simp [no, fuelW] at h⟩
    | none =>
      simp only
      split
      · exact ⟨rfl, fun _ => ⟨rfl, rfl⟩, fun h => by simp [no, fuelW] at h⟩
      · obtain ⟨a, b⟩ := run_rests (w := w ++ [⟨m, fresh m⟩]) (l := m.body) (f := f) (d := d) (md := m.name) (own := fun _ => none) rfl rfl
        exact ⟨rfl, fun h => by rw [a h]; exact ⟨rfl, rfl⟩, b⟩
end Tp
