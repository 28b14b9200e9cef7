import Derived.Test.YtfpeboeknjlkbaaGreatDoorKPd
/- Chapter 4: who is not used is not there: Load, Call, Swap with a module ahead that nothing names. No program stands in it. -/
namespace Tp
theorem imps_congr {own : Bs} {a b : Seen} : ∀ {l ah : List Bs}, (∀ n ∈ l, a n = b n) → imps own a ah l = imps own b ah l := by
  intro l
  induction l with
  | nil => intro ah _; rfl
  | cons n t ih =>
    intro ah h
    rw [imps, imps, h n (by simp), ih (fun k hk => h k (by simp [hk]))]
theorem stand_congr {m : M} {own : List Bs} {a b : Seen} (h : ∀ n ∈ m.imports, a n = b n) (md nm : Bs) : stand m own a md nm = stand m own b md nm := by
  unfold stand
  by_cases h1 : md ≠ []
  · rw [if_pos h1, if_pos h1]
    by_cases h2 : md ∈ m.imports
    · rw [if_pos h2, if_pos h2, h md h2]
    · rw [if_neg h2, if_neg h2]
  · rw [if_neg h1, if_neg h1]
theorem judge_congr {m : M} {own : List Bs} {a b : Seen} (h : ∀ n ∈ m.imports, a n = b n) : judge m own a = judge m own b := by
  funext r
  unfold judge
  rw [stand_congr h]
theorem check_congr {m : M} {a b : Seen} (h : ∀ n ∈ m.imports, a n = b n) : check m a = check m b := by
  unfold check
  have hp : checkP m a = checkP m b := by
    funext p
    unfold checkP
    rw [judge_congr h]
  rw [imps_congr h, hp, judge_congr h]
theorem callP_enough {w : List Pt} {p : Pr} {fuel : Nat} {md : Bs} {vs : List Int} {out : List Int} (hp : SizeOf.sizeOf p.body ≤ bodySz w) : callP (nd (bodySz w) fuel 0) 0 md p vs ⟨w, fuel, out⟩ ≠ .gas := by
  have := (go_all (bodySz w) fuel (nd (bodySz w) fuel 0)).cl 0 md p vs ⟨w, fuel, out⟩ (bodySz_bd _ _ _) (Nat.le_refl _) hp (Nat.le_refl _)
  intro h
  unfold Goes at this
  rw [h] at this
  exact this
end Tp
/- Chapters 2 and 4: Needs is the same just where each name that is used stands for the same. No program stands in it. -/
namespace Tp
theorem findS_name {l : List Sy} {n : Bs} {s : Sy} (h : findS l n = some s) : s.1 = n := by
  have := List.find?_some h
  simpa using this
end Tp
/- Chapter 4: which modules are there is not changed by what is done; what worlds keep to. No program stands in it. -/
namespace Tp
def ms (w : List Pt) : List M := w.map (·.m)
def Ke {α : Type} (f : Ru α) : Prop := ∀ s, match f s with
  | .ok _ s1 => ms s1.w = ms s.w
  | .stop _ s1 => ms s1.w = ms s.w
  | .gas => True
theorem Ke.pure {α : Type} (v : α) : Ke (Ru.pure v) := fun _ => rfl
theorem Ke.stop {α : Type} (way : Nat) : Ke (Ru.stop way : Ru α) := fun _ => rfl
theorem Ke.out {α : Type} : Ke (Ru.out : Ru α) := fun _ => trivial
theorem Ke.bind {α β : Type} {f : Ru α} {g : α → Ru β} (hf : Ke f) (hg : ∀ v, Ke (g v)) : Ke (f.bind g) := by
  intro s
  have h := hf s
  unfold Ru.bind
  cases hs : f s with
  | ok v s1 =>
    rw [hs] at h
    have h2 := hg v s1
    simp only at h ⊢
    cases hr : g v s1 with
    | ok u s2 => rw [hr] at h2; exact h2.trans h
    | stop way s2 => rw [hr] at h2; exact h2.trans h
    | gas => trivial
  | stop way s1 => rw [hs] at h; exact h
  | gas => trivial
theorem Ke.ite {α : Type} {p : Prop} [Decidable p] {f g : Ru α} (hf : Ke f) (hg : Ke g) : Ke (if p then f else g) := by split <;> assumption
theorem Ke.tick : Ke tick := by
  intro s
  unfold Tp.tick
  cases s.left <;> rfl
theorem Ke.tellN (n : Int) : Ke (tellN n) := by
  intro s
  unfold Tp.tellN
  by_cases h : s.out.length < 200
  · rw [if_pos h]
  · rw [if_neg h]
theorem Ke.getV (md nm : Bs) : Ke (getV md nm) := fun _ => rfl
theorem Ke.procOf (md nm : Bs) : Ke (procOf md nm) := fun _ => rfl
theorem Ke.setV (md nm : Bs) (l : List Int) : Ke (setV md nm l) := by
  intro s
  unfold Tp.setV ms
  simp only [List.map_map]
  apply List.map_congr_left
  intro p _
  simp only [Function.comp]
  split <;> rfl
structure KeAll (n : Nat) : Prop where
  ex : ∀ k md own l, Ke (evX n k md own l)
  exs : ∀ k md own l, Ke (evs n k md own l)
  cl : ∀ k md p vs, Ke (callP n k md p vs)
  ss : ∀ k md own l, Ke (goS n k md own l)
  s1 : ∀ k md own x, Ke (go1 n k md own x)
  wh : ∀ k md own c b, Ke (goW n k md own c b)
theorem ke_all : ∀ n, KeAll n := by
  intro n
  induction n with
  | zero => exact ⟨fun _ _ _ _ => by unfold evX; exact Ke.out, fun _ _ _ _ => by unfold evs; exact Ke.out, fun _ _ _ _ => by unfold callP; exact Ke.out, fun _ _ _ _ => by unfold goS; exact Ke.out, fun _ _ _ _ => by unfold go1; exact Ke.out, fun _ _ _ _ _ => by unfold goW; exact Ke.out⟩
  | succ n ih =>
    refine ⟨fun k md own l => ?_, fun k md own l => ?_, fun k md p vs => ?_, fun k md own l => ?_, fun k md own x => ?_, fun k md own c b => ?_⟩
    · cases l with
      | nil => unfold evX; exact Ke.pure _
      | cons x t =>
        unfold evX
        refine Ke.ite (Ke.pure _) (Ke.ite (Ke.ite ?_ ((Ke.getV _ _).bind fun _ => Ke.pure _)) (Ke.ite ((ih.ex _ _ _ _).bind fun i => (Ke.getV _ _).bind fun l => Ke.ite (Ke.pure _) (Ke.stop _)) (Ke.ite ((ih.ex _ _ _ _).bind fun v => Ke.pure _) (Ke.ite ((ih.ex _ _ _ _).bind fun a => Ke.ite (Ke.ite (Ke.pure _) ((ih.ex _ _ _ _).bind fun b => Ke.pure _)) (Ke.ite (Ke.ite (Ke.pure _) ((ih.ex _ _ _ _).bind fun b => Ke.pure _)) ((ih.ex _ _ _ _).bind fun b => ?_))) (Ke.ite ((ih.exs _ _ _ _).bind fun vs => (Ke.procOf _ _).bind fun p => ?_) (Ke.pure _))))))
        · split
          · exact Ke.pure _
          · exact (Ke.getV _ _).bind fun _ => Ke.pure _
        · split
          · exact Ke.pure _
          · exact Ke.stop _
        · split
          · exact Ke.pure _
          · exact ih.cl _ _ _ _
    · cases l with
      | nil => unfold evs; exact Ke.pure _
      | cons x t => unfold evs; exact (ih.ex _ _ _ _).bind fun v => (ih.exs _ _ _ _).bind fun vs => Ke.pure _
    · unfold callP; exact Ke.ite (Ke.stop _) ((ih.ss _ _ _ _).bind fun r => Ke.pure _)
    · cases l with
      | nil => unfold goS; exact Ke.pure _
      | cons x t =>
        unfold goS
        refine Ke.tick.bind fun _ => (ih.s1 _ _ _ _).bind fun r => ?_
        split
        · exact Ke.pure _
        · exact ih.ss _ _ _ _
    · unfold go1
      refine Ke.ite (Ke.ite ((ih.ex _ _ _ _).bind fun v => ?_) ((ih.ex _ _ _ _).bind fun i => (ih.ex _ _ _ _).bind fun v => (Ke.getV _ _).bind fun l => Ke.ite ((Ke.setV _ _ _).bind fun _ => Ke.pure _) (Ke.stop _))) (Ke.ite ((ih.ex _ _ _ _).bind fun v => Ke.ite (ih.ss _ _ _ _) (ih.ss _ _ _ _)) (Ke.ite (ih.wh _ _ _ _ _) (Ke.ite ((ih.ex _ _ _ _).bind fun v => Ke.pure _) (Ke.ite ((ih.ex _ _ _ _).bind fun v => (Ke.tellN _).bind fun _ => Ke.pure _) ((ih.ex _ _ _ _).bind fun _ => Ke.pure _)))))
      split
      · exact Ke.pure _
      · exact (Ke.setV _ _ _).bind fun _ => Ke.pure _
    · unfold goW
      refine (ih.ex _ _ _ _).bind fun v => Ke.ite (Ke.pure _) ((ih.ss _ _ _ _).bind fun r => ?_)
      split
      · exact Ke.pure _
      · exact Ke.tick.bind fun _ => ih.wh _ _ _ _ _
/- what a world keeps to -/
structure WI (ofF : M → List Sy) (w : List Pt) : Prop where
  nd : ((ms w).map (·.name)).Nodup
  ck : ∀ m ∈ ms w, check m (seenW ofF w) = none
  ac : ∀ m ∈ ms w, ∀ n ∈ m.imports, ¬ Leads w n m.name
theorem WI.empty (ofF : M → List Sy) : WI ofF [] := ⟨List.nodup_nil, fun m hm => (by cases hm), fun m hm => (by cases hm)⟩
theorem part_name {w : List Pt} {n : Bs} {p : Pt} (h : partOf w n = some p) : p ∈ w ∧ p.m.name = n := ⟨List.mem_of_find?_eq_some h, by simpa using List.find?_some h⟩
theorem part_last {w : List Pt} {q : Pt} {n : Bs} (h : n ≠ q.m.name) : partOf (w ++ [q]) n = partOf w n := by
  unfold partOf
  rw [List.find?_append, List.find?_cons_of_neg (by simpa using fun e => h e.symm)]
  simp
/- a module more -/
theorem WI.add {ofF : M → List Sy} {w : List Pt} {q : Pt} (h : WI ofF w) (hn : partOf w q.m.name = Option.none) (hc : check q.m (seenW ofF w) = Option.none) : WI ofF (w ++ [q]) := by
  have hnm : ∀ p ∈ w, p.m.name ≠ q.m.name := fun p hp e => by
    have := List.find?_eq_none.1 hn p hp
    simp [e] at this
  have himp : ∀ m ∈ Tp.ms w, q.m.name ∉ m.imports := fun m hm hi => by
    have := (check_none.1 (h.ck m hm)).1.1 _ hi
    exact this.2 (by unfold seenW; rw [hn]; rfl)
  have himq : q.m.name ∉ q.m.imports := fun hi => ((check_none.1 hc).1.1 _ hi).1 rfl
  have hse : ∀ n, n ≠ q.m.name → seenW ofF (w ++ [q]) n = seenW ofF w n := fun n e => by unfold seenW; rw [part_last e]
  have hck : ∀ m, q.m.name ∉ m.imports → check m (seenW ofF (w ++ [q])) = check m (seenW ofF w) := fun m hm => check_congr fun n hn => hse n fun e => hm (e ▸ hn)
  have hld : ∀ a b, Leads (w ++ [q]) a b → a ≠ q.m.name → Leads w a b ∧ b ≠ q.m.name := by
    intro a b k
    induction k with
    | refl a => exact fun e => ⟨.refl a, e⟩
    | step hp hcc _ ih =>
      intro e
      rw [part_last e] at hp
      have hpm := (part_name hp).1
      obtain ⟨i1, i2⟩ := ih (fun e2 => himp _ (List.mem_map.2 ⟨_, hpm, rfl⟩) (e2 ▸ hcc))
      exact ⟨.step hp hcc i1, i2⟩
  have hms : Tp.ms (w ++ [q]) = Tp.ms w ++ [q.m] := by simp [Tp.ms]
  refine ⟨?_, fun m hm => ?_, fun m hm n hnn k => ?_⟩
  · rw [hms, List.map_append, List.nodup_append]
    refine ⟨h.nd, by simp, fun a ha b hb e => ?_⟩
    simp only [Tp.ms, List.map_map, List.mem_map, Function.comp] at ha
    obtain ⟨p, hp, rfl⟩ := ha
    simp at hb
    exact hnm p hp (e.trans hb)
  · rw [hms] at hm
    rcases List.mem_append.1 hm with q1 | q1
    · rw [hck m (himp m q1)]; exact h.ck m q1
    · rw [List.mem_singleton] at q1
      subst q1
      rw [hck _ himq]; exact hc
  · rw [hms] at hm
    rcases List.mem_append.1 hm with q1 | q1
    · exact h.ac m q1 n hnn (hld _ _ k (fun e => himp m q1 (e ▸ hnn))).1
    · rw [List.mem_singleton] at q1
      subst q1
      exact (hld _ _ k (fun e => himq (e ▸ hnn))).2 rfl
theorem endOf_ms {n k : Nat} {md : Bs} {own : Own} {l : List S} {s : Rs} (h : goS n k md own l s ≠ .gas) : ms (endOf (goS n k md own l s)).1 = ms s.w := by
  have := (ke_all n).ss k md own l s
  cases hr : goS n k md own l s with
  | ok v s1 => rw [hr] at this; exact this
  | stop way s1 => rw [hr] at this; exact this
  | gas => exact absurd hr h
end Tp
/- Chapter 3 as the program goes: names in maps, what was told first. No program stands in it. -/
namespace Tp
/- what is laid beside others: its name, its place, its Len, its Args -/
abbrev Th := Bs × Nat × Nat × Int
def thG (g : G) : Th := (g.name, g.pos, g.len, -1)
def thP (p : Pr) : Th := (p.name, p.pos, 0, (p.params.length : Int))
def things (m : M) : List Th := m.vars.map thG ++ m.procs.map thP
def ownT (p : Pr) : List Th := (ownOf p).map fun n => (n, p.pos, 0, -1)
def lkT (l : List Th) (k : Bs) : Option (Nat × Int) := (l.find? fun x => x.1 == k).map fun x => x.2.2
theorem lkT_snoc {l : List Th} {x : Th} (h : x.1 ∉ l.map (·.1)) (k : Bs) : lkT (l ++ [x]) k = if k = x.1 then some x.2.2 else lkT l k := by
  unfold lkT
  rw [List.find?_append]
  by_cases e : k = x.1
  · have : l.find? (fun y => y.1 == k) = none := by
      rw [List.find?_eq_none]
      intro y hy
      have hne : y.1 ≠ k := fun q => h (List.mem_map.2 ⟨y, hy, q.trans e⟩)
      simpa using hne
    rw [this, if_pos e]
    subst e
    simp
  · rw [if_neg e]
    have : [x].find? (fun y => y.1 == k) = none := by
      rw [List.find?_cons]
      have : (x.1 == k) = false := by simpa using fun q => e q.symm
      rw [this]; rfl
    rw [this]
    simp
theorem lkT_some {l : List Th} {k : Bs} : (lkT l k).isSome = true ↔ k ∈ l.map (·.1) := by
  unfold lkT
  rw [Option.isSome_map, List.find?_isSome, List.mem_map]
  constructor
  · rintro ⟨x, hx, e⟩
    exact ⟨x, hx, by simpa using e⟩
  · rintro ⟨x, hx, e⟩
    exact ⟨x, hx, by simpa using e⟩
def keyT (x : Th) : Bs × Nat := (x.1, x.2.1)
/- what is found of those from the i-th on -/
def twr (l : List Th) (i : Nat) : Ck := tw ((l.take i).map (·.1)).reverse ((l.drop i).map keyT)
theorem twr_zero (l : List Th) : twr l 0 = tw [] (l.map keyT) := by simp [twr]
theorem twr_all (l : List Th) (i : Nat) (h : l.length ≤ i) : twr l i = none := by
  unfold twr
  rw [List.drop_eq_nil_of_le h]
  rfl
theorem twr_step (l : List Th) (i : Nat) (h : i < l.length) : twr l i = if l[i].1 ∈ (l.take i).map (·.1) then some (9, some l[i].2.1) else twr l (i + 1) := by
  unfold twr
  rw [List.drop_eq_getElem_cons h, List.map_cons, List.take_succ_eq_append_getElem h, List.map_append, List.reverse_append]
  show tw _ ((l[i].1, l[i].2.1) :: _) = _
  rw [tw]
  simp
def twP (l : List Th) (i : Nat) : Option (Nat × Nat) := if h : i < l.length then (if l[i].1 ∈ (l.take i).map (·.1) then some (9, l[i].2.1) else twP l (i + 1)) else none
  termination_by l.length - i
def up (o : Option (Nat × Nat)) : Ck := o.map fun x => (x.1, some x.2)
theorem twP_eq (l : List Th) : ∀ (n i : Nat), l.length - i ≤ n → twr l i = up (twP l i) := by
  intro n
  induction n with
  | zero => intro i h; rw [twr_all l i (by omega), twP, dif_neg (by omega)]; rfl
  | succ n ih =>
    intro i h
    rw [twP]
    by_cases hi : i < l.length
    · rw [dif_pos hi, twr_step l i hi]
      by_cases hm : l[i].1 ∈ (l.take i).map (·.1)
      · rw [if_pos hm, if_pos hm]; rfl
      · rw [if_neg hm, if_neg hm, ih (i + 1) (by omega)]
    · rw [dif_neg hi, twr_all l i (by omega)]; rfl
theorem twP_zero (l : List Th) : tw [] (l.map keyT) = up (twP l 0) := by rw [← twr_zero, twP_eq l _ 0 (Nat.le_refl _)]
/- what a name stands for, by maps -/
def standV (fo : Bs → Option (List Sy)) (near : List (Bs → Option (Nat × Int))) (md nm : Bs) : Except Nat (Nat × Int) :=
  if md ≠ [] then
    match fo md with
    | none => .error 5
    | some l => match findS l nm with
      | some s => .ok s.2
      | none => .error 7
  else match near.findSome? (fun f => f nm) with
    | some x => .ok x
    | none => .error 7
def others (m : M) (seen : Seen) : Bs → Option (List Sy) := fun k => if k ∈ m.imports then seen k else none
theorem lkT_own (p : Pr) (n : Bs) : lkT (ownT p) n = if n ∈ ownOf p then some (0, -1) else none := by
  unfold lkT ownT
  rw [List.find?_map, Option.map_map]
  by_cases h : n ∈ ownOf p
  · rw [if_pos h]
    have : ((ownOf p).find? ((fun x : Th => x.1 == n) ∘ fun k => (k, p.pos, 0, -1))).isSome = true := by
      rw [List.find?_isSome]
      exact ⟨n, h, by simp⟩
    obtain ⟨x, hx⟩ := Option.isSome_iff_exists.1 this
    rw [hx]; rfl
  · rw [if_neg h]
    have : (ownOf p).find? ((fun x : Th => x.1 == n) ∘ fun k => (k, p.pos, 0, -1)) = none := by
      rw [List.find?_eq_none]
      intro x hx
      have : x ≠ n := fun e => h (e ▸ hx)
      simpa using this
    rw [this]; rfl
theorem lkT_things (m : M) (n : Bs) : lkT (things m) n = match m.vars.find? (fun g => g.name == n) with
    | some g => some (g.len, -1)
    | none => match m.procs.find? (fun p => p.name == n) with
      | some p => some (0, (p.params.length : Int))
      | none => none := by
  unfold lkT things
  rw [List.find?_append, List.find?_map, List.find?_map]
  have e1 : ((fun x : Th => x.1 == n) ∘ thG) = fun g => g.name == n := rfl
  have e2 : ((fun x : Th => x.1 == n) ∘ thP) = fun g => g.name == n := rfl
  rw [e1, e2]
  cases m.vars.find? (fun g => g.name == n) with
  | some g => rfl
  | none => cases m.procs.find? (fun p => p.name == n) <;> rfl
theorem stand_near {m : M} {seen : Seen} (h : imps m.name seen [] m.imports = none) {own : List Bs} {near : List (Bs → Option (Nat × Int))}
    (hn : ∀ n, near.findSome? (fun f => f n) = if n ∈ own then some (0, -1) else lkT (things m) n) (md nm : Bs) : stand m own seen md nm = standV (others m seen) near md nm := by
  unfold stand standV others
  rw [imps_none] at h
  by_cases h1 : md ≠ []
  · rw [if_pos h1, if_pos h1]
    by_cases h2 : md ∈ m.imports
    · rw [if_pos h2, if_pos h2]
      obtain ⟨l, hl⟩ := Option.ne_none_iff_exists'.1 (h.1 md h2).2.2
      rw [hl]
      rfl
    · rw [if_neg h2, if_neg h2]
  · rw [if_neg h1, if_neg h1, hn]
    by_cases h2 : nm ∈ own
    · rw [if_pos h2, if_pos h2]
    · rw [if_neg h2, if_neg h2, lkT_things]
      cases m.vars.find? (fun g => g.name == nm) with
      | some g => rfl
      | none => cases m.procs.find? (fun p => p.name == nm) <;> rfl
def judgeP (st : Bs → Bs → Except Nat (Nat × Int)) (r : R) : Option (Nat × Nat) :=
  match st r.mod r.name with
  | .error e => some (e, r.pos)
  | .ok s => if kindOf s ≠ r.code then some (1, r.pos) else if r.code = 6 ∧ (r.args : Int) ≠ s.2 then some (2, r.pos) else none
theorem judge_up (m : M) (own : List Bs) (seen : Seen) (r : R) : judge m own seen r = up (judgeP (stand m own seen) r) := by
  unfold judge judgeP
  cases stand m own seen r.mod r.name with
  | error e => rfl
  | ok s =>
    simp only
    by_cases h1 : kindOf s ≠ r.code
    · rw [if_pos h1, if_pos h1]; rfl
    · rw [if_neg h1, if_neg h1]
      by_cases h2 : r.code = 6 ∧ (r.args : Int) ≠ s.2
      · rw [if_pos h2, if_pos h2]; rfl
      · rw [if_neg h2, if_neg h2]; rfl
theorem find_up {α : Type} (f : α → Option (Nat × Nat)) (l : List α) : l.findSome? (fun x => up (f x)) = up (l.findSome? f) := by
  induction l with
  | nil => rfl
  | cons a t ih =>
    rw [List.findSome?_cons, List.findSome?_cons]
    cases f a with
    | none => exact ih
    | some b => rfl
theorem up_or (a b : Option (Nat × Nat)) : (up a).or (up b) = up (a.or b) := by cases a <;> rfl
/- a procedure's part, by maps -/
def checkPP (m : M) (seen : Seen) (p : Pr) : Option (Nat × Nat) :=
  (twP (ownT p) 0).or ((rs p.body).findSome? (judgeP (standV (others m seen) [lkT (ownT p), lkT (things m)])))
theorem checkP_eq {m : M} {seen : Seen} (h : imps m.name seen [] m.imports = none) (p : Pr) : checkP m seen p = up (checkPP m seen p) := by
  unfold checkP checkPP
  have e1 : (ownOf p).map (fun n => (n, p.pos)) = (ownT p).map keyT := by simp [ownT, keyT]
  have e2 : (rs p.body).findSome? (judge m (ownOf p) seen) = up ((rs p.body).findSome? (judgeP (standV (others m seen) [lkT (ownT p), lkT (things m)]))) := by
    rw [← find_up]
    congr 1
    funext r
    rw [judge_up]
    have : stand m (ownOf p) seen = standV (others m seen) [lkT (ownT p), lkT (things m)] := by
      funext md nm
      refine stand_near h (fun n => ?_) md nm
      rw [List.findSome?_cons, lkT_own]
      by_cases hn : n ∈ ownOf p
      · rw [if_pos hn, if_pos hn]
      · rw [if_neg hn, if_neg hn, List.findSome?_cons]
        cases lkT (things m) n <;> rfl
    rw [this]
  rw [e1, twP_zero, e2, up_or]
def checkV (m : M) (seen : Seen) : Option (Nat × Nat) :=
  (twP (things m) 0).or ((m.procs.findSome? (checkPP m seen)).or ((rs m.body).findSome? (judgeP (standV (others m seen) [lkT (things m)]))))
theorem check_eq (m : M) (seen : Seen) : check m seen = (imps m.name seen [] m.imports).or (up (checkV m seen)) := by
  unfold check
  cases h : imps m.name seen [] m.imports with
  | some e => rfl
  | none =>
    show _ = up (checkV m seen)
    unfold checkV
    have e1 : m.vars.map (fun g => (g.name, g.pos)) ++ m.procs.map (fun p => (p.name, p.pos)) = (things m).map keyT := by simp [things, keyT, thG, thP, Function.comp_def]
    have e2 : m.procs.findSome? (checkP m seen) = up (m.procs.findSome? (checkPP m seen)) := by
      rw [← find_up]
      congr 1
      funext p
      exact checkP_eq h p
    have e3 : (rs m.body).findSome? (judge m [] seen) = up ((rs m.body).findSome? (judgeP (standV (others m seen) [lkT (things m)]))) := by
      rw [← find_up]
      congr 1
      funext r
      rw [judge_up]
      have : stand m [] seen = standV (others m seen) [lkT (things m)] := by
        funext md nm
        refine stand_near h (fun n => ?_) md nm
        rw [List.findSome?_cons, if_neg (by simp)]
        cases lkT (things m) n <;> rfl
      rw [this]
    rw [e1, twP_zero, e2, e3, up_or, up_or]
    rfl
end Tp
/- How long names are in a module that was read. No program stands in it. -/
namespace Tp
def Sr (l : List R) : Prop := ∀ r ∈ l, r.mod.length ≤ 1000000 ∧ r.name.length ≤ 1000000
theorem Sr.app {l m : List R} (h : Sr l) (k : Sr m) : Sr (l ++ m) := fun r hr => by
  rcases List.mem_append.1 hr with q | q
  · exact h r q
  · exact k r q
theorem Sr.nil : Sr [] := fun r hr => by cases hr
theorem okn_lenM {n : Bs} (h : okn n) : n.length ≤ 1000000 := by have := h.2.2; omega
theorem okr_len {m n : Bs} (h : okr m n) : m.length ≤ 1000000 ∧ n.length ≤ 1000000 := by
  refine ⟨?_, okn_lenM h.2⟩
  rcases h.1 with q | q
  · rw [q]; simp
  · exact okn_lenM q
theorem wx_small : ∀ (n : Nat) (l : List X), SizeOf.sizeOf l ≤ n → WX l → Sr (rx l) := by
  intro n
  induction n with
  | zero => intro l hl; cases l <;> simp at hl <;> omega
  | succ n ih =>
    intro l hl h
    cases l with
    | nil => rw [rx]; exact Sr.nil
    | cons x xs =>
      obtain ⟨code, pos, nn, m, nm, op, le, ri, ar⟩ := x
      rw [WX] at h
      simp at hl
      obtain ⟨h1, h2⟩ := h
      have hxs := ih xs (by omega) h2
      have key : Sr (if code = 2 ∨ code = 3 ∨ code = 6 then [⟨code, pos, m, nm, ar.length⟩] else []) ∧ Sr (rx le) ∧ Sr (rx ri) ∧ Sr (rx ar) := by
        have one : okr m nm → Sr (if code = 2 ∨ code = 3 ∨ code = 6 then [⟨code, pos, m, nm, ar.length⟩] else []) := by
          intro hk r hr
          split at hr
          · rw [List.mem_singleton.1 hr]; exact okr_len hk
          · cases hr
        have non : ¬ (code = 2 ∨ code = 3 ∨ code = 6) → Sr (if code = 2 ∨ code = 3 ∨ code = 6 then [⟨code, pos, m, nm, ar.length⟩] else []) := by
          intro hk
          rw [if_neg hk]; exact Sr.nil
        have nil : Sr (rx []) := by rw [rx]; exact Sr.nil
        rcases h1 with ⟨c, _, _, _, _, h5, h6, h7⟩ | ⟨c, _, h3, _, h5, h6, h7⟩ | ⟨c, _, h3, _, h5, _, h6, h7⟩ | ⟨c, _, _, _, _, h5, _, h6, h7⟩ | ⟨c, _, _, _, _, h5, _, h6, _, h7⟩ | ⟨c, _, h3, _, h5, h6, h7⟩
        · exact ⟨non (by omega), by rw [h5]; exact nil, by rw [h6]; exact nil, by rw [h7]; exact nil⟩
        · exact ⟨one h3, by rw [h5]; exact nil, by rw [h6]; exact nil, by rw [h7]; exact nil⟩
        · exact ⟨one h3, ih _ (by omega) h5, by rw [h6]; exact nil, by rw [h7]; exact nil⟩
        · exact ⟨non (by omega), ih _ (by omega) h5, by rw [h6]; exact nil, by rw [h7]; exact nil⟩
        · exact ⟨non (by omega), ih _ (by omega) h5, ih _ (by omega) h6, by rw [h7]; exact nil⟩
        · exact ⟨one h3, by rw [h5]; exact nil, by rw [h6]; exact nil, ih _ (by omega) h7⟩
      rw [rx]
      exact (((key.1.app key.2.1).app key.2.2.1).app key.2.2.2).app hxs
theorem ws_small : ∀ (n : Nat) (l : List S), SizeOf.sizeOf l ≤ n → WS l → Sr (rs l) := by
  intro n
  induction n with
  | zero => intro l hl; cases l <;> simp at hl <;> omega
  | succ n ih =>
    intro l hl h
    cases l with
    | nil => rw [rs]; exact Sr.nil
    | cons x xs =>
      obtain ⟨code, pos, nm, ix, vl, th, el⟩ := x
      rw [WS] at h
      simp at hl
      obtain ⟨h1, h2⟩ := h
      have hxs := ih xs (by omega) h2
      have nx : Sr (rx []) := by rw [rx]; exact Sr.nil
      have ns : Sr (rs []) := by rw [rs]; exact Sr.nil
      have wv : ev vl → Sr (rx vl) := fun q => wx_small _ _ (Nat.le_refl _) q.1
      have non : code ≠ 1 → Sr (if code = 1 then [⟨if ix.isEmpty then 2 else 3, pos, [], nm, 0⟩] else []) := by
        intro hk
        rw [if_neg hk]; exact Sr.nil
      have key : Sr (if code = 1 then [⟨if ix.isEmpty then 2 else 3, pos, [], nm, 0⟩] else []) ∧ Sr (rx ix) ∧ Sr (rx vl) ∧ Sr (rs th) ∧ Sr (rs el) := by
        rcases h1 with ⟨c, h3, h4, h5, h6, h7⟩ | ⟨c, _, h4, h5, h6, h7⟩ | ⟨c, _, h4, h5, h6, h7⟩ | ⟨c, _, h4, h5, h6, h7⟩ | ⟨c, _, h4, h5, _, h6, h7⟩
        · refine ⟨?_, ?_, wv h5, by rw [h6]; exact ns, by rw [h7]; exact ns⟩
          · intro r hr
            rw [if_pos c] at hr
            rw [List.mem_singleton.1 hr]
            exact ⟨by simp, okn_lenM h3⟩
          · rcases h4 with q | q
            · rw [q]; exact nx
            · exact wx_small _ _ (Nat.le_refl _) q.1
        · exact ⟨non (by omega), by rw [h4]; exact nx, wv h5, ih _ (by omega) h6, ih _ (by omega) h7⟩
        · exact ⟨non (by omega), by rw [h4]; exact nx, wv h5, ih _ (by omega) h6, by rw [h7]; exact ns⟩
        · exact ⟨non (by omega), by rw [h4]; exact nx, wv h5, by rw [h6]; exact ns, by rw [h7]; exact ns⟩
        · exact ⟨non (by omega), by rw [h4]; exact nx, wv h5, by rw [h6]; exact ns, by rw [h7]; exact ns⟩
      rw [rs]
      exact ((((key.1.app key.2.1).app key.2.2.1).app key.2.2.2.1).app key.2.2.2.2).app hxs
structure Sml (m : M) : Prop where
  ic : m.imports.length ≤ 1000
  im : ∀ n ∈ m.imports, n.length ≤ 1000000
  gc : m.vars.length ≤ 1000
  g : ∀ g ∈ m.vars, g.name.length ≤ 1000000
  pc : m.procs.length ≤ 1000
  p : ∀ p ∈ m.procs, p.name.length ≤ 1000000 ∧ p.params.length ≤ 1000 ∧ p.vars.length ≤ 1000 ∧ (∀ n ∈ p.params, n.length ≤ 1000000) ∧ (∀ n ∈ p.vars, n.length ≤ 1000000) ∧ Sr (rs p.body)
  b : Sr (rs m.body)
theorem WM.sml {m : M} (h : WM m) : Sml m := by
  refine ⟨by have := h.ic; omega, fun n hn => okn_lenM (h.i n hn), by have := h.gc; omega, fun g hg => okn_lenM (h.g g hg).n, by have := h.pc; omega, fun p hp => ?_, ws_small _ _ (Nat.le_refl _) h.b⟩
  have q := h.p p hp
  have := q.c
  exact ⟨okn_lenM q.n, by omega, by omega, fun n hn => okn_lenM (q.ps n hn), fun n hn => okn_lenM (q.vs n hn), ws_small _ _ (Nat.le_refl _) q.b⟩
theorem find_idx {α β : Type} (f : α → Option β) : ∀ (l : List α), l.findSome? f = (List.range l.length).findSome? fun i => (l[i]?).bind f := by
  intro l
  induction l with
  | nil => rfl
  | cons x l ih =>
    rw [List.findSome?_cons, List.length_cons, List.range_succ_eq_map, List.findSome?_cons, List.findSome?_map, ih]
    have e2 : ((fun i => ((x :: l)[i]?).bind f) ∘ Nat.succ) = fun i => (l[i]?).bind f := by
      funext i
      simp
    rw [e2]
    simp
end Tp
