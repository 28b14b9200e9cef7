import Derived.Test.YtiolfelekiopdaaGreatDoorKPB
import Derived.KernelRfl
/- The plain functions of chapter 2: what others see of a module, how that is written. -/
namespace Tp
abbrev Sy := Bs × Nat × Int
def wArr : Bs := [97, 114, 114, 97, 121]
def wordsL (first : Bs) (ss : List Bs) : Bs := first ++ (ss.map fun s => (32 : UInt8) :: s).flatten ++ [10]
def lineOf (s : Sy) : Bs := if 0 ≤ s.2.2 then wordsL wProc [s.1, dec s.2.2.toNat] else if 0 < s.2.1 then wordsL wArr [s.1, dec s.2.1] else wordsL wInt [s.1]
def printS (l : List Sy) : Bs := (l.map lineOf).flatten
def syG (g : G) : Sy := (g.name, g.len, -1)
def syP (p : Pr) : Sy := (p.name, 0, (p.params.length : Int))
def symsOf (m : M) : List Sy := (m.vars.filter (·.seen)).map syG ++ (m.procs.filter (·.seen)).map syP
def findS (l : List Sy) (n : Bs) : Option Sy := l.find? fun s => s.1 == n
def needS (l : List Sy) (n : Bs) : Bs := match findS l n with
  | some s => lineOf s
  | none => wordsL [110, 111, 110, 101] [n]
def needsS (l : List Sy) (ns : List Bs) : Bs := (ns.map (needS l)).flatten
theorem findS_cons {l : List Sy} {s : Sy} {n : Bs} (h : s.1 ≠ n) : findS (s :: l) n = findS l n := by
  unfold findS
  rw [List.find?_cons]
  have : (s.1 == n) = false := by simpa using h
  rw [this]
theorem findS_last {l : List Sy} {s : Sy} {n : Bs} (h : s.1 ≠ n) : findS (l ++ [s]) n = findS l n := by
  unfold findS
  rw [List.find?_append]
  have : List.find? (fun x : Sy => x.1 == n) [s] = none := by
    rw [List.find?_cons]
    have : (s.1 == n) = false := by simpa using h
    rw [this]; rfl
  rw [this]
  simp
theorem needs_cons {l : List Sy} {s : Sy} {ns : List Bs} (h : s.1 ∉ ns) : needsS (s :: l) ns = needsS l ns := by
  unfold needsS
  congr 1
  apply List.map_congr_left
  intro n hn
  unfold needS
  rw [findS_cons (fun e => h (e ▸ hn))]
theorem needs_last {l : List Sy} {s : Sy} {ns : List Bs} (h : s.1 ∉ ns) : needsS (l ++ [s]) ns = needsS l ns := by
  unfold needsS
  congr 1
  apply List.map_congr_left
  intro n hn
  unfold needS
  rw [findS_last (fun e => h (e ▸ hn))]
end Tp
/- The plain functions of chapter 3: what is found of a module, by what others there are. What the statements of chapter 3 say, on plain modules. No program stands in it. -/
namespace Tp
/- what names something, from the left: its code (2 a Var, 3 an Item, 6 an Apply), where, its module, its name, how many Args -/
structure R where
  code : Nat
  pos : Nat
  mod : Bs
  name : Bs
  args : Nat
def rx : List X → List R
  | [] => []
  | ⟨code, pos, _, m, nm, _, le, ri, ar⟩ :: xs =>
    (if code = 2 ∨ code = 3 ∨ code = 6 then [⟨code, pos, m, nm, ar.length⟩] else []) ++ rx le ++ rx ri ++ rx ar ++ rx xs
def rs : List S → List R
  | [] => []
  | ⟨code, pos, nm, ix, vl, th, el⟩ :: ss =>
    (if code = 1 then [⟨if ix.isEmpty then 2 else 3, pos, [], nm, 0⟩] else []) ++ rx ix ++ rx vl ++ rs th ++ rs el ++ rs ss
def allR (m : M) : List R := (m.procs.map fun p => rs p.body).flatten ++ rs m.body
def usedR (m : M) (of : Bs) : List Bs := ((allR m).filter fun r => !(of == []) && r.mod == of).map (·.name)
abbrev Seen := Bs → Option (List Sy)
abbrev Ck := Option (Nat × Option Nat)
/- what a name stands for: (Len, Args), or what is wrong -/
def stand (m : M) (own : List Bs) (seen : Seen) (md nm : Bs) : Except Nat (Nat × Int) :=
  if md ≠ [] then
    if md ∈ m.imports then
      match findS ((seen md).getD []) nm with
      | some s => .ok s.2
      | none => .error 7
    else .error 5
  else if nm ∈ own then .ok (0, -1)
  else match m.vars.find? fun g => g.name == nm with
    | some g => .ok (g.len, -1)
    | none => match m.procs.find? fun p => p.name == nm with
      | some p => .ok (0, (p.params.length : Int))
      | none => .error 7
def kindOf (s : Nat × Int) : Nat := if 0 ≤ s.2 then 6 else if 0 < s.1 then 3 else 2
def judge (m : M) (own : List Bs) (seen : Seen) (r : R) : Ck :=
  match stand m own seen r.mod r.name with
  | .error e => some (e, some r.pos)
  | .ok s => if kindOf s ≠ r.code then some (1, some r.pos)
    else if r.code = 6 ∧ (r.args : Int) ≠ s.2 then some (2, some r.pos) else none
def imps (own : Bs) (seen : Seen) : List Bs → List Bs → Ck
  | _, [] => none
  | ah, n :: t => if n = own ∨ n ∈ ah then some (10, none) else if seen n = none then some (8, none) else imps own seen (n :: ah) t
def tw : List Bs → List (Bs × Nat) → Ck
  | _, [] => none
  | ah, (n, p) :: t => if n ∈ ah then some (9, some p) else tw (n :: ah) t
def ownOf (p : Pr) : List Bs := p.params ++ p.vars
def checkP (m : M) (seen : Seen) (p : Pr) : Ck :=
  (tw [] ((ownOf p).map fun n => (n, p.pos))).or ((rs p.body).findSome? (judge m (ownOf p) seen))
def check (m : M) (seen : Seen) : Ck :=
  (imps m.name seen [] m.imports).or <|
  (tw [] (m.vars.map (fun g => (g.name, g.pos)) ++ m.procs.map (fun p => (p.name, p.pos)))).or <|
  (m.procs.findSome? (checkP m seen)).or ((rs m.body).findSome? (judge m [] seen))

theorem imps_none {own : Bs} {seen : Seen} : ∀ {l ah : List Bs}, imps own seen ah l = none ↔ (∀ n ∈ l, n ≠ own ∧ n ∉ ah ∧ seen n ≠ none) ∧ l.Nodup := by
  intro l
  induction l with
  | nil => intro ah; simp [imps]
  | cons n t ih =>
    intro ah
    unfold imps
    by_cases h1 : n = own ∨ n ∈ ah
    · rw [if_pos h1]
      refine ⟨fun h => by simp at h, fun h => ?_⟩
      have := h.1 n (by simp)
      rcases h1 with e | e
      · exact absurd e this.1
      · exact absurd e this.2.1
    · rw [if_neg h1]
      by_cases h2 : seen n = none
      · rw [if_pos h2]
        refine ⟨fun h => by simp at h, fun h => ?_⟩
        exact absurd h2 (h.1 n (by simp)).2.2
      · rw [if_neg h2, ih, List.nodup_cons]
        have h1a : n ≠ own := fun e => h1 (.inl e)
        have h1b : n ∉ ah := fun e => h1 (.inr e)
        constructor
        · rintro ⟨a, b⟩
          refine ⟨?_, ?_, b⟩
          · intro k hk
            rcases List.mem_cons.1 hk with e | e
            · subst e; exact ⟨h1a, h1b, h2⟩
            · have := a k e
              exact ⟨this.1, fun q => this.2.1 (List.mem_cons_of_mem _ q), this.2.2⟩
          · intro hk
            exact (a n hk).2.1 (by simp)
        · rintro ⟨a, b, c⟩
          refine ⟨?_, c⟩
          intro k hk
          have := a k (List.mem_cons_of_mem _ hk)
          refine ⟨this.1, ?_, this.2.2⟩
          intro q
          rcases List.mem_cons.1 q with e | e
          · subst e; exact b hk
          · exact this.2.1 e
theorem tw_none : ∀ {l : List (Bs × Nat)} {ah : List Bs}, tw ah l = none ↔ (∀ n ∈ l.map (·.1), n ∉ ah) ∧ (l.map (·.1)).Nodup := by
  intro l
  induction l with
  | nil => intro ah; simp [tw]
  | cons x t ih =>
    obtain ⟨n, p⟩ := x
    intro ah
    unfold tw
    by_cases h1 : n ∈ ah
    · rw [if_pos h1]
      refine ⟨fun h => by simp at h, fun h => ?_⟩
      exact absurd h1 (h.1 n (by simp))
    · rw [if_neg h1, ih, List.map_cons, List.nodup_cons]
      constructor
      · rintro ⟨a, b⟩
        refine ⟨?_, ?_, b⟩
        · intro k hk
          rcases List.mem_cons.1 hk with e | e
          · subst e; exact h1
          · exact fun q => a k e (List.mem_cons_of_mem _ q)
        · intro hk
          exact a n hk (by simp)
      · rintro ⟨a, b, c⟩
        refine ⟨?_, c⟩
        intro k hk q
        rcases List.mem_cons.1 q with e | e
        · subst e; exact b hk
        · exact a k (List.mem_cons_of_mem _ hk) e
def Fine (m : M) (seen : Seen) : Prop :=
  ((∀ n ∈ m.imports, n ≠ m.name ∧ seen n ≠ none) ∧ m.imports.Nodup) ∧
  (m.vars.map (·.name) ++ m.procs.map (·.name)).Nodup ∧
  (∀ p ∈ m.procs, (ownOf p).Nodup ∧ ∀ r ∈ rs p.body, judge m (ownOf p) seen r = none) ∧
  ∀ r ∈ rs m.body, judge m [] seen r = none
theorem check_none {m : M} {seen : Seen} : check m seen = none ↔ Fine m seen := by
  unfold check Fine
  rw [Option.or_eq_none_iff, Option.or_eq_none_iff, Option.or_eq_none_iff, imps_none, tw_none, List.findSome?_eq_none_iff, List.findSome?_eq_none_iff]
  have e1 : (m.vars.map (fun g => (g.name, g.pos)) ++ m.procs.map (fun p => (p.name, p.pos))).map (·.1) = m.vars.map (·.name) ++ m.procs.map (·.name) := by simp [Function.comp_def]
  rw [e1]
  have e2 : ∀ p : Pr, checkP m seen p = none ↔ (ownOf p).Nodup ∧ ∀ r ∈ rs p.body, judge m (ownOf p) seen r = none := by
    intro p
    unfold checkP
    rw [Option.or_eq_none_iff, tw_none, List.findSome?_eq_none_iff]
    have : ((ownOf p).map fun n => (n, p.pos)).map (·.1) = ownOf p := by simp [Function.comp_def]
    rw [this]
    simp
  simp only [e2]
  simp

/- keys that are all different -/
theorem find_key {α : Type} {key : α → Bs} {k : Bs} : ∀ {l : List α}, (l.map key).Nodup → ∀ x, l.find? (fun a => key a == k) = some x ↔ x ∈ l ∧ key x = k := by
  intro l
  induction l with
  | nil => intro _ x; simp
  | cons a t ih =>
    intro h x
    rw [List.map_cons, List.nodup_cons] at h
    rw [List.find?_cons]
    by_cases e : key a = k
    · have : (key a == k) = true := by simpa using e
      rw [this]
      constructor
      · intro q
        simp only [Option.some.injEq] at q
        subst q
        exact ⟨by simp, e⟩
      · rintro ⟨q, w⟩
        rcases List.mem_cons.1 q with z | z
        · subst z; rfl
        · exact absurd (List.mem_map.2 ⟨x, z, w.trans e.symm⟩) h.1
    · have : (key a == k) = false := by simpa using e
      rw [this]
      simp only
      rw [ih h.2]
      constructor
      · rintro ⟨q, w⟩; exact ⟨List.mem_cons_of_mem _ q, w⟩
      · rintro ⟨q, w⟩
        rcases List.mem_cons.1 q with z | z
        · subst z; exact absurd w e
        · exact ⟨z, w⟩
theorem find_turn {α : Type} {key : α → Bs} {k : Bs} {l : List α} (h : (l.map key).Nodup) : l.reverse.find? (fun a => key a == k) = l.find? (fun a => key a == k) := by
  have h' : (l.reverse.map key).Nodup := by
    rw [List.map_reverse]
    exact (List.reverse_perm _).nodup_iff.2 h
  apply Option.ext
  intro x
  rw [find_key h', find_key h]
  simp

/- PROCEDURES STAND IN ANY ORDER -/
def turned (m : M) : M := { m with procs := m.procs.reverse, vars := m.vars.reverse }
theorem stand_turned {m : M} {seen : Seen} (h : Fine m seen) (own : List Bs) (md nm : Bs) : stand (turned m) own seen md nm = stand m own seen md nm := by
  have h1 := h.2.1
  rw [List.nodup_append] at h1
  unfold stand turned
  simp only
  rw [find_turn (key := G.name) h1.1, find_turn (key := Pr.name) h1.2.1]
theorem judge_turned {m : M} {seen : Seen} (h : Fine m seen) (own : List Bs) (r : R) : judge (turned m) own seen r = judge m own seen r := by
  unfold judge
  rw [stand_turned h]
theorem check_turned {m : M} {seen : Seen} (h : check m seen = none) : check (turned m) seen = none := by
  rw [check_none] at h ⊢
  refine ⟨h.1, ?_, ?_, ?_⟩
  · have e : ((turned m).vars.map (·.name) ++ (turned m).procs.map (·.name)) = (m.vars.map (·.name)).reverse ++ (m.procs.map (·.name)).reverse := by
      simp [turned]
    rw [e]
    exact (((List.reverse_perm _).append (List.reverse_perm _)).nodup_iff).2 h.2.1
  · intro p hp
    have hp' : p ∈ m.procs := by simpa [turned] using hp
    refine ⟨(h.2.2.1 p hp').1, fun r hr => ?_⟩
    rw [judge_turned h]
    exact (h.2.2.1 p hp').2 r hr
  · intro r hr
    rw [judge_turned h]
    exact h.2.2.2 r hr

/- what others see, told otherwise: who is judged well is judged well where what it uses is the same -/
theorem judge_same {m : M} {own : List Bs} {a b : Seen} {r : R}
    (h : r.mod ≠ [] → r.mod ∈ m.imports → findS ((a r.mod).getD []) r.name = findS ((b r.mod).getD []) r.name) : judge m own a r = judge m own b r := by
  unfold judge stand
  by_cases h1 : r.mod ≠ []
  · by_cases h2 : r.mod ∈ m.imports
    · rw [if_pos h1, if_pos h1, if_pos h2, if_pos h2, h h1 h2]
    · rw [if_pos h1, if_pos h1, if_neg h2, if_neg h2]
  · rw [if_neg h1, if_neg h1]
theorem fine_same {m : M} {a b : Seen} (h : Fine m a) (hi : ∀ n ∈ m.imports, b n ≠ none)
    (hs : ∀ r ∈ allR m, r.mod ≠ [] → r.mod ∈ m.imports → findS ((a r.mod).getD []) r.name = findS ((b r.mod).getD []) r.name) : Fine m b := by
  refine ⟨⟨fun n hn => ⟨(h.1.1 n hn).1, hi n hn⟩, h.1.2⟩, h.2.1, ?_, ?_⟩
  · intro p hp
    refine ⟨(h.2.2.1 p hp).1, fun r hr => ?_⟩
    rw [← judge_same (a := a) (hs r ?_)]
    · exact (h.2.2.1 p hp).2 r hr
    · unfold allR
      rw [List.mem_append]
      exact .inl (List.mem_flatten.2 ⟨rs p.body, List.mem_map.2 ⟨p, hp, rfl⟩, hr⟩)
  · intro r hr
    rw [← judge_same (a := a) (hs r ?_)]
    · exact h.2.2.2 r hr
    · unfold allR
      rw [List.mem_append]
      exact .inr hr
theorem check_more {m : M} {seen b : Seen} (h : check m seen = none) (hb : ∀ k, seen k ≠ none → b k = seen k) : check m b = none := by
  rw [check_none] at h ⊢
  have hi : ∀ n ∈ m.imports, b n = seen n := fun n hn => hb n (h.1.1 n hn).2
  refine fine_same h (fun n hn => by rw [hi n hn]; exact (h.1.1 n hn).2) ?_
  intro r _ _ h2
  rw [hi _ h2]

/- WHAT IS USED IS ASKED FOR -/
theorem findS_filter {l : List Sy} {f : Sy → Bool} {n : Bs} (h : ∀ s ∈ l, s.1 = n → f s = true) : findS (l.filter f) n = findS l n := by
  unfold findS
  induction l with
  | nil => rfl
  | cons a t ih =>
    have ih' := ih (fun s hs => h s (List.mem_cons_of_mem _ hs))
    by_cases e : a.1 = n
    · rw [List.filter_cons_of_pos (h a (by simp) e), List.find?_cons, List.find?_cons]
      have : (a.1 == n) = true := by simpa using e
      rw [this]
    · have q : (a.1 == n) = false := by simpa using e
      rw [List.find?_cons (a := a) (as := t), q]
      by_cases w : f a = true
      · rw [List.filter_cons_of_pos w, List.find?_cons, q]
        exact ih'
      · rw [List.filter_cons_of_neg w]
        exact ih'
theorem usedR_mem {m : M} {of n : Bs} : n ∈ usedR m of ↔ of ≠ [] ∧ ∃ r ∈ allR m, r.mod = of ∧ r.name = n := by
  unfold usedR
  rw [List.mem_map]
  constructor
  · rintro ⟨r, hr, e⟩
    rw [List.mem_filter] at hr
    have := hr.2
    simp at this
    exact ⟨this.1, r, hr.1, this.2, e⟩
  · rintro ⟨h0, r, hr, e1, e2⟩
    refine ⟨r, ?_, e2⟩
    rw [List.mem_filter]
    refine ⟨hr, ?_⟩
    simp [h0, e1]
theorem check_less {m : M} {seen less : Seen} (h : check m seen = none)
    (hl : ∀ n ∈ m.imports, ∃ f : Sy → Bool, less n = some (((seen n).getD []).filter f) ∧ ∀ s, s.1 ∈ usedR m n → f s = true) : check m less = none := by
  rw [check_none] at h ⊢
  refine fine_same h (fun n hn => ?_) ?_
  · obtain ⟨f, e, _⟩ := hl n hn
    rw [e]; simp
  · intro r hr h1 h2
    obtain ⟨f, e, hf⟩ := hl _ h2
    rw [e, Option.getD_some, findS_filter]
    intro s _ hs
    apply hf
    rw [usedR_mem]
    exact ⟨h1, r, hr, rfl, hs.symm⟩
theorem findS_none {l : List Sy} {n : Bs} (h : ∀ s ∈ l, s.1 ≠ n) : findS l n = none := by
  unfold findS
  rw [List.find?_eq_none]
  intro s hs
  simpa using h s hs
theorem judge_gone {m : M} {own : List Bs} {seen : Seen} {r : R} (h1 : r.mod ≠ []) (h : findS ((seen r.mod).getD []) r.name = none) : judge m own seen r ≠ none := by
  unfold judge stand
  rw [if_pos h1]
  by_cases h2 : r.mod ∈ m.imports
  · rw [if_pos h2, h]; simp
  · rw [if_neg h2]; simp
theorem check_gone {m : M} {seen : Seen} {of n : Bs} (hn : n ∈ usedR m of) (h : ∀ s ∈ (seen of).getD [], s.1 ≠ n) : check m seen ≠ none := by
  intro hc
  rw [check_none] at hc
  obtain ⟨h0, r, hr, e1, e2⟩ := usedR_mem.1 hn
  have hj : ∀ own, judge m own seen r ≠ none := by
    intro own
    apply judge_gone
    · rw [e1]; exact h0
    · rw [e1, e2]; exact findS_none h
  unfold allR at hr
  rw [List.mem_append] at hr
  rcases hr with q | q
  · obtain ⟨l, hl, hr⟩ := List.mem_flatten.1 q
    obtain ⟨p, hp, e⟩ := List.mem_map.1 hl
    subst e
    exact hj _ ((hc.2.2.1 p hp).2 r hr)
  · exact hj _ (hc.2.2.2 r q)
end Tp
/- Chapter 3 as the program goes: names in maps, what was told first. No program stands in it. -/
namespace Tp
/- what is laid beside others: its name, its place, its Len, its Args -/
abbrev Th := Bs × Nat × Nat × Int
def thG (g : G) : Th := (g.name, g.pos, g.len, -1)
def thP (p : Pr) : Th := (p.name, p.pos, 0, (p.params.length : Int))
def things (m : M) : List Th := m.vars.map thG ++ m.procs.map thP
def ownT (p : Pr) : List Th := (ownOf p).map fun n => (n, p.pos, 0, -1)
def lkT (l : List Th) (k : Bs) : Option (Nat × Int) := (l.find? fun x => x.1 == k).map fun x => x.2.2
theorem lkT_snoc {l : List Th} {x : Th} (h : x.1 ∉ l.map (·.1)) (k : Bs) : lkT (l ++ [x]) k = if k = x.1 then some x.2.2 else lkT l k := by
  unfold lkT
  rw [List.find?_append]
  by_cases e : k = x.1
  · have : l.find? (fun y => y.1 == k) = none := by
      rw [List.find?_eq_none]
      intro y hy
      have hne : y.1 ≠ k := fun q => h (List.mem_map.2 ⟨y, hy, q.trans e⟩)
      simpa using hne
    rw [this, if_pos e]
    subst e
    simp
  · rw [if_neg e]
    have : [x].find? (fun y => y.1 == k) = none := by
      rw [List.find?_cons]
      have : (x.1 == k) = false := by simpa using fun q => e q.symm
      rw [this]; rfl
    rw [this]
    simp
theorem lkT_some {l : List Th} {k : Bs} : (lkT l k).isSome = true ↔ k ∈ l.map (·.1) := by
  unfold lkT
  rw [Option.isSome_map, List.find?_isSome, List.mem_map]
  constructor
  · rintro ⟨x, hx, e⟩
    exact ⟨x, hx, by simpa using e⟩
  · rintro ⟨x, hx, e⟩
    exact ⟨x, hx, by simpa using e⟩
def keyT (x : Th) : Bs × Nat := (x.1, x.2.1)
/- what is found of those from the i-th on -/
def twr (l : List Th) (i : Nat) : Ck := tw ((l.take i).map (·.1)).reverse ((l.drop i).map keyT)
theorem twr_zero (l : List Th) : twr l 0 = tw [] (l.map keyT) := by simp [twr]
theorem twr_all (l : List Th) (i : Nat) (h : l.length ≤ i) : twr l i = none := by
  unfold twr
  rw [List.drop_eq_nil_of_le h]
  rfl
theorem twr_step (l : List Th) (i : Nat) (h : i < l.length) : twr l i = if l[i].1 ∈ (l.take i).map (·.1) then some (9, some l[i].2.1) else twr l (i + 1) := by
  unfold twr
  rw [List.drop_eq_getElem_cons h, List.map_cons, List.take_succ_eq_append_getElem h, List.map_append, List.reverse_append]
  show tw _ ((l[i].1, l[i].2.1) :: _) = _
  rw [tw]
  simp
def twP (l : List Th) (i : Nat) : Option (Nat × Nat) := if h : i < l.length then (if l[i].1 ∈ (l.take i).map (·.1) then some (9, l[i].2.1) else twP l (i + 1)) else none
  termination_by l.length - i
def up (o : Option (Nat × Nat)) : Ck := o.map fun x => (x.1, some x.2)
theorem twP_eq (l : List Th) : ∀ (n i : Nat), l.length - i ≤ n → twr l i = up (twP l i) := by
  intro n
  induction n with
  | zero => intro i h; rw [twr_all l i (by omega), twP, dif_neg (by omega)]; rfl
  | succ n ih =>
    intro i h
    rw [twP]
    by_cases hi : i < l.length
    · rw [dif_pos hi, twr_step l i hi]
      by_cases hm : l[i].1 ∈ (l.take i).map (·.1)
      · rw [if_pos hm, if_pos hm]; rfl
      · rw [if_neg hm, if_neg hm, ih (i + 1) (by omega)]
    · rw [dif_neg hi, twr_all l i (by omega)]; rfl
theorem twP_zero (l : List Th) : tw [] (l.map keyT) = up (twP l 0) := by rw [← twr_zero, twP_eq l _ 0 (Nat.le_refl _)]
/- what a name stands for, by maps -/
def standV (fo : Bs → Option (List Sy)) (near : List (Bs → Option (Nat × Int))) (md nm : Bs) : Except Nat (Nat × Int) :=
  if md ≠ [] then
    match fo md with
    | none => .error 5
    | some l => match findS l nm with
      | some s => .ok s.2
      | none => .error 7
  else match near.findSome? (fun f => f nm) with
    | some x => .ok x
    | none => .error 7
def others (m : M) (seen : Seen) : Bs → Option (List Sy) := fun k => if k ∈ m.imports then seen k else none
theorem lkT_own (p : Pr) (n : Bs) : lkT (ownT p) n = if n ∈ ownOf p then some (0, -1) else none := by
  unfold lkT ownT
  rw [List.find?_map, Option.map_map]
  by_cases h : n ∈ ownOf p
  · rw [if_pos h]
    have : ((ownOf p).find? ((fun x : Th => x.1 == n) ∘ fun k => (k, p.pos, 0, -1))).isSome = true := by
      rw [List.find?_isSome]
      exact ⟨n, h, by simp⟩
    obtain ⟨x, hx⟩ := Option.isSome_iff_exists.1 this
    rw [hx]; rfl
  · rw [if_neg h]
    have : (ownOf p).find? ((fun x : Th => x.1 == n) ∘ fun k => (k, p.pos, 0, -1)) = none := by
      rw [List.find?_eq_none]
      intro x hx
      have : x ≠ n := fun e => h (e ▸ hx)
      simpa using this
    rw [this]; rfl
theorem lkT_things (m : M) (n : Bs) : lkT (things m) n = match m.vars.find? (fun g => g.name == n) with
    | some g => some (g.len, -1)
    | none => match m.procs.find? (fun p => p.name == n) with
      | some p => some (0, (p.params.length : Int))
      | none => none := by
  unfold lkT things
  rw [List.find?_append, List.find?_map, List.find?_map]
  have e1 : ((fun x : Th => x.1 == n) ∘ thG) = fun g => g.name == n := rfl
  have e2 : ((fun x : Th => x.1 == n) ∘ thP) = fun g => g.name == n := rfl
  rw [e1, e2]
  cases m.vars.find? (fun g => g.name == n) with
  | some g => rfl
  | none => cases m.procs.find? (fun p => p.name == n) <;> rfl
theorem stand_near {m : M} {seen : Seen} (h : imps m.name seen [] m.imports = none) {own : List Bs} {near : List (Bs → Option (Nat × Int))}
    (hn : ∀ n, near.findSome? (fun f => f n) = if n ∈ own then some (0, -1) else lkT (things m) n) (md nm : Bs) : stand m own seen md nm = standV (others m seen) near md nm := by
  unfold stand standV others
  rw [imps_none] at h
  by_cases h1 : md ≠ []
  · rw [if_pos h1, if_pos h1]
    by_cases h2 : md ∈ m.imports
    · rw [if_pos h2, if_pos h2]
      obtain ⟨l, hl⟩ := Option.ne_none_iff_exists'.1 (h.1 md h2).2.2
      rw [hl]
      rfl
    · rw [if_neg h2, if_neg h2]
  · rw [if_neg h1, if_neg h1, hn]
    by_cases h2 : nm ∈ own
    · rw [if_pos h2, if_pos h2]
    · rw [if_neg h2, if_neg h2, lkT_things]
      cases m.vars.find? (fun g => g.name == nm) with
      | some g => rfl
      | none => cases m.procs.find? (fun p => p.name == nm) <;> rfl
def judgeP (st : Bs → Bs → Except Nat (Nat × Int)) (r : R) : Option (Nat × Nat) :=
  match st r.mod r.name with
  | .error e => some (e, r.pos)
  | .ok s => if kindOf s ≠ r.code then some (1, r.pos) else if r.code = 6 ∧ (r.args : Int) ≠ s.2 then some (2, r.pos) else none
theorem judge_up (m : M) (own : List Bs) (seen : Seen) (r : R) : judge m own seen r = up (judgeP (stand m own seen) r) := by
  unfold judge judgeP
  cases stand m own seen r.mod r.name with
  | error e => rfl
  | ok s =>
    simp only
    by_cases h1 : kindOf s ≠ r.code
    · rw [if_pos h1, if_pos h1]; rfl
    · rw [if_neg h1, if_neg h1]
      by_cases h2 : r.code = 6 ∧ (r.args : Int) ≠ s.2
      · rw [if_pos h2, if_pos h2]; rfl
      · rw [if_neg h2, if_neg h2]; rfl
theorem find_up {α : Type} (f : α → Option (Nat × Nat)) (l : List α) : l.findSome? (fun x => up (f x)) = up (l.findSome? f) := by
  induction l with
  | nil => rfl
  | cons a t ih =>
    rw [List.findSome?_cons, List.findSome?_cons]
    cases f a with
    | none => exact ih
    | some b => rfl
theorem up_or (a b : Option (Nat × Nat)) : (up a).or (up b) = up (a.or b) := by cases a <;> rfl
/- a procedure's part, by maps -/
def checkPP (m : M) (seen : Seen) (p : Pr) : Option (Nat × Nat) :=
  (twP (ownT p) 0).or ((rs p.body).findSome? (judgeP (standV (others m seen) [lkT (ownT p), lkT (things m)])))
theorem checkP_eq {m : M} {seen : Seen} (h : imps m.name seen [] m.imports = none) (p : Pr) : checkP m seen p = up (checkPP m seen p) := by
  unfold checkP checkPP
  have e1 : (ownOf p).map (fun n => (n, p.pos)) = (ownT p).map keyT := by simp [ownT, keyT]
  have e2 : (rs p.body).findSome? (judge m (ownOf p) seen) = up ((rs p.body).findSome? (judgeP (standV (others m seen) [lkT (ownT p), lkT (things m)]))) := by
    rw [← find_up]
    congr 1
    funext r
    rw [judge_up]
    have : stand m (ownOf p) seen = standV (others m seen) [lkT (ownT p), lkT (things m)] := by
      funext md nm
      refine stand_near h (fun n => ?_) md nm
      rw [List.findSome?_cons, lkT_own]
      by_cases hn : n ∈ ownOf p
      · rw [if_pos hn, if_pos hn]
      · rw [if_neg hn, if_neg hn, List.findSome?_cons]
        cases lkT (things m) n <;> rfl
    rw [this]
  rw [e1, twP_zero, e2, up_or]
def checkV (m : M) (seen : Seen) : Option (Nat × Nat) :=
  (twP (things m) 0).or ((m.procs.findSome? (checkPP m seen)).or ((rs m.body).findSome? (judgeP (standV (others m seen) [lkT (things m)]))))
theorem check_eq (m : M) (seen : Seen) : check m seen = (imps m.name seen [] m.imports).or (up (checkV m seen)) := by
  unfold check
  cases h : imps m.name seen [] m.imports with
  | some e => rfl
  | none =>
    show _ = up (checkV m seen)
    unfold checkV
    have e1 : m.vars.map (fun g => (g.name, g.pos)) ++ m.procs.map (fun p => (p.name, p.pos)) = (things m).map keyT := by simp [things, keyT, thG, thP, Function.comp_def]
    have e2 : m.procs.findSome? (checkP m seen) = up (m.procs.findSome? (checkPP m seen)) := by
      rw [← find_up]
      congr 1
      funext p
      exact checkP_eq h p
    have e3 : (rs m.body).findSome? (judge m [] seen) = up ((rs m.body).findSome? (judgeP (standV (others m seen) [lkT (things m)]))) := by
      rw [← find_up]
      congr 1
      funext r
      rw [judge_up]
      have : stand m [] seen = standV (others m seen) [lkT (things m)] := by
        funext md nm
        refine stand_near h (fun n => ?_) md nm
        rw [List.findSome?_cons, if_neg (by simp)]
        cases lkT (things m) n <;> rfl
      rw [this]
    rw [e1, twP_zero, e2, e3, up_or, up_or]
    rfl
end Tp
/- How long names are in a module that was read. No program stands in it. -/
namespace Tp
def Sr (l : List R) : Prop := ∀ r ∈ l, r.mod.length ≤ 1000000 ∧ r.name.length ≤ 1000000
theorem Sr.app {l m : List R} (h : Sr l) (k : Sr m) : Sr (l ++ m) := fun r hr => by
  rcases List.mem_append.1 hr with q | q
  · exact h r q
  · exact k r q
theorem Sr.nil : Sr [] := fun r hr => by cases hr
theorem okn_lenM {n : Bs} (h : okn n) : n.length ≤ 1000000 := by have := h.2.2; omega
theorem okr_len {m n : Bs} (h : okr m n) : m.length ≤ 1000000 ∧ n.length ≤ 1000000 := by
  refine ⟨?_, okn_lenM h.2⟩
  rcases h.1 with q | q
  · rw [q]; simp
  · exact okn_lenM q
theorem wx_small : ∀ (n : Nat) (l : List X), SizeOf.sizeOf l ≤ n → WX l → Sr (rx l) := by
  intro n
  induction n with
  | zero => intro l hl; cases l <;> simp at hl <;> omega
  | succ n ih =>
    intro l hl h
    cases l with
    | nil => rw [rx]; exact Sr.nil
    | cons x xs =>
      obtain ⟨code, pos, nn, m, nm, op, le, ri, ar⟩ := x
      rw [WX] at h
      simp at hl
      obtain ⟨h1, h2⟩ := h
      have hxs := ih xs (by omega) h2
      have key : Sr (if code = 2 ∨ code = 3 ∨ code = 6 then [⟨code, pos, m, nm, ar.length⟩] else []) ∧ Sr (rx le) ∧ Sr (rx ri) ∧ Sr (rx ar) := by
        have one : okr m nm → Sr (if code = 2 ∨ code = 3 ∨ code = 6 then [⟨code, pos, m, nm, ar.length⟩] else []) := by
          intro hk r hr
          split at hr
          · rw [List.mem_singleton.1 hr]; exact okr_len hk
          · cases hr
        have non : ¬ (code = 2 ∨ code = 3 ∨ code = 6) → Sr (if code = 2 ∨ code = 3 ∨ code = 6 then [⟨code, pos, m, nm, ar.length⟩] else []) := by
          intro hk
          rw [if_neg hk]; exact Sr.nil
        have nil : Sr (rx []) := by rw [rx]; exact Sr.nil
        rcases h1 with ⟨c, _, _, _, _, h5, h6, h7⟩ | ⟨c, _, h3, _, h5, h6, h7⟩ | ⟨c, _, h3, _, h5, _, h6, h7⟩ | ⟨c, _, _, _, _, h5, _, h6, h7⟩ | ⟨c, _, _, _, _, h5, _, h6, _, h7⟩ | ⟨c, _, h3, _, h5, h6, h7⟩
        · exact ⟨non (by omega), by rw [h5]; exact nil, by rw [h6]; exact nil, by rw [h7]; exact nil⟩
        · exact ⟨one h3, by rw [h5]; exact nil, by rw [h6]; exact nil, by rw [h7]; exact nil⟩
        · exact ⟨one h3, ih _ (by omega) h5, by rw [h6]; exact nil, by rw [h7]; exact nil⟩
        · exact ⟨non (by omega), ih _ (by omega) h5, by rw [h6]; exact nil, by rw [h7]; exact nil⟩
        · exact ⟨non (by omega), ih _ (by omega) h5, ih _ (by omega) h6, by rw [h7]; exact nil⟩
        · exact ⟨one h3, by rw [h5]; exact nil, by rw [h6]; exact nil, ih _ (by omega) h7⟩
      rw [rx]
      exact (((key.1.app key.2.1).app key.2.2.1).app key.2.2.2).app hxs
theorem ws_small : ∀ (n : Nat) (l : List S), SizeOf.sizeOf l ≤ n → WS l → Sr (rs l) := by
  intro n
  induction n with
  | zero => intro l hl; cases l <;> simp at hl <;> omega
  | succ n ih =>
    intro l hl h
    cases l with
    | nil => rw [rs]; exact Sr.nil
    | cons x xs =>
      obtain ⟨code, pos, nm, ix, vl, th, el⟩ := x
      rw [WS] at h
      simp at hl
      obtain ⟨h1, h2⟩ := h
      have hxs := ih xs (by omega) h2
      have nx : Sr (rx []) := by rw [rx]; exact Sr.nil
      have ns : Sr (rs []) := by rw [rs]; exact Sr.nil
      have wv : ev vl → Sr (rx vl) := fun q => wx_small _ _ (Nat.le_refl _) q.1
      have non : code ≠ 1 → Sr (if code = 1 then [⟨if ix.isEmpty then 2 else 3, pos, [], nm, 0⟩] else []) := by
        intro hk
        rw [if_neg hk]; exact Sr.nil
      have key : Sr (if code = 1 then [⟨if ix.isEmpty then 2 else 3, pos, [], nm, 0⟩] else []) ∧ Sr (rx ix) ∧ Sr (rx vl) ∧ Sr (rs th) ∧ Sr (rs el) := by
        rcases h1 with ⟨c, h3, h4, h5, h6, h7⟩ | ⟨c, _, h4, h5, h6, h7⟩ | ⟨c, _, h4, h5, h6, h7⟩ | ⟨c, _, h4, h5, h6, h7⟩ | ⟨c, _, h4, h5, _, h6, h7⟩
        · refine ⟨?_, ?_, wv h5, by rw [h6]; exact ns, by rw [h7]; exact ns⟩
          · intro r hr
            rw [if_pos c] at hr
            rw [List.mem_singleton.1 hr]
            exact ⟨by simp, okn_lenM h3⟩
          · rcases h4 with q | q
            · rw [q]; exact nx
            · exact wx_small _ _ (Nat.le_refl _) q.1
        · exact ⟨non (by omega), by rw [h4]; exact nx, wv h5, ih _ (by omega) h6, ih _ (by omega) h7⟩
        · exact ⟨non (by omega), by rw [h4]; exact nx, wv h5, ih _ (by omega) h6, by rw [h7]; exact ns⟩
        · exact ⟨non (by omega), by rw [h4]; exact nx, wv h5, by rw [h6]; exact ns, by rw [h7]; exact ns⟩
        · exact ⟨non (by omega), by rw [h4]; exact nx, wv h5, by rw [h6]; exact ns, by rw [h7]; exact ns⟩
      rw [rs]
      exact ((((key.1.app key.2.1).app key.2.2.1).app key.2.2.2.1).app key.2.2.2.2).app hxs
structure Sml (m : M) : Prop where
  ic : m.imports.length ≤ 1000
  im : ∀ n ∈ m.imports, n.length ≤ 1000000
  gc : m.vars.length ≤ 1000
  g : ∀ g ∈ m.vars, g.name.length ≤ 1000000
  pc : m.procs.length ≤ 1000
  p : ∀ p ∈ m.procs, p.name.length ≤ 1000000 ∧ p.params.length ≤ 1000 ∧ p.vars.length ≤ 1000 ∧ (∀ n ∈ p.params, n.length ≤ 1000000) ∧ (∀ n ∈ p.vars, n.length ≤ 1000000) ∧ Sr (rs p.body)
  b : Sr (rs m.body)
theorem WM.sml {m : M} (h : WM m) : Sml m := by
  refine ⟨by have := h.ic; omega, fun n hn => okn_lenM (h.i n hn), by have := h.gc; omega, fun g hg => okn_lenM (h.g g hg).n, by have := h.pc; omega, fun p hp => ?_, ws_small _ _ (Nat.le_refl _) h.b⟩
  have q := h.p p hp
  have := q.c
  exact ⟨okn_lenM q.n, by omega, by omega, fun n hn => okn_lenM (q.ps n hn), fun n hn => okn_lenM (q.vs n hn), ws_small _ _ (Nat.le_refl _) q.b⟩
theorem Sml.turned {m : M} (h : Sml m) : Sml (turned m) := by
  refine ⟨h.ic, h.im, ?_, ?_, ?_, ?_, h.b⟩
  · simpa [Tp.turned] using h.gc
  · intro g hg; exact h.g g (by simpa [Tp.turned] using hg)
  · simpa [Tp.turned] using h.pc
  · intro p hp; exact h.p p (by simpa [Tp.turned] using hp)
theorem find_idx {α β : Type} (f : α → Option β) : ∀ (l : List α), l.findSome? f = (List.range l.length).findSome? fun i => (l[i]?).bind f := by
  intro l
  induction l with
  | nil => rfl
  | cons x l ih =>
    rw [List.findSome?_cons, List.length_cons, List.range_succ_eq_map, List.findSome?_cons, List.findSome?_map, ih]
    have e2 : ((fun i => ((x :: l)[i]?).bind f) ∘ Nat.succ) = fun i => (l[i]?).bind f := by
      funext i
      simp
    rw [e2]
    simp
end Tp
/- A closed text of chapter 3, and what is found of it. No program stands in it. -/
namespace Tp
def txtC : Bs := [109, 111, 100, 117, 108, 101, 32, 109, 59, 32, 105, 109, 112, 111, 114, 116, 32, 97, 59, 32, 118, 97, 114, 32, 120, 58, 32, 105, 110, 116, 59, 32, 112, 114, 111, 99, 32, 102, 40, 41, 59, 32, 98, 101, 103, 105, 110, 32, 120, 32, 58, 61, 32, 97, 46, 121, 59, 32, 101, 110, 100, 59, 32, 98, 101, 103, 105, 110, 32, 102, 40, 41, 59, 32, 101, 110, 100, 46]
def modC : M := ⟨[109], [[97]], [⟨[120], 24, 0, false⟩], [⟨[102], 32, false, [], [], [⟨1, 48, [120], [], [⟨2, 53, 0, [97], [121], [], [], [], []⟩], [], []⟩]⟩], [⟨6, 69, [], [], [⟨6, 69, 0, [], [102], [], [], [], []⟩], [], []⟩]⟩
theorem parseC : parse txtC = .ok modC := by kernel_rfl
def seenA (l : List Sy) : Seen := fun k => if k = [97] then some l else none
theorem checkC1 : check modC (seenA [([121], 0, -1)]) = none := by simp [check, imps, tw, checkP, rs, rx, judge, stand, findS, kindOf, ownOf, seenA, modC]
theorem checkC2 : check modC (seenA []) = some (7, some 53) := by simp [check, imps, tw, checkP, rs, rx, judge, stand, findS, kindOf, ownOf, seenA, modC]
theorem checkC3 : check modC (fun _ => none) = some (8, none) := by simp [check, imps, modC]
end Tp
