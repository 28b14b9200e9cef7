/- The plain functions of chapter 1: tokens, what Parse reads, what Print writes, on lists of bytes. No program stands in it. -/
namespace Tp
abbrev Bs := List UInt8
structure Tok where
  kind : Nat
  pos : Nat
  text : Bs
structure X where
  code : Nat
  pos : Nat
  n : Nat
  mod : Bs
  name : Bs
  op : Bs
  left : List X
  right : List X
  args : List X
structure S where
  code : Nat
  pos : Nat
  name : Bs
  index : List X
  value : List X
  thn : List S
  els : List S
structure G where
  name : Bs
  pos : Nat
  len : Nat
  seen : Bool
structure Pr where
  name : Bs
  pos : Nat
  seen : Bool
  params : List Bs
  vars : List Bs
  body : List S
structure M where
  name : Bs
  imports : List Bs
  vars : List G
  procs : List Pr
  body : List S
abbrev Er := Nat × Nat

/- words and marks -/
def wModule : Bs := [109, 111, 100, 117, 108, 101]
def wImport : Bs := [105, 109, 112, 111, 114, 116]
def wVar : Bs := [118, 97, 114]
def wProc : Bs := [112, 114, 111, 99]
def wBegin : Bs := [98, 101, 103, 105, 110]
def wEnd : Bs := [101, 110, 100]
def wInt : Bs := [105, 110, 116]
def wArray : Bs := [97, 114, 114, 97, 121]
def wReturn : Bs := [114, 101, 116, 117, 114, 110]
def wWrite : Bs := [119, 114, 105, 116, 101]
def wWhile : Bs := [119, 104, 105, 108, 101]
def wDo : Bs := [100, 111]
def wIf : Bs := [105, 102]
def wThen : Bs := [116, 104, 101, 110]
def wElsif : Bs := [101, 108, 115, 105, 102]
def wElse : Bs := [101, 108, 115, 101]
def wOr : Bs := [111, 114]
def wAnd : Bs := [97, 110, 100]
def wNot : Bs := [110, 111, 116]
def wDiv : Bs := [100, 105, 118]
def wMod : Bs := [109, 111, 100]
def mSet : Bs := [58, 61]
def mLe : Bs := [60, 61]
def mGe : Bs := [62, 61]
def mNe : Bs := [35]
def mEq : Bs := [61]
def mLt : Bs := [60]
def mGt : Bs := [62]
def mPlus : Bs := [43]
def mMinus : Bs := [45]
def mStar : Bs := [42]
def mLp : Bs := [40]
def mRp : Bs := [41]
def mLb : Bs := [91]
def mRb : Bs := [93]
def mComma : Bs := [44]
def mSemi : Bs := [59]
def mColon : Bs := [58]
def mDot : Bs := [46]
def kept : List Bs := [wModule, wImport, wVar, wProc, wBegin, wEnd, wInt, wArray, wReturn, wWrite, wWhile, wDo, wIf, wThen, wElsif, wElse, wOr, wAnd, wNot, wDiv, wMod]
def marks : List Bs := [mSet, mLe, mGe, mNe, mEq, mLt, mGt, mPlus, mMinus, mStar, mLp, mRp, mLb, mRb, mComma, mSemi, mColon, mDot]

/- tokens -/
def letter (c : UInt8) : Bool := decide (97 ≤ c.toNat ∧ c.toNat ≤ 122)
def digit (c : UInt8) : Bool := decide (48 ≤ c.toNat ∧ c.toNat ≤ 57)
def ld (c : UInt8) : Bool := letter c || digit c
def blank (c : UInt8) : Bool := c == 32 || c == 10
def cut : Bs → Option (Nat × Nat)
  | [] => none
  | c :: l => if letter c then some (1, ((c :: l).takeWhile ld).length)
    else if digit c then some (2, ((c :: l).takeWhile digit).length)
    else (marks.find? (fun m => m.isPrefixOf (c :: l))).map (fun m => (3, m.length))
def scan : Nat → Nat → Nat → Bs → Except Er (List Tok)
  | 0, _, _, _ => .error (99, 0)
  | f + 1, cnt, pos, l =>
    match l with
    | [] => .ok [⟨0, pos, []⟩]
    | c :: t => if blank c then scan f cnt (pos + 1) t else
      match cut (c :: t) with
      | none => .error (3, pos)
      | some (kd, n) => if cnt = 600 then .error (4, pos) else
        match scan f (cnt + 1) (pos + n) ((c :: t).drop n) with
        | .error e => .error e
        | .ok ts => .ok (⟨kd, pos, (c :: t).take n⟩ :: ts)

/- reading -/
def hd (r : List Tok) : Tok := r.headD ⟨0, 0, []⟩
def tx (r : List Tok) : Bs := (hd r).text
def at' (r : List Tok) : Nat := (hd r).pos
def stp (r : List Tok) : List Tok := if (hd r).kind = 0 then r else r.tail
def want (s : Bs) (r : List Tok) : Except Er (List Tok) := if tx r = s then .ok (stp r) else .error (3, at' r)
def name (r : List Tok) : Except Er (Bs × List Tok) :=
  if (hd r).kind ≠ 1 ∨ tx r ∈ kept then .error (3, at' r)
  else if 10 < (tx r).length then .error (4, at' r) else .ok (tx r, stp r)
def names : Nat → Nat → Nat → List Tok → Except Er ((List Bs) × List Tok)
  | 0, _, _, r => .error (99, at' r)
  | f + 1, had, most, r => if most ≤ had then .error (4, at' r) else do
    let (n, r1) ← name r
    if tx r1 = mComma then do
      let (l, r2) ← names f (had + 1) most (stp r1)
      .ok (n :: l, r2)
    else .ok ([n], r1)
def val (l : Bs) : Nat := l.foldl (fun a c => a * 10 + (c.toNat - 48)) 0
def number (most : Nat) (r : List Tok) : Except Er (Nat × List Tok) :=
  if (hd r).kind ≠ 2 then .error (3, at' r)
  else if most < val (tx r) then .error (4, at' r) else .ok (val (tx r), stp r)
def lvl (op : Bs) : Nat :=
  if op = wOr then 0 else if op = wAnd then 1
  else if op = mEq ∨ op = mNe ∨ op = mLt ∨ op = mLe ∨ op = mGt ∨ op = mGe then 2
  else if op = mPlus ∨ op = mMinus then 3
  else if op = mStar ∨ op = wDiv ∨ op = wMod then 4 else 5
def top : Nat := 9223372036854775807
/- EXPRs. Of k: 0 to 4 a level, 5 a ONE, 6 what begins with a REF, 7 arguments, 10 and more a level's loop behind acc, which began at a. -/
def ex : Nat → Nat → Nat → Nat → List X → List Tok → Except Er ((List X) × List Tok)
  | 0, _, _, _, _, _ => .error (99, 0)
  | f + 1, k, ones, a, acc, r =>
    if k < 5 then do
      let (x, r1) ← ex f (k + 1) ones 0 [] r
      ex f (10 + k) ones (at' r) x r1
    else if k = 5 then
      if 10 < ones then .error (4, at' r)
      else if (hd r).kind = 2 then do
        let (n, r1) ← number top r
        .ok ([⟨1, at' r, n, [], [], [], [], [], []⟩], r1)
      else if tx r = mMinus ∨ tx r = wNot then do
        let (x, r1) ← ex f 5 (ones + 1) 0 [] (stp r)
        .ok ([⟨4, at' r, 0, [], [], tx r, x, [], []⟩], r1)
      else if tx r = mLp then do
        let (x, r1) ← ex f 0 (ones + 1) 0 [] (stp r)
        let r2 ← want mRp r1
        .ok (x, r2)
      else ex f 6 ones 0 [] r
    else if k = 6 then do
      let (n1, r1) ← name r
      let ((m, n), r2) ← (if tx r1 = mDot then do
          let (n2, r2) ← name (stp r1)
          .ok ((n1, n2), r2)
        else .ok (([], n1), r1) : Except Er ((Bs × Bs) × List Tok))
      if tx r2 = mLb then do
        let (x, r3) ← ex f 0 (ones + 1) 0 [] (stp r2)
        let r4 ← want mRb r3
        .ok ([⟨3, at' r, 0, m, n, [], x, [], []⟩], r4)
      else if tx r2 = mLp then
        if tx (stp r2) = mRp then .ok ([⟨6, at' r, 0, m, n, [], [], [], []⟩], stp (stp r2))
        else do
          let (l, r3) ← ex f 7 ones 0 [] (stp r2)
          let r4 ← want mRp r3
          .ok ([⟨6, at' r, 0, m, n, [], [], [], l⟩], r4)
      else .ok ([⟨2, at' r, 0, m, n, [], [], [], []⟩], r2)
    else if k = 7 then do
      let (x, r1) ← ex f 0 (ones + 1) 0 [] r
      if tx r1 = mComma then do
        let (l, r2) ← ex f 7 ones 0 [] (stp r1)
        .ok (x ++ l, r2)
      else .ok (x, r1)
    else if lvl (tx r) = k - 10 then do
      let (y, r1) ← ex f (k - 10 + 1) ones 0 [] (stp r)
      ex f k ones a [⟨5, a, 0, [], [], tx r, acc, y, []⟩] r1
    else .ok (acc, r)
def codeOf (l : List X) : Nat := match l with | x :: _ => x.code | [] => 0
def modOf (l : List X) : Bs := match l with | x :: _ => x.mod | [] => []
def nameOf (l : List X) : Bs := match l with | x :: _ => x.name | [] => []
def leftOf (l : List X) : List X := match l with | x :: _ => x.left | [] => []
/- STMTs. Of k: 0 STMTs, 1 those behind, 2 a STMT, 3 from if or elsif on. -/
def sx : Nat → Nat → Nat → List Tok → Except Er ((List S) × List Tok)
  | 0, _, _, _ => .error (99, 0)
  | f + 1, k, blocks, r =>
    if k = 0 then if 10 < blocks then .error (4, at' r) else sx f 1 blocks r
    else if k = 1 then
      if tx r = wEnd ∨ tx r = wElsif ∨ tx r = wElse then .ok ([], r) else do
        let (s, r1) ← sx f 2 blocks r
        let (l, r2) ← sx f 1 blocks r1
        .ok (s ++ l, r2)
    else if k = 2 then
      if tx r = wReturn ∨ tx r = wWrite then do
        let (x, r1) ← ex f 0 0 0 [] (stp r)
        let r2 ← want mSemi r1
        .ok ([⟨if tx r = wReturn then 4 else 5, at' r, [], [], x, [], []⟩], r2)
      else if tx r = wWhile then do
        let (x, r1) ← ex f 0 0 0 [] (stp r)
        let r2 ← want wDo r1
        let (l, r3) ← sx f 0 (blocks + 1) r2
        let r4 ← want wEnd r3
        let r5 ← want mSemi r4
        .ok ([⟨3, at' r, [], [], x, l, []⟩], r5)
      else if tx r = wIf then do
        let (s, r1) ← sx f 3 blocks r
        let r2 ← want wEnd r1
        let r3 ← want mSemi r2
        .ok (s, r3)
      else do
        let (x, r1) ← ex f 6 0 0 [] r
        if codeOf x = 6 then do
          let r2 ← want mSemi r1
          .ok ([⟨6, at' r, [], [], x, [], []⟩], r2)
        else if modOf x = [] then do
          let r2 ← want mSet r1
          let (y, r3) ← ex f 0 0 0 [] r2
          let r4 ← want mSemi r3
          .ok ([⟨1, at' r, nameOf x, leftOf x, y, [], []⟩], r4)
        else .error (3, at' r1)
    else do
      let (x, r1) ← ex f 0 0 0 [] (stp r)
      let r2 ← want wThen r1
      let (l, r3) ← sx f 0 (blocks + 1) r2
      if tx r3 = wElsif then do
        let (e, r4) ← sx f 3 (blocks + 1) r3
        .ok ([⟨2, at' r, [], [], x, l, e⟩], r4)
      else if tx r3 = wElse then do
        let (e, r4) ← sx f 0 (blocks + 1) (stp r3)
        .ok ([⟨2, at' r, [], [], x, l, e⟩], r4)
      else .ok ([⟨2, at' r, [], [], x, l, []⟩], r3)
def global (r : List Tok) : Except Er (G × List Tok) := do
  let (n, r1) ← name r
  let r2 := if tx r1 = mStar then stp r1 else r1
  let r3 ← want mColon r2
  if tx r3 = wInt then do
    let r4 ← want mSemi (stp r3)
    .ok (⟨n, at' r, 0, tx r1 == mStar⟩, r4)
  else do
    let r4 ← want wArray r3
    let (k, r5) ← number 30 r4
    if k = 0 then .error (2, at' r5) else do
      let r6 ← want mSemi r5
      .ok (⟨n, at' r, k, tx r1 == mStar⟩, r6)
def globals : Nat → Nat → List Tok → Except Er ((List G) × List Tok)
  | 0, _, r => .error (99, at' r)
  | f + 1, had, r => if tx r = wVar then
      if had = 10 then .error (4, at' (stp r)) else do
        let (g, r1) ← global (stp r)
        let (l, r2) ← globals f (had + 1) r1
        .ok (g :: l, r2)
    else .ok ([], r)
def proc (f : Nat) (r : List Tok) : Except Er (Pr × List Tok) := do
  let r1 ← want wProc r
  let (n, r2) ← name r1
  let r3 := if tx r2 = mStar then stp r2 else r2
  let r4 ← want mLp r3
  let (ps, r5) ← (if tx r4 = mRp then .ok ([], r4) else names 11 0 10 r4 : Except Er ((List Bs) × List Tok))
  let r6 ← want mRp r5
  let r7 ← want mSemi r6
  let (vs, r8) ← (if tx r7 = wVar then do
      let (vs, r8) ← names 11 ps.length 10 (stp r7)
      let r9 ← want mSemi r8
      .ok (vs, r9)
    else .ok ([], r7) : Except Er ((List Bs) × List Tok))
  let r9 ← want wBegin r8
  let (b, r10) ← sx f 0 0 r9
  let r11 ← want wEnd r10
  let r12 ← want mSemi r11
  .ok (⟨n, at' r, tx r2 == mStar, ps, vs, b⟩, r12)
def procs : Nat → Nat → Nat → List Tok → Except Er ((List Pr) × List Tok)
  | 0, _, _, r => .error (99, at' r)
  | f + 1, g, had, r => if tx r = wProc then
      if had = 10 then .error (4, at' r) else do
        let (p, r1) ← proc g r
        let (l, r2) ← procs f g (had + 1) r1
        .ok (p :: l, r2)
    else .ok ([], r)
def module (f : Nat) (r : List Tok) : Except Er M := do
  let r1 ← want wModule r
  let (n, r2) ← name r1
  let r3 ← want mSemi r2
  let (is, r4) ← (if tx r3 = wImport then do
      let (is, r4) ← names 7 0 6 (stp r3)
      let r5 ← want mSemi r4
      .ok (is, r5)
    else .ok ([], r3) : Except Er ((List Bs) × List Tok))
  let (gs, r5) ← globals 12 0 r4
  let (ps, r6) ← procs 12 f 0 r5
  let r7 ← want wBegin r6
  let (b, r8) ← sx f 0 0 r7
  let r9 ← want wEnd r8
  let r10 ← want mDot r9
  if (hd r10).kind = 0 then .ok ⟨n, is, gs, ps, b⟩ else .error (3, at' r10)
def parse (l : Bs) : Except Er M := do
  let ts ← scan (l.length + 1) 0 0 l
  module (20 * ts.length + 20) ts

/- writing, as pieces: each a token or blanks -/
def sp : Bs := [32]
def nl : Bs := [10]
def dec (n : Nat) : Bs := if h : n < 10 then [UInt8.ofNat (48 + n)] else dec (n / 10) ++ [UInt8.ofNat (48 + n % 10)]
def ref (m n : Bs) : List Bs := if m = [] then [n] else [m, mDot, n]
def held (low : Bool) (l : List Bs) : List Bs := if low then [mLp] ++ l ++ [mRp] else l
def isLow (k : Nat) : List X → Bool
  | x :: _ => x.code == 5 && decide (lvl x.op < k)
  | [] => false
def commas : List (List Bs) → List Bs
  | [] => []
  | [l] => l
  | l :: r => l ++ [mComma, sp] ++ commas r
def px : List X → List (List Bs)
  | [] => []
  | ⟨code, _, n, m, nm, op, le, ri, ar⟩ :: xs =>
    (match code with
      | 1 => [dec n]
      | 2 => ref m nm
      | 3 => ref m nm ++ [mLb] ++ (px le).flatten ++ [mRb]
      | 4 => [op] ++ (if op = wNot then [sp] else []) ++ held (isLow 5 le) (px le).flatten
      | 5 => held (isLow (lvl op) le) (px le).flatten ++ [sp, op, sp] ++ held (isLow (lvl op + 1) ri) (px ri).flatten
      | 6 => ref m nm ++ [mLp] ++ commas (px ar) ++ [mRp]
      | _ => []) :: px xs
def pxs (l : List X) : List Bs := (px l).flatten
def tab (d : Nat) : List Bs := List.replicate d [32, 32]
def pst : List S → Nat → List (List Bs)
  | [], _ => []
  | ⟨code, _, nm, ix, v, th, el⟩ :: ss, d =>
    (tab d ++ (match code with
      | 1 => [nm] ++ (if ix.isEmpty then [] else [mLb] ++ pxs ix ++ [mRb]) ++ [sp, mSet, sp] ++ pxs v
      | 2 => [wIf, sp] ++ pxs v ++ [sp, wThen, nl] ++ (pst th (d + 1)).flatten ++ (if el.isEmpty then [] else tab d ++ [wElse, nl] ++ (pst el (d + 1)).flatten) ++ tab d ++ [wEnd]
      | 3 => [wWhile, sp] ++ pxs v ++ [sp, wDo, nl] ++ (pst th (d + 1)).flatten ++ tab d ++ [wEnd]
      | 4 => [wReturn, sp] ++ pxs v
      | 5 => [wWrite, sp] ++ pxs v
      | 6 => pxs v
      | _ => []) ++ [mSemi, nl]) :: pst ss d
def psts (l : List S) (d : Nat) : List Bs := (pst l d).flatten
def star (b : Bool) : List Bs := if b then [mStar] else []
def pnames (l : List Bs) : List Bs := commas (l.map fun n => [n])
def pg (g : G) : List Bs := [wVar, sp, g.name] ++ star g.seen ++ [mColon, sp] ++ (if g.len = 0 then [wInt] else [wArray, sp, dec g.len]) ++ [mSemi, nl]
def pp (p : Pr) : List Bs := [wProc, sp, p.name] ++ star p.seen ++ [mLp] ++ pnames p.params ++ [mRp, mSemi, nl]
  ++ (if p.vars = [] then [] else [wVar, sp] ++ pnames p.vars ++ [mSemi, nl]) ++ [wBegin, nl] ++ psts p.body 1 ++ [wEnd, mSemi, nl]
def pm (m : M) : List Bs := [wModule, sp, m.name, mSemi, nl] ++ (if m.imports = [] then [] else [wImport, sp] ++ pnames m.imports ++ [mSemi, nl])
  ++ (m.vars.map pg).flatten ++ (m.procs.map pp).flatten ++ [wBegin, nl] ++ psts m.body 1 ++ [wEnd, mDot, nl]
def print (m : M) : Bs := (pm m).flatten
end Tp
namespace Tp
abbrev out {α : Type} : Except Er α := .error (99, 0)
def Le {α : Type} (a b : Except Er α) : Prop := a = out ∨ b = a
theorem Le.refl {α : Type} (a : Except Er α) : Le a a := Or.inr rfl
theorem Le.bind {α β : Type} {a b : Except Er α} {g h : α → Except Er β} (h1 : Le a b) (h2 : ∀ v, Le (g v) (h v)) : Le (a >>= g) (b >>= h) := by
  rcases h1 with rfl | rfl
  · exact Or.inl rfl
  · cases b with
    | error e => exact Or.inr rfl
    | ok v => exact h2 v
theorem Le.ite {α : Type} {c : Prop} [Decidable c] {a b a' b' : Except Er α} (h1 : Le a a') (h2 : Le b b') : Le (if c then a else b) (if c then a' else b') := by
  split <;> assumption
theorem Le.trans {α : Type} {a b c : Except Er α} (h1 : Le a b) (h2 : Le b c) : Le a c := by
  rcases h1 with h | rfl
  · exact Or.inl h
  · exact h2
theorem Le.eq {α : Type} {a b : Except Er α} (h : Le a b) {x : Except Er α} (hx : a = x) (hn : x ≠ out) : b = x := by
  rcases h with h | rfl
  · exact absurd (hx.symm.trans h) hn
  · exact hx
theorem ex_step (f : Nat) : ∀ k ones a acc r, Le (ex f k ones a acc r) (ex (f + 1) k ones a acc r) := by
  induction f with
  | zero => intro k ones a acc r; exact Or.inl rfl
  | succ f ih =>
    intro k ones a acc r
    rw [ex, ex]
    refine Le.ite ?_ (Le.ite (Le.ite (Le.refl _) (Le.ite (Le.refl _) (Le.ite ?_ (Le.ite ?_ ?_)))) (Le.ite ?_ (Le.ite ?_ (Le.ite ?_ (Le.refl _)))))
    · exact Le.bind (ih _ _ _ _ _) fun v => ih _ _ _ _ _
    · exact Le.bind (ih _ _ _ _ _) fun v => Le.refl _
    · exact Le.bind (ih _ _ _ _ _) fun v => Le.refl _
    · exact ih _ _ _ _ _
    · refine Le.bind (Le.refl _) fun v => ?_
      refine Le.bind (Le.refl _) fun u => ?_
      refine Le.ite ?_ (Le.ite (Le.ite (Le.refl _) ?_) (Le.refl _))
      · exact Le.bind (ih _ _ _ _ _) fun v => Le.refl _
      · exact Le.bind (ih _ _ _ _ _) fun v => Le.refl _
    · refine Le.bind (ih _ _ _ _ _) fun v => ?_
      exact Le.ite (Le.bind (ih _ _ _ _ _) fun v => Le.refl _) (Le.refl _)
    · exact Le.bind (ih _ _ _ _ _) fun v => ih _ _ _ _ _
theorem ex_le {f g : Nat} (h : f ≤ g) (k ones a : Nat) (acc : List X) (r : List Tok) : Le (ex f k ones a acc r) (ex g k ones a acc r) := by
  induction h with
  | refl => exact Le.refl _
  | step _ ih => exact ih.trans (ex_step _ _ _ _ _ _)
theorem sx_step (f : Nat) : ∀ k b r, Le (sx f k b r) (sx (f + 1) k b r) := by
  induction f with
  | zero => intro k b r; exact Or.inl rfl
  | succ f ih =>
    intro k b r
    rw [sx, sx]
    refine Le.ite (Le.ite (Le.refl _) (ih _ _ _)) (Le.ite (Le.ite (Le.refl _) ?_) (Le.ite (Le.ite ?_ (Le.ite ?_ (Le.ite ?_ ?_))) ?_))
    · exact Le.bind (ih _ _ _) fun v => Le.bind (ih _ _ _) fun v => Le.refl _
    · exact Le.bind (ex_step _ _ _ _ _ _) fun v => Le.refl _
    · refine Le.bind (ex_step _ _ _ _ _ _) fun v => Le.bind (Le.refl _) fun v => Le.bind (ih _ _ _) fun v => Le.refl _
    · exact Le.bind (ih _ _ _) fun v => Le.refl _
    · refine Le.bind (ex_step _ _ _ _ _ _) fun v => ?_
      exact Le.ite (Le.refl _) (Le.ite (Le.bind (Le.refl _) fun v => Le.bind (ex_step _ _ _ _ _ _) fun v => Le.refl _) (Le.refl _))
    · refine Le.bind (ex_step _ _ _ _ _ _) fun v => Le.bind (Le.refl _) fun v => Le.bind (ih _ _ _) fun v => ?_
      exact Le.ite (Le.bind (ih _ _ _) fun v => Le.refl _) (Le.ite (Le.bind (ih _ _ _) fun v => Le.refl _) (Le.refl _))
theorem sx_le {f g : Nat} (h : f ≤ g) (k b : Nat) (r : List Tok) : Le (sx f k b r) (sx g k b r) := by
  induction h with
  | refl => exact Le.refl _
  | step _ ih => exact ih.trans (sx_step _ _ _ _)
end Tp
namespace Tp
theorem bind_ok {α β : Type} {a : Except Er α} {g : α → Except Er β} {v : β} (h : (a >>= g) = .ok v) : ∃ u, a = .ok u ∧ g u = .ok v := by
  cases a with
  | error e => cases h
  | ok u => exact ⟨u, rfl, h⟩
theorem bind_ne {α β : Type} {a : Except Er α} {g : α → Except Er β} (h1 : a ≠ out) (h2 : ∀ u, a = .ok u → g u ≠ out) : (a >>= g) ≠ out := by
  cases a with
  | error e => intro h; apply h1; cases h; rfl
  | ok u => exact h2 u rfl
theorem ite_ne {α : Type} {c : Prop} [Decidable c] {a b : Except Er α} (h1 : c → a ≠ out) (h2 : ¬ c → b ≠ out) : (if c then a else b) ≠ out := by
  split
  · exact h1 ‹_›
  · exact h2 ‹_›
theorem ok_ne {α : Type} (v : α) : (.ok v : Except Er α) ≠ out := by intro h; cases h
theorem er_ne {α : Type} {e : Er} (h : e.1 ≠ 99) : (.error e : Except Er α) ≠ out := by intro k; injection k with k; subst k; exact h rfl
/- an end has no text -/
def Gd (r : List Tok) : Prop := ∀ t, t ∈ r → t.kind = 0 → t.text = []
theorem Gd.suf {r r' : List Tok} (h : Gd r) (k : r' <:+ r) : Gd r' := fun t ht => h t (k.subset ht)
theorem stp_suf (r : List Tok) : stp r <:+ r := by
  unfold stp
  split
  · exact List.suffix_refl _
  · exact List.tail_suffix _
theorem stp_lt {r : List Tok} (h : Gd r) (k : tx r ≠ []) : (stp r).length < r.length := by
  cases r with
  | nil => exact absurd rfl k
  | cons t l =>
    have : (hd (t :: l)).kind ≠ 0 := fun e => k (h t (by simp) e)
    simp [stp, this]
theorem stp_lt' {r : List Tok} (k : (hd r).kind ≠ 0) : (stp r).length < r.length := by
  cases r with
  | nil => exact absurd rfl k
  | cons t l => simp [stp, k]
theorem want_ok {s : Bs} {r r' : List Tok} (h : want s r = .ok r') : tx r = s ∧ r' = stp r := by
  unfold want at h
  split at h
  · exact ⟨‹_›, by cases h; rfl⟩
  · cases h
theorem want_ne (s : Bs) (r : List Tok) : want s r ≠ out := by
  unfold want; exact ite_ne (fun _ => ok_ne _) (fun _ => er_ne (by simp))
theorem name_ok' {r r' : List Tok} {n : Bs} (h : name r = .ok (n, r')) : (hd r).kind = 1 ∧ tx r ∉ kept ∧ (tx r).length ≤ 10 ∧ n = tx r ∧ r' = stp r := by
  unfold name at h
  split at h
  · cases h
  · rename_i h1
    split at h
    · cases h
    · cases h
      rw [not_or] at h1
      refine ⟨by simpa using h1.1, h1.2, by omega, rfl, rfl⟩
theorem name_ne (r : List Tok) : name r ≠ out := by
  unfold name; exact ite_ne (fun _ => er_ne (by simp)) (fun _ => ite_ne (fun _ => er_ne (by simp)) (fun _ => ok_ne _))
theorem name_lt {r r' : List Tok} {n : Bs} (h : name r = .ok (n, r')) : r' <:+ r ∧ r'.length < r.length := by
  obtain ⟨h1, _, _, _, rfl⟩ := name_ok' h
  exact ⟨stp_suf r, stp_lt' (by omega)⟩
theorem number_ok' {m n : Nat} {r r' : List Tok} (h : number m r = .ok (n, r')) : (hd r).kind = 2 ∧ n = val (tx r) ∧ n ≤ m ∧ r' = stp r := by
  unfold number at h
  split at h
  · cases h
  · rename_i h1
    split at h
    · cases h
    · cases h
      exact ⟨by simpa using h1, rfl, by omega, rfl⟩
theorem number_ne (m : Nat) (r : List Tok) : number m r ≠ out := by
  unfold number; exact ite_ne (fun _ => er_ne (by simp)) (fun _ => ite_ne (fun _ => er_ne (by simp)) (fun _ => ok_ne _))
theorem number_lt {m n : Nat} {r r' : List Tok} (h : number m r = .ok (n, r')) : r' <:+ r ∧ r'.length < r.length := by
  obtain ⟨h1, _, _, rfl⟩ := number_ok' h
  exact ⟨stp_suf r, stp_lt' (by omega)⟩
theorem want_lt {s : Bs} {r r' : List Tok} (hg : Gd r) (hs : s ≠ []) (h : want s r = .ok r') : r' <:+ r ∧ r'.length < r.length := by
  obtain ⟨h1, rfl⟩ := want_ok h
  exact ⟨stp_suf r, stp_lt hg (by rw [h1]; exact hs)⟩
theorem stp_lt_of {r : List Tok} {s : Bs} (hg : Gd r) (hs : s ≠ []) (h : tx r = s) : (stp r).length < r.length := stp_lt hg (by rw [h]; exact hs)
theorem lvl_nil : lvl [] = 5 := by decide
/- what begins with a REF: its name, and the tokens behind it -/
def refT (r : List Tok) : Except Er ((Bs × Bs) × List Tok) := do
  let (n1, r1) ← name r
  (if tx r1 = mDot then do
      let (n2, r2) ← name (stp r1)
      .ok ((n1, n2), r2)
    else .ok (([], n1), r1) : Except Er ((Bs × Bs) × List Tok))
def behind (f ones a : Nat) (m n : Bs) (r2 : List Tok) : Except Er ((List X) × List Tok) :=
  if tx r2 = mLb then do
    let (x, r3) ← ex f 0 (ones + 1) 0 [] (stp r2)
    let r4 ← want mRb r3
    .ok ([⟨3, a, 0, m, n, [], x, [], []⟩], r4)
  else if tx r2 = mLp then
    if tx (stp r2) = mRp then .ok ([⟨6, a, 0, m, n, [], [], [], []⟩], stp (stp r2))
    else do
      let (l, r3) ← ex f 7 ones 0 [] (stp r2)
      let r4 ← want mRp r3
      .ok ([⟨6, a, 0, m, n, [], [], [], l⟩], r4)
  else .ok ([⟨2, a, 0, m, n, [], [], [], []⟩], r2)
theorem ex6 (f ones a : Nat) (acc : List X) (r : List Tok) : ex (f + 1) 6 ones a acc r = (do let ((m, n), r2) ← refT r; behind f ones (at' r) m n r2) := by
  rw [ex]
  unfold refT behind
  simp only [show ¬ (6 < 5) by omega, if_false, show ¬ (6 = 5) by omega, if_true]
  cases name r with
  | error e => rfl
  | ok v =>
    obtain ⟨n1, r1⟩ := v
    simp only [bind, Except.bind]
theorem refT_lt {r r' : List Tok} {v : Bs × Bs} (h : refT r = .ok (v, r')) : r' <:+ r ∧ r'.length < r.length := by
  unfold refT at h
  obtain ⟨⟨n1, r1⟩, h1, h2⟩ := bind_ok h
  have k1 := name_lt h1
  simp only at h2
  split at h2
  · obtain ⟨⟨n2, r2⟩, h3, h4⟩ := bind_ok h2
    have k2 := name_lt h3
    have k3 := stp_suf r1
    have k4 := k3.length_le
    cases h4
    exact ⟨(k2.1.trans k3).trans k1.1, show r2.length < r.length by omega⟩
  · cases h2
    exact k1
theorem refT_ne (r : List Tok) : refT r ≠ out := by
  unfold refT
  refine bind_ne (name_ne r) fun v _ => ?_
  exact ite_ne (fun _ => bind_ne (name_ne _) fun u _ => ok_ne _) (fun _ => ok_ne _)
theorem ex_lt (f : Nat) : ∀ k o a acc r x r', Gd r → ex f k o a acc r = .ok (x, r') → r' <:+ r ∧ (k ≤ 7 → r'.length < r.length) := by
  induction f with
  | zero => intro k o a acc r x r' _ h; rw [ex] at h; cases h
  | succ f ih =>
    intro k o a acc r x r' hg h
    by_cases h6 : k = 6
    · subst h6
      rw [ex6] at h
      obtain ⟨⟨⟨m, n⟩, r2⟩, h1, h2⟩ := bind_ok h
      have k1 := refT_lt h1
      have g2 := hg.suf k1.1
      simp only [behind] at h2
      have k0 := stp_suf r2
      have k0l := k0.length_le
      split at h2
      · obtain ⟨⟨y, r3⟩, h3, h4⟩ := bind_ok h2
        have k2 := ih _ _ _ _ _ _ _ (g2.suf k0) h3
        have k2l := k2.1.length_le
        obtain ⟨r4, h5, h6⟩ := bind_ok h4
        have k3 := want_lt ((g2.suf k0).suf k2.1) (by decide) h5
        cases h6
        exact ⟨((k3.1.trans k2.1).trans k0).trans k1.1, fun _ => by omega⟩
      · split at h2
        · split at h2
          · cases h2
            have k3 := stp_suf (stp r2)
            have k3l := k3.length_le
            exact ⟨(k3.trans k0).trans k1.1, fun _ => by omega⟩
          · obtain ⟨⟨y, r3⟩, h3, h4⟩ := bind_ok h2
            have k2 := ih _ _ _ _ _ _ _ (g2.suf k0) h3
            have k2l := k2.1.length_le
            obtain ⟨r4, h5, h6⟩ := bind_ok h4
            have k3 := want_lt ((g2.suf k0).suf k2.1) (by decide) h5
            cases h6
            exact ⟨((k3.1.trans k2.1).trans k0).trans k1.1, fun _ => by omega⟩
        · cases h2
          exact ⟨k1.1, fun _ => k1.2⟩
    · rw [ex] at h
      split at h
      · obtain ⟨⟨y, r1⟩, h1, h2⟩ := bind_ok h
        have k1 := ih _ _ _ _ _ _ _ hg h1
        have k2 := ih _ _ _ _ _ _ _ (hg.suf k1.1) h2
        have := k2.1.length_le
        have := k1.2 (by omega)
        exact ⟨k2.1.trans k1.1, fun _ => by omega⟩
      · split at h
        · split at h
          · cases h
          · split at h
            · obtain ⟨⟨y, r1⟩, h1, h2⟩ := bind_ok h
              have k1 := number_lt h1
              cases h2
              exact ⟨k1.1, fun _ => k1.2⟩
            · split at h
              · rename_i hm
                obtain ⟨⟨y, r1⟩, h1, h2⟩ := bind_ok h
                have k0 := stp_suf r
                have := k0.length_le
                have k1 := ih _ _ _ _ _ _ _ (hg.suf k0) h1
                have := k1.2 (by omega)
                cases h2
                exact ⟨k1.1.trans k0, fun _ => by omega⟩
              · split at h
                · obtain ⟨⟨y, r1⟩, h1, h2⟩ := bind_ok h
                  have k0 := stp_suf r
                  have := k0.length_le
                  have k1 := ih _ _ _ _ _ _ _ (hg.suf k0) h1
                  have := k1.2 (by omega)
                  obtain ⟨r2, h3, h4⟩ := bind_ok h2
                  have k2 := want_lt ((hg.suf k0).suf k1.1) (by decide) h3
                  cases h4
                  exact ⟨(k2.1.trans k1.1).trans k0, fun _ => by omega⟩
                · have k1 := ih _ _ _ _ _ _ _ hg h
                  exact ⟨k1.1, fun _ => k1.2 (by omega)⟩
        · split at h
          · obtain ⟨⟨y, r1⟩, h1, h2⟩ := bind_ok h
            have k1 := ih _ _ _ _ _ _ _ hg h1
            have := k1.2 (by omega)
            simp only at h2
            split at h2
            · obtain ⟨⟨l, r2⟩, h3, h4⟩ := bind_ok h2
              have k0 := stp_suf r1
              have := k0.length_le
              have k2 := ih _ _ _ _ _ _ _ ((hg.suf k1.1).suf k0) h3
              have := k2.1.length_le
              cases h4
              exact ⟨(k2.1.trans k0).trans k1.1, fun _ => show r2.length < r.length by omega⟩
            · cases h2
              exact ⟨k1.1, fun _ => by omega⟩
          · split at h
            · obtain ⟨⟨y, r1⟩, h1, h2⟩ := bind_ok h
              have k0 := stp_suf r
              have := k0.length_le
              have k1 := ih _ _ _ _ _ _ _ (hg.suf k0) h1
              have k2 := ih _ _ _ _ _ _ _ ((hg.suf k0).suf k1.1) h2
              exact ⟨(k2.1.trans k1.1).trans k0, fun _ => by omega⟩
            · cases h
              exact ⟨List.suffix_refl _, fun _ => by omega⟩
def rk (k : Nat) : Nat := if k < 5 then 7 - k else if k = 5 then 2 else if k = 7 then 8 else 1
theorem ex_fuel (f : Nat) : ∀ k o a acc r, Gd r → k ≤ 7 ∨ 10 ≤ k ∧ k < 15 → 10 * r.length + rk k ≤ f → ex f k o a acc r ≠ out := by
  induction f with
  | zero => intro k o a acc r _ _ h; unfold rk at h; split at h <;> (try split at h) <;> (try split at h) <;> omega
  | succ f ih =>
    intro k o a acc r hg hk hf
    by_cases h6 : k = 6
    · subst h6
      rw [ex6]
      simp only [rk, show ¬ (6 < 5) by omega, if_false, show ¬ (6 = 5) by omega, show ¬ (6 = 7) by omega] at hf
      refine bind_ne (refT_ne r) ?_
      rintro ⟨⟨m, n⟩, r2⟩ h1
      have k1 := refT_lt h1
      have g2 := hg.suf k1.1
      have k0 := stp_suf r2
      have := k0.length_le
      simp only [behind]
      refine ite_ne (fun _ => bind_ne (ih _ _ _ _ _ (g2.suf k0) (by omega) (by simp only [rk, show 0 < 5 by omega, if_true]; omega)) fun v _ => bind_ne (want_ne _ _) fun u _ => ok_ne _) (fun _ => ite_ne (fun _ => ite_ne (fun _ => ok_ne _) (fun _ => ?_)) (fun _ => ok_ne _))
      exact bind_ne (ih _ _ _ _ _ (g2.suf k0) (by omega) (by simp only [rk, show ¬ (7 < 5) by omega, if_false, show ¬ (7 = 5) by omega, if_true]; omega)) fun v _ => bind_ne (want_ne _ _) fun u _ => ok_ne _
    · rw [ex]
      refine ite_ne (fun h5 => ?_) (fun h5 => ite_ne (fun e5 => ?_) (fun e5 => ?_))
      · simp only [rk, h5, if_true] at hf
        refine bind_ne (ih _ _ _ _ _ hg (by omega) (by unfold rk; split <;> (try split) <;> omega)) ?_
        rintro ⟨y, r1⟩ h1
        have k1 := ex_lt f _ _ _ _ _ _ _ hg h1
        have := k1.2 (by omega)
        exact ih _ _ _ _ _ (hg.suf k1.1) (by omega) (by simp only [rk, show ¬ (10 + k < 5) by omega, if_false, show ¬ (10 + k = 5) by omega, show ¬ (10 + k = 7) by omega]; omega)
      · subst e5
        simp only [rk, show ¬ (5 < 5) by omega, if_false, if_true] at hf
        refine ite_ne (fun _ => er_ne (by simp)) (fun _ => ite_ne (fun _ => bind_ne (number_ne _ _) fun u _ => ok_ne _) (fun _ => ite_ne (fun hm => ?_) (fun _ => ite_ne (fun hm => ?_) (fun _ => ?_))))
        · have hl : (stp r).length < r.length := by rcases hm with hm | hm <;> exact stp_lt_of hg (by decide) hm
          exact bind_ne (ih _ _ _ _ _ (hg.suf (stp_suf r)) (by omega) (by simp only [rk, show ¬ (5 < 5) by omega, if_false, if_true]; omega)) fun u _ => ok_ne _
        · have hl : (stp r).length < r.length := stp_lt_of hg (by decide) hm
          exact bind_ne (ih _ _ _ _ _ (hg.suf (stp_suf r)) (by omega) (by simp only [rk, show 0 < 5 by omega, if_true]; omega)) fun u _ => bind_ne (want_ne _ _) fun u _ => ok_ne _
        · exact ih _ _ _ _ _ hg (by omega) (by simp only [rk, show ¬ (6 < 5) by omega, if_false, show ¬ (6 = 5) by omega, show ¬ (6 = 7) by omega]; omega)
      · rw [if_neg h6]
        refine ite_ne (fun e7 => ?_) (fun e7 => ite_ne (fun hl => ?_) (fun _ => ok_ne _))
        · subst e7
          simp only [rk, show ¬ (7 < 5) by omega, if_false, show ¬ (7 = 5) by omega, if_true] at hf
          refine bind_ne (ih _ _ _ _ _ hg (by omega) (by simp only [rk, show 0 < 5 by omega, if_true]; omega)) ?_
          rintro ⟨y, r1⟩ h1
          have k1 := ex_lt f _ _ _ _ _ _ _ hg h1
          have := k1.2 (by omega)
          refine ite_ne (fun hc => ?_) (fun _ => ok_ne _)
          have := stp_lt_of (hg.suf k1.1) (by decide) hc
          exact bind_ne (ih _ _ _ _ _ ((hg.suf k1.1).suf (stp_suf r1)) (by omega) (by simp only [rk, show ¬ (7 < 5) by omega, if_false, show ¬ (7 = 5) by omega, if_true]; omega)) fun u _ => ok_ne _
        · simp only [rk, h5, if_false, e5, e7] at hf
          have hs : (stp r).length < r.length := stp_lt hg (by intro e; rw [e, lvl_nil] at hl; omega)
          refine bind_ne (ih _ _ _ _ _ (hg.suf (stp_suf r)) (by omega) (by unfold rk; split <;> (try split) <;> omega)) ?_
          rintro ⟨y, r1⟩ h1
          have k1 := ex_lt f _ _ _ _ _ _ _ (hg.suf (stp_suf r)) h1
          have := k1.1.length_le
          exact ih _ _ _ _ _ ((hg.suf (stp_suf r)).suf k1.1) (by omega) (by simp only [rk, h5, if_false, e5, e7]; omega)
end Tp
namespace Tp
theorem sx_lt (f : Nat) : ∀ k b r x r', Gd r → sx f k b r = .ok (x, r') → r' <:+ r ∧ (2 ≤ k → r'.length < r.length) := by
  induction f with
  | zero => intro k b r x r' _ h; rw [sx] at h; cases h
  | succ f ih =>
    intro k b r x r' hg h
    have k0 := stp_suf r
    have k0l := k0.length_le
    have g0 := hg.suf k0
    rw [sx] at h
    split at h
    · split at h
      · cases h
      · have k1 := ih _ _ _ _ _ hg h
        exact ⟨k1.1, fun _ => by omega⟩
    · split at h
      · split at h
        · cases h; exact ⟨List.suffix_refl _, fun _ => by omega⟩
        · obtain ⟨⟨s, r1⟩, h1, h2⟩ := bind_ok h
          have k1 := ih _ _ _ _ _ hg h1
          obtain ⟨⟨l, r2⟩, h3, h4⟩ := bind_ok h2
          have k2 := ih _ _ _ _ _ (hg.suf k1.1) h3
          cases h4
          exact ⟨k2.1.trans k1.1, fun _ => by omega⟩
      · split at h
        · split at h
          · obtain ⟨⟨x1, r1⟩, h1, h2⟩ := bind_ok h
            have k1 := ex_lt f _ _ _ _ _ _ _ g0 h1
            have k1l := k1.1.length_le
            obtain ⟨r2, h3, h4⟩ := bind_ok h2
            have k2 := want_lt (g0.suf k1.1) (by decide) h3
            cases h4
            exact ⟨(k2.1.trans k1.1).trans k0, fun _ => by omega⟩
          · split at h
            · obtain ⟨⟨x1, r1⟩, h1, h2⟩ := bind_ok h
              have k1 := ex_lt f _ _ _ _ _ _ _ g0 h1
              have k1l := k1.1.length_le
              obtain ⟨r2, h3, h4⟩ := bind_ok h2
              have g1 := g0.suf k1.1
              have k2 := want_lt g1 (by decide) h3
              obtain ⟨⟨l, r3⟩, h5, h6⟩ := bind_ok h4
              have g2 := g1.suf k2.1
              have k3 := ih _ _ _ _ _ g2 h5
              have k3l := k3.1.length_le
              have g3 := g2.suf k3.1
              obtain ⟨r4, h7, h8⟩ := bind_ok h6
              have k4 := want_lt g3 (by decide) h7
              obtain ⟨r5, h9, h10⟩ := bind_ok h8
              have k5 := want_lt (g3.suf k4.1) (by decide) h9
              cases h10
              exact ⟨((((k5.1.trans k4.1).trans k3.1).trans k2.1).trans k1.1).trans k0, fun _ => by omega⟩
            · split at h
              · obtain ⟨⟨s, r1⟩, h1, h2⟩ := bind_ok h
                have k1 := ih _ _ _ _ _ hg h1
                have k1l := k1.1.length_le
                obtain ⟨r2, h3, h4⟩ := bind_ok h2
                have k2 := want_lt (hg.suf k1.1) (by decide) h3
                obtain ⟨r3, h5, h6⟩ := bind_ok h4
                have k3 := want_lt ((hg.suf k1.1).suf k2.1) (by decide) h5
                cases h6
                exact ⟨(k3.1.trans k2.1).trans k1.1, fun _ => by omega⟩
              · obtain ⟨⟨x1, r1⟩, h1, h2⟩ := bind_ok h
                have k1 := ex_lt f _ _ _ _ _ _ _ hg h1
                have k1l := k1.2 (by omega)
                simp only at h2
                split at h2
                · obtain ⟨r2, h3, h4⟩ := bind_ok h2
                  have k2 := want_lt (hg.suf k1.1) (by decide) h3
                  cases h4
                  exact ⟨k2.1.trans k1.1, fun _ => by omega⟩
                · split at h2
                  · obtain ⟨r2, h3, h4⟩ := bind_ok h2
                    have k2 := want_lt (hg.suf k1.1) (by decide) h3
                    have g2 := (hg.suf k1.1).suf k2.1
                    obtain ⟨⟨y, r3⟩, h5, h6⟩ := bind_ok h4
                    have k3 := ex_lt f _ _ _ _ _ _ _ g2 h5
                    have k3l := k3.1.length_le
                    obtain ⟨r4, h7, h8⟩ := bind_ok h6
                    have k4 := want_lt (g2.suf k3.1) (by decide) h7
                    cases h8
                    exact ⟨((k4.1.trans k3.1).trans k2.1).trans k1.1, fun _ => by omega⟩
                  · cases h2
        · obtain ⟨⟨x1, r1⟩, h1, h2⟩ := bind_ok h
          have k1 := ex_lt f _ _ _ _ _ _ _ g0 h1
          have k1l := k1.1.length_le
          obtain ⟨r2, h3, h4⟩ := bind_ok h2
          have g1 := g0.suf k1.1
          have k2 := want_lt g1 (by decide) h3
          obtain ⟨⟨l, r3⟩, h5, h6⟩ := bind_ok h4
          have g2 := g1.suf k2.1
          have k3 := ih _ _ _ _ _ g2 h5
          have k3l := k3.1.length_le
          have g3 := g2.suf k3.1
          simp only at h6
          split at h6
          · obtain ⟨⟨e, r4⟩, h7, h8⟩ := bind_ok h6
            have k4 := ih _ _ _ _ _ g3 h7
            have k4l := k4.1.length_le
            cases h8
            exact ⟨(((k4.1.trans k3.1).trans k2.1).trans k1.1).trans k0, fun _ => show r4.length < r.length by omega⟩
          · split at h6
            · obtain ⟨⟨e, r4⟩, h7, h8⟩ := bind_ok h6
              have k5 := stp_suf r3
              have k5l := k5.length_le
              have k4 := ih _ _ _ _ _ (g3.suf k5) h7
              have k4l := k4.1.length_le
              cases h8
              exact ⟨((((k4.1.trans k5).trans k3.1).trans k2.1).trans k1.1).trans k0, fun _ => show r4.length < r.length by omega⟩
            · cases h6
              exact ⟨((k3.1.trans k2.1).trans k1.1).trans k0, fun _ => by omega⟩
theorem sx_fuel (f : Nat) : ∀ k b r, Gd r → 10 * r.length + 6 - k ≤ f → 10 * r.length + 2 ≤ f → (3 ≤ k → tx r ≠ []) → sx f k b r ≠ out := by
  induction f with
  | zero => intro k b r _ _ h _; omega
  | succ f ih =>
    intro k b r hg hf hf2 h3
    have k0 := stp_suf r
    have k0l := k0.length_le
    have g0 := hg.suf k0
    rw [sx]
    refine ite_ne (fun e0 => ite_ne (fun _ => er_ne (by simp)) (fun _ => ih _ _ _ hg (by omega) (by omega) (by omega))) (fun e0 => ite_ne (fun e1 => ite_ne (fun _ => ok_ne _) (fun _ => ?_)) (fun e1 => ite_ne (fun e2 => ?_) (fun e2 => ?_)))
    · refine bind_ne (ih _ _ _ hg (by omega) (by omega) (by omega)) ?_
      rintro ⟨s, r1⟩ h1
      have k1 := sx_lt f _ _ _ _ _ hg h1
      have := k1.2 (by omega)
      exact bind_ne (ih _ _ _ (hg.suf k1.1) (by omega) (by omega) (by omega)) fun u _ => ok_ne _
    · subst e2
      have hex0 : (stp r).length < r.length → ex f 0 0 0 [] (stp r) ≠ out := fun hl => ex_fuel f 0 0 0 [] (stp r) g0 (by omega) (by simp only [rk, show 0 < 5 by omega, if_true]; omega)
      refine ite_ne (fun hm => ?_) (fun _ => ite_ne (fun hm => ?_) (fun _ => ite_ne (fun hm => ?_) (fun _ => ?_)))
      · have hl : (stp r).length < r.length := by rcases hm with hm | hm <;> exact stp_lt_of hg (by decide) hm
        exact bind_ne (hex0 hl) fun u _ => bind_ne (want_ne _ _) fun u _ => ok_ne _
      · have hl : (stp r).length < r.length := stp_lt_of hg (by decide) hm
        refine bind_ne (hex0 hl) ?_
        rintro ⟨x1, r1⟩ h1
        have k1 := ex_lt f _ _ _ _ _ _ _ g0 h1
        have k1l := k1.1.length_le
        refine bind_ne (want_ne _ _) ?_
        intro r2 h3
        have k2 := want_lt (g0.suf k1.1) (by decide) h3
        exact bind_ne (ih _ _ _ ((g0.suf k1.1).suf k2.1) (by omega) (by omega) (by omega)) fun u _ => bind_ne (want_ne _ _) fun u _ => bind_ne (want_ne _ _) fun u _ => ok_ne _
      · exact bind_ne (ih _ _ _ hg (by omega) (by have := stp_lt_of hg (by decide) hm; omega) (by intro _; rw [hm]; decide)) fun u _ => bind_ne (want_ne _ _) fun u _ => bind_ne (want_ne _ _) fun u _ => ok_ne _
      · refine bind_ne (ex_fuel f 6 0 0 [] r hg (by omega) (by simp only [rk, show ¬ (6 < 5) by omega, if_false, show ¬ (6 = 5) by omega, show ¬ (6 = 7) by omega]; omega)) ?_
        rintro ⟨x1, r1⟩ h1
        have k1 := ex_lt f _ _ _ _ _ _ _ hg h1
        have k1l := k1.2 (by omega)
        refine ite_ne (fun _ => bind_ne (want_ne _ _) fun u _ => ok_ne _) (fun _ => ite_ne (fun _ => bind_ne (want_ne _ _) ?_) (fun _ => er_ne (by simp)))
        intro r2 h3
        have k2 := want_lt (hg.suf k1.1) (by decide) h3
        exact bind_ne (ex_fuel f 0 0 0 [] r2 ((hg.suf k1.1).suf k2.1) (by omega) (by simp only [rk, show 0 < 5 by omega, if_true]; omega)) fun u _ => bind_ne (want_ne _ _) fun u _ => ok_ne _
    · have hl : (stp r).length < r.length := stp_lt hg (h3 (by omega))
      · refine bind_ne (ex_fuel f 0 0 0 [] (stp r) g0 (by omega) (by simp only [rk, show 0 < 5 by omega, if_true]; omega)) ?_
        rintro ⟨x1, r1⟩ h1
        have k1 := ex_lt f _ _ _ _ _ _ _ g0 h1
        have k1l := k1.1.length_le
        refine bind_ne (want_ne _ _) ?_
        intro r2 h3
        have g1 := g0.suf k1.1
        have k2 := want_lt g1 (by decide) h3
        refine bind_ne (ih _ _ _ (g1.suf k2.1) (by omega) (by omega) (by omega)) ?_
        rintro ⟨l, r3⟩ h5
        have g2 := g1.suf k2.1
        have k3 := sx_lt f _ _ _ _ _ g2 h5
        have k3l := k3.1.length_le
        have k5 := stp_suf r3
        have k5l := k5.length_le
        exact ite_ne (fun he => bind_ne (ih _ _ _ (g2.suf k3.1) (by omega) (by omega) (by intro _; rw [he]; decide)) fun u _ => ok_ne _) (fun _ => ite_ne (fun _ => bind_ne (ih _ _ _ ((g2.suf k3.1).suf k5) (by omega) (by omega) (by omega)) fun u _ => ok_ne _) (fun _ => ok_ne _))

theorem names_suf (f : Nat) : ∀ had most r l r', names f had most r = .ok (l, r') → r' <:+ r := by
  induction f with
  | zero => intro had most r l r' h; cases h
  | succ f ih =>
    intro had most r l r' h
    rw [names] at h
    split at h
    · cases h
    · obtain ⟨⟨n, r1⟩, h1, h2⟩ := bind_ok h
      have k1 := name_lt h1
      simp only at h2
      split at h2
      · obtain ⟨⟨l', r2⟩, h3, h4⟩ := bind_ok h2
        have k2 := ih _ _ _ _ _ h3
        cases h4
        exact (k2.trans (stp_suf r1)).trans k1.1
      · cases h2
        exact k1.1
theorem names_ne (f : Nat) : ∀ had most r, 1 ≤ f → most + 1 ≤ f + had → names f had most r ≠ out := by
  induction f with
  | zero => intro had most r h; omega
  | succ f ih =>
    intro had most r _ h2
    rw [names]
    refine ite_ne (fun _ => er_ne (by simp)) (fun hm => bind_ne (name_ne r) ?_)
    rintro ⟨n, r1⟩ _
    exact ite_ne (fun _ => bind_ne (ih _ _ _ (by omega) (by omega)) fun u _ => ok_ne _) (fun _ => ok_ne _)
theorem if_suf {r r' : List Tok} {s : Bs} (h : r' = if tx r = s then stp r else r) : r' <:+ r := by
  subst h
  split
  · exact stp_suf r
  · exact List.suffix_refl _
theorem ifT_suf (r : List Tok) (s : Bs) : (if tx r = s then stp r else r) <:+ r := if_suf rfl
theorem want_suf {s : Bs} {r r' : List Tok} (h : want s r = .ok r') : r' <:+ r := by obtain ⟨_, rfl⟩ := want_ok h; exact stp_suf r
theorem global_suf {r r' : List Tok} {g : G} (h : global r = .ok (g, r')) : r' <:+ r := by
  unfold global at h
  obtain ⟨⟨n, r1⟩, h1, h2⟩ := bind_ok h
  have k1 := (name_lt h1).1
  obtain ⟨r3, h3, h4⟩ := bind_ok h2
  have k3 := (want_suf h3).trans ((ifT_suf r1 mStar).trans k1)
  simp only at h4
  split at h4
  · obtain ⟨r4, h5, h6⟩ := bind_ok h4
    cases h6
    exact (want_suf h5).trans ((stp_suf r3).trans k3)
  · obtain ⟨r4, h5, h6⟩ := bind_ok h4
    have k4 := (want_suf h5).trans k3
    obtain ⟨⟨k, r5⟩, h7, h8⟩ := bind_ok h6
    have k5 := (number_lt h7).1.trans k4
    simp only at h8
    split at h8
    · cases h8
    · obtain ⟨r6, h9, h10⟩ := bind_ok h8
      cases h10
      exact (want_suf h9).trans k5
theorem global_ne (r : List Tok) : global r ≠ out := by
  unfold global
  refine bind_ne (name_ne r) fun v _ => bind_ne (want_ne _ _) fun r3 _ => ite_ne (fun _ => bind_ne (want_ne _ _) fun _ _ => ok_ne _) (fun _ => bind_ne (want_ne _ _) fun _ _ => bind_ne (number_ne _ _) fun _ _ => ?_)
  exact ite_ne (fun _ => er_ne (by simp)) (fun _ => bind_ne (want_ne _ _) fun _ _ => ok_ne _)
theorem globals_suf (f : Nat) : ∀ had r l r', globals f had r = .ok (l, r') → r' <:+ r := by
  induction f with
  | zero => intro had r l r' h; cases h
  | succ f ih =>
    intro had r l r' h
    rw [globals] at h
    split at h
    · split at h
      · cases h
      · obtain ⟨⟨g, r1⟩, h1, h2⟩ := bind_ok h
        obtain ⟨⟨l', r2⟩, h3, h4⟩ := bind_ok h2
        cases h4
        exact (ih _ _ _ _ h3).trans ((global_suf h1).trans (stp_suf r))
    · cases h
      exact List.suffix_refl _
theorem globals_ne (f : Nat) : ∀ had r, 12 ≤ f + had → 1 ≤ f → had ≤ 10 → globals f had r ≠ out := by
  induction f with
  | zero => intro had r _ h; omega
  | succ f ih =>
    intro had r h1 _ h2
    rw [globals]
    refine ite_ne (fun _ => ite_ne (fun _ => er_ne (by simp)) (fun hh => bind_ne (global_ne _) fun v _ => bind_ne (ih _ _ (by omega) (by omega) (by omega)) fun _ _ => ok_ne _)) (fun _ => ok_ne _)
theorem proc_suf {f : Nat} {r r' : List Tok} {p : Pr} (hg : Gd r) (h : proc f r = .ok (p, r')) : r' <:+ r := by
  unfold proc at h
  obtain ⟨r1, h1, h2⟩ := bind_ok h
  have k1 := want_suf h1
  obtain ⟨⟨n, r2⟩, h3, h4⟩ := bind_ok h2
  have k2 := (name_lt h3).1.trans k1
  obtain ⟨r4, h5, h6⟩ := bind_ok h4
  have k4 := (want_suf h5).trans ((ifT_suf r2 mStar).trans k2)
  obtain ⟨⟨ps, r5⟩, h7, h8⟩ := bind_ok h6
  have k5 : r5 <:+ r := by
    split at h7
    · cases h7; exact k4
    · exact (names_suf _ _ _ _ _ _ h7).trans k4
  obtain ⟨r6, h9, h10⟩ := bind_ok h8
  obtain ⟨r7, h11, h12⟩ := bind_ok h10
  have k7 := (want_suf h11).trans ((want_suf h9).trans k5)
  obtain ⟨⟨vs, r8⟩, h13, h14⟩ := bind_ok h12
  have k8 : r8 <:+ r := by
    split at h13
    · obtain ⟨⟨vs', r8'⟩, h15, h16⟩ := bind_ok h13
      obtain ⟨r9, h17, h18⟩ := bind_ok h16
      cases h18
      exact (want_suf h17).trans ((names_suf _ _ _ _ _ _ h15).trans ((stp_suf r7).trans k7))
    · cases h13; exact k7
  obtain ⟨r9, h15, h16⟩ := bind_ok h14
  have k9 := (want_suf h15).trans k8
  obtain ⟨⟨b, r10⟩, h17, h18⟩ := bind_ok h16
  have k10 := (sx_lt f _ _ _ _ _ (hg.suf k9) h17).1.trans k9
  obtain ⟨r11, h19, h20⟩ := bind_ok h18
  obtain ⟨r12, h21, h22⟩ := bind_ok h20
  cases h22
  exact (want_suf h21).trans ((want_suf h19).trans k10)
theorem proc_ne {f : Nat} {r : List Tok} (hg : Gd r) (hf : 10 * r.length + 6 ≤ f) : proc f r ≠ out := by
  unfold proc
  refine bind_ne (want_ne _ _) fun r1 h1 => bind_ne (name_ne _) ?_
  rintro ⟨n, r2⟩ h3
  have k2 := (name_lt h3).1.trans (want_suf h1)
  refine bind_ne (want_ne _ _) fun r4 h5 => ?_
  have k4 := (want_suf h5).trans ((ifT_suf r2 mStar).trans k2)
  refine bind_ne (ite_ne (fun _ => ok_ne _) (fun _ => names_ne _ _ _ _ (by omega) (by omega))) ?_
  rintro ⟨ps, r5⟩ h7
  have k5 : r5 <:+ r := by
    split at h7
    · cases h7; exact k4
    · exact (names_suf _ _ _ _ _ _ h7).trans k4
  refine bind_ne (want_ne _ _) fun r6 h9 => bind_ne (want_ne _ _) fun r7 h11 => ?_
  have k7 := (want_suf h11).trans ((want_suf h9).trans k5)
  refine bind_ne (ite_ne (fun _ => bind_ne (names_ne _ _ _ _ (by omega) (by omega)) fun _ _ => bind_ne (want_ne _ _) fun _ _ => ok_ne _) (fun _ => ok_ne _)) ?_
  rintro ⟨vs, r8⟩ h13
  have k8 : r8 <:+ r := by
    split at h13
    · obtain ⟨⟨vs', r8'⟩, h15, h16⟩ := bind_ok h13
      obtain ⟨r9, h17, h18⟩ := bind_ok h16
      cases h18
      exact (want_suf h17).trans ((names_suf _ _ _ _ _ _ h15).trans ((stp_suf r7).trans k7))
    · cases h13; exact k7
  refine bind_ne (want_ne _ _) fun r9 h15 => ?_
  have k9 := (want_suf h15).trans k8
  have := k9.length_le
  exact bind_ne (sx_fuel f _ _ _ (hg.suf k9) (by omega) (by omega) (by omega)) fun _ _ => bind_ne (want_ne _ _) fun _ _ => bind_ne (want_ne _ _) fun _ _ => ok_ne _
theorem procs_suf (f : Nat) : ∀ g had r l r', Gd r → procs f g had r = .ok (l, r') → r' <:+ r := by
  induction f with
  | zero => intro g had r l r' _ h; cases h
  | succ f ih =>
    intro g had r l r' hg h
    rw [procs] at h
    split at h
    · split at h
      · cases h
      · obtain ⟨⟨p, r1⟩, h1, h2⟩ := bind_ok h
        have k1 := proc_suf hg h1
        obtain ⟨⟨l', r2⟩, h3, h4⟩ := bind_ok h2
        cases h4
        exact (ih _ _ _ _ _ (hg.suf k1) h3).trans k1
    · cases h
      exact List.suffix_refl _
theorem procs_ne (f : Nat) : ∀ g had r, Gd r → 10 * r.length + 6 ≤ g → 12 ≤ f + had → 1 ≤ f → had ≤ 10 → procs f g had r ≠ out := by
  induction f with
  | zero => intro g had r _ _ _ h; omega
  | succ f ih =>
    intro g had r hg hf h1 _ h2
    rw [procs]
    refine ite_ne (fun _ => ite_ne (fun _ => er_ne (by simp)) (fun hh => bind_ne (proc_ne hg hf) ?_)) (fun _ => ok_ne _)
    rintro ⟨p, r1⟩ h3
    have k1 := proc_suf hg h3
    have := k1.length_le
    exact bind_ne (ih _ _ _ (hg.suf k1) (by omega) (by omega) (by omega) (by omega)) fun _ _ => ok_ne _
theorem module_ne {f : Nat} {r : List Tok} (hg : Gd r) (hf : 10 * r.length + 6 ≤ f) : module f r ≠ out := by
  unfold module
  refine bind_ne (want_ne _ _) fun r1 h1 => bind_ne (name_ne _) ?_
  rintro ⟨n, r2⟩ h3
  have k2 := (name_lt h3).1.trans (want_suf h1)
  refine bind_ne (want_ne _ _) fun r3 h5 => ?_
  have k3 := (want_suf h5).trans k2
  refine bind_ne (ite_ne (fun _ => bind_ne (names_ne _ _ _ _ (by omega) (by omega)) fun _ _ => bind_ne (want_ne _ _) fun _ _ => ok_ne _) (fun _ => ok_ne _)) ?_
  rintro ⟨vs, r4⟩ h7
  have k4 : r4 <:+ r := by
    split at h7
    · obtain ⟨⟨vs', r8'⟩, h15, h16⟩ := bind_ok h7
      obtain ⟨r9, h17, h18⟩ := bind_ok h16
      cases h18
      exact (want_suf h17).trans ((names_suf _ _ _ _ _ _ h15).trans ((stp_suf r3).trans k3))
    · cases h7; exact k3
  refine bind_ne (globals_ne _ _ _ (by omega) (by omega) (by omega)) ?_
  rintro ⟨gs, r5⟩ h9
  have k5 := (globals_suf _ _ _ _ _ h9).trans k4
  have := k5.length_le
  refine bind_ne (procs_ne _ _ _ _ (hg.suf k5) (by omega) (by omega) (by omega) (by omega)) ?_
  rintro ⟨ps, r6⟩ h11
  have k6 := (procs_suf _ _ _ _ _ _ (hg.suf k5) h11).trans k5
  refine bind_ne (want_ne _ _) fun r7 h13 => ?_
  have k7 := (want_suf h13).trans k6
  have := k7.length_le
  refine bind_ne (sx_fuel f _ _ _ (hg.suf k7) (by omega) (by omega) (by omega)) fun _ _ => bind_ne (want_ne _ _) fun _ _ => bind_ne (want_ne _ _) fun _ _ => ite_ne (fun _ => ok_ne _) (fun _ => er_ne (by simp))
end Tp
/- What was read is well made. -/
namespace Tp
def wt (r : List Tok) : Nat := (r.map fun t => t.text.length).sum
/- a token as it is cut -/
structure Tk (t : Tok) : Prop where
  k0 : t.kind = 0 → t.text = []
  k1 : t.kind = 1 → ∃ c l, t.text = c :: l ∧ letter c = true ∧ ∀ d, d ∈ t.text → ld d = true
  k2 : t.kind = 2 → t.text ≠ [] ∧ ∀ d, d ∈ t.text → digit d = true
  k3 : t.kind = 3 → t.text ∈ marks
  kk : t.kind ≤ 3
def Tks (r : List Tok) : Prop := ∀ t, t ∈ r → Tk t
theorem Tks.gd {r : List Tok} (h : Tks r) : Gd r := fun t ht => (h t ht).k0
theorem Tks.suf {r r' : List Tok} (h : Tks r) (k : r' <:+ r) : Tks r' := fun t ht => h t (k.subset ht)
theorem wt_stp (r : List Tok) : wt (stp r) + (if (hd r).kind = 0 then 0 else (tx r).length) = wt r := by
  unfold stp
  split
  · rfl
  · cases r with
    | nil => rfl
    | cons t l => simp [wt, tx, hd]; omega
theorem wt_stp_le (r : List Tok) : wt (stp r) ≤ wt r := by have := wt_stp r; omega
theorem wt_step {r : List Tok} (h : Tks r) : wt (stp r) + (tx r).length = wt r := by
  have := wt_stp r
  split at this
  · rename_i hz
    have : tx r = [] := by
      cases r with
      | nil => rfl
      | cons t l => exact (h t (by simp)).k0 hz
    rw [this]; simpa using ‹_›
  · exact this
def okn (n : Bs) : Prop := (∃ c l, n = c :: l ∧ letter c = true ∧ ∀ d, d ∈ n → ld d = true) ∧ n ∉ kept ∧ n.length ≤ 10
theorem name_okn {r r' : List Tok} {n : Bs} (hT : Tks r) (h : name r = .ok (n, r')) : okn n ∧ r' = stp r ∧ 1 + wt r' ≤ wt r := by
  obtain ⟨h1, h2, h3, rfl, rfl⟩ := name_ok' h
  have hk : ∃ c l, tx r = c :: l ∧ letter c = true ∧ ∀ d, d ∈ tx r → ld d = true := by
    cases r with
    | nil => exact absurd h1 (by decide)
    | cons t l => exact (hT t (by simp)).k1 h1
  refine ⟨⟨hk, h2, h3⟩, rfl, ?_⟩
  obtain ⟨c, l, e, _⟩ := hk
  have := wt_step hT
  rw [e] at this
  simp at this; omega
/- what an EXPR must be; D: how deep; N: how many tokens -/
def lv (l : List X) : Nat := match l with | x :: _ => if x.code = 5 then lvl x.op else 5 | [] => 5
def lowN (k : Nat) (l : List X) : Nat := if isLow k l then 1 else 0
def DX : List X → Nat
  | [] => 0
  | ⟨code, _, _, _, _, op, le, ri, ar⟩ :: xs =>
    max (if code = 3 then 1 + DX le else if code = 4 then 1 + (lowN 5 le + DX le) else if code = 5 then max (lowN (lvl op) le + DX le) (lowN (lvl op + 1) ri + DX ri) else if code = 6 then (if ar.isEmpty then 0 else 1 + DX ar) else 0) (DX xs)
def rN (m : Bs) : Nat := if m = [] then 1 else 3
def NX : List X → Nat
  | [] => 0
  | ⟨code, _, _, m, _, op, le, ri, ar⟩ :: xs =>
    (if code = 3 then rN m + 2 + NX le else if code = 4 then 1 + (2 * lowN 5 le + NX le) else if code = 5 then 1 + (2 * lowN (lvl op) le + NX le) + (2 * lowN (lvl op + 1) ri + NX ri) else if code = 6 then rN m + 2 + (ar.length - 1) + NX ar else if code = 2 then rN m else 1) + NX xs
def okr (m n : Bs) : Prop := (m = [] ∨ okn m) ∧ okn n
def WX : List X → Prop
  | [] => True
  | ⟨code, _, n, m, nm, op, le, ri, ar⟩ :: xs =>
    (code = 1 ∧ n ≤ top ∧ m = [] ∧ nm = [] ∧ op = [] ∧ le = [] ∧ ri = [] ∧ ar = [] ∨
     code = 2 ∧ n = 0 ∧ okr m nm ∧ op = [] ∧ le = [] ∧ ri = [] ∧ ar = [] ∨
     code = 3 ∧ n = 0 ∧ okr m nm ∧ op = [] ∧ WX le ∧ le.length = 1 ∧ ri = [] ∧ ar = [] ∨
     code = 4 ∧ n = 0 ∧ m = [] ∧ nm = [] ∧ (op = mMinus ∨ op = wNot) ∧ WX le ∧ le.length = 1 ∧ ri = [] ∧ ar = [] ∨
     code = 5 ∧ n = 0 ∧ m = [] ∧ nm = [] ∧ lvl op < 5 ∧ WX le ∧ le.length = 1 ∧ WX ri ∧ ri.length = 1 ∧ ar = [] ∨
     code = 6 ∧ n = 0 ∧ okr m nm ∧ op = [] ∧ le = [] ∧ ri = [] ∧ WX ar) ∧ WX xs
theorem len1 {α : Type} {l : List α} (h : l.length = 1) : ∃ x, l = [x] := by
  match l, h with
  | [x], _ => exact ⟨x, rfl⟩
theorem refT_okr {r r' : List Tok} {m n : Bs} (hT : Tks r) (h : refT r = .ok ((m, n), r')) : okr m n ∧ rN m + wt r' ≤ wt r := by
  unfold refT at h
  obtain ⟨⟨n1, r1⟩, h1, h2⟩ := bind_ok h
  obtain ⟨a1, rfl, a2⟩ := name_okn hT h1
  simp only at h2
  have hT1 := hT.suf (stp_suf r)
  split at h2
  · rename_i hd1
    obtain ⟨⟨n2, r2⟩, h3, h4⟩ := bind_ok h2
    have hs := wt_step hT1
    rw [hd1] at hs
    simp [mDot] at hs
    obtain ⟨b1, rfl, b2⟩ := name_okn (hT1.suf (stp_suf _)) h3
    cases h4
    refine ⟨⟨Or.inr a1, b1⟩, ?_⟩
    simp only
    unfold rN
    split <;> omega
  · cases h2
    exact ⟨⟨Or.inl rfl, a1⟩, by simpa [rN] using a2⟩
theorem lvl_le (op : Bs) : lvl op ≤ 5 := by
  unfold lvl
  repeat' split
  all_goals omega
theorem lowN_mono {j k : Nat} (h : j ≤ k) (l : List X) : lowN j l ≤ lowN k l := by
  unfold lowN
  match l with
  | [] => simp [isLow]
  | x :: _ =>
    simp only [isLow]
    by_cases h5 : x.code = 5
    · by_cases h1 : lvl x.op < j
      · have : lvl x.op < k := by omega
        simp [h5, h1, this]
      · simp [h5, h1]
    · simp [h5]
theorem lowN_one (k : Nat) (l : List X) : lowN k l ≤ 1 := by unfold lowN; split <;> omega
theorem lvl_len {s : Bs} (h : lvl s < 5) : 1 ≤ s.length := by
  cases s with
  | nil => exact absurd h (by decide)
  | cons c l => simp
/- what reading at k leaves -/
structure Rx (k o : Nat) (x : List X) (r r' : List Tok) : Prop where
  one : k ≠ 7 → x.length = 1
  some : 1 ≤ x.length
  wx : WX x
  dx : k ≠ 7 → o + lowN (if k < 10 then k else k - 10) x + DX x ≤ 10
  d7 : k = 7 → o + 1 + DX x ≤ 10
  nx : k ≠ 7 → k < 10 → NX x + 2 * lowN k x + wt r' ≤ wt r
  n7 : k = 7 → NX x + (x.length - 1) + wt r' ≤ wt r
theorem WX_app : ∀ (l m : List X), WX l → WX m → WX (l ++ m) := by
  intro l
  induction l with
  | nil => intro m _ h; exact h
  | cons x xs ih =>
    intro m h k
    obtain ⟨code, pos, n, md, nm, op, le, ri, ar⟩ := x
    rw [List.cons_append, WX]
    rw [WX] at h
    exact ⟨h.1, ih m h.2 k⟩
theorem DX_app : ∀ (l m : List X), DX (l ++ m) = max (DX l) (DX m) := by
  intro l
  induction l with
  | nil => intro m; simp [DX]
  | cons x xs ih =>
    intro m
    obtain ⟨code, pos, n, md, nm, op, le, ri, ar⟩ := x
    rw [List.cons_append, DX, DX, ih]
    omega
theorem NX_app : ∀ (l m : List X), NX (l ++ m) = NX l + NX m := by
  intro l
  induction l with
  | nil => intro m; simp [NX]
  | cons x xs ih =>
    intro m
    obtain ⟨code, pos, n, md, nm, op, le, ri, ar⟩ := x
    rw [List.cons_append, NX, NX, ih]
    omega
theorem low_of_code {k : Nat} {x : X} {xs : List X} (h : x.code ≠ 5) : lowN k (x :: xs) = 0 := by
  simp [lowN, isLow, h]
theorem DX1 (x : X) : DX [x] = (if x.code = 3 then 1 + DX x.left else if x.code = 4 then 1 + (lowN 5 x.left + DX x.left) else if x.code = 5 then max (lowN (lvl x.op) x.left + DX x.left) (lowN (lvl x.op + 1) x.right + DX x.right) else if x.code = 6 then (if x.args.isEmpty then 0 else 1 + DX x.args) else 0) := by
  obtain ⟨code, pos, n, md, nm, op, le, ri, ar⟩ := x
  rw [DX, DX]; simp
theorem NX1 (x : X) : NX [x] = (if x.code = 3 then rN x.mod + 2 + NX x.left else if x.code = 4 then 1 + (2 * lowN 5 x.left + NX x.left) else if x.code = 5 then 1 + (2 * lowN (lvl x.op) x.left + NX x.left) + (2 * lowN (lvl x.op + 1) x.right + NX x.right) else if x.code = 6 then rN x.mod + 2 + (x.args.length - 1) + NX x.args else if x.code = 2 then rN x.mod else 1) := by
  obtain ⟨code, pos, n, md, nm, op, le, ri, ar⟩ := x
  rw [NX, NX]; simp
theorem WX_nil : WX [] := by rw [WX]; trivial
theorem want_wt {s : Bs} {r r' : List Tok} (hT : Tks r) (h : want s r = .ok r') : r' = stp r ∧ wt r' + s.length = wt r := by
  obtain ⟨h1, rfl⟩ := want_ok h
  have := wt_step hT
  rw [h1] at this
  exact ⟨rfl, this⟩
theorem ex_rx (f : Nat) : ∀ k o a acc r x r', Tks r → (k ≤ 7 ∨ 10 ≤ k ∧ k < 15) → (k = 6 → o ≤ 10) → (10 ≤ k → acc.length = 1 ∧ WX acc ∧ o + lowN (k - 10) acc + DX acc ≤ 10) → ex f k o a acc r = .ok (x, r') →
    Rx k o x r r' ∧ (10 ≤ k → NX x + 2 * lowN (k - 10) x + wt r' ≤ NX acc + 2 * lowN (k - 10) acc + wt r) := by
  induction f with
  | zero => intro k o a acc r x r' _ _ _ _ h; rw [ex] at h; cases h
  | succ f ih =>
    intro k o a acc r x r' hT hk h6o hacc h
    have T0 := hT.suf (stp_suf r)
    have w0 := wt_step hT
    by_cases h6 : k = 6
    · subst h6
      have ho := h6o rfl
      rw [ex6] at h
      obtain ⟨⟨⟨m, n⟩, r2⟩, h1, h2⟩ := bind_ok h
      obtain ⟨kr, kw⟩ := refT_okr hT h1
      have T2 := hT.suf (refT_lt h1).1
      have T3 := T2.suf (stp_suf r2)
      have w2 := wt_step T2
      simp only [behind] at h2
      split at h2
      · rename_i hb
        rw [hb] at w2
        simp [mLb] at w2
        obtain ⟨⟨y, r3⟩, h3, h4⟩ := bind_ok h2
        obtain ⟨q, _⟩ := ih 0 (o + 1) 0 [] _ _ _ T3 (by omega) (by omega) (by omega) h3
        obtain ⟨r4, h5, h6⟩ := bind_ok h4
        have w4 := (want_wt (T3.suf (ex_lt f _ _ _ _ _ _ _ T3.gd h3).1) h5).2
        simp [mRb] at w4
        cases h6
        have q1 := q.one (by omega)
        have q4 := q.dx (by omega)
        have q5 := q.nx (by omega) (by omega)
        refine ⟨⟨fun _ => rfl, by simp, ?_, fun _ => ?_, fun e => by omega, fun _ _ => ?_, fun e => by omega⟩, fun e => by omega⟩
        · rw [WX]; exact ⟨Or.inr (Or.inr (Or.inl ⟨rfl, rfl, kr, rfl, q.wx, q1, rfl, rfl⟩)), WX_nil⟩
        · rw [low_of_code (by simp), DX1]; simp; omega
        · rw [low_of_code (by simp), NX1]; simp; omega
      · split at h2
        · rename_i hb
          rw [hb] at w2
          simp [mLp] at w2
          split at h2
          · rename_i hb3
            have w3 := wt_step T3
            rw [hb3] at w3
            simp [mRp] at w3
            cases h2
            refine ⟨⟨fun _ => rfl, by simp, ?_, fun _ => ?_, fun e => by omega, fun _ _ => ?_, fun e => by omega⟩, fun e => by omega⟩
            · rw [WX]; exact ⟨Or.inr (Or.inr (Or.inr (Or.inr (Or.inr ⟨rfl, rfl, kr, rfl, rfl, rfl, WX_nil⟩)))), WX_nil⟩
            · rw [low_of_code (by simp), DX1]; simp; omega
            · rw [low_of_code (by simp), NX1]; simp [NX]; omega
          · obtain ⟨⟨y, r3⟩, h3, h4⟩ := bind_ok h2
            obtain ⟨q, _⟩ := ih 7 o 0 [] _ _ _ T3 (by omega) (by omega) (by omega) h3
            obtain ⟨r4, h5, h6⟩ := bind_ok h4
            have w4 := (want_wt (T3.suf (ex_lt f _ _ _ _ _ _ _ T3.gd h3).1) h5).2
            simp [mRp] at w4
            cases h6
            have q1 := q.some
            have q4 := q.d7 rfl
            have q5 := q.n7 rfl
            have qe : y.isEmpty = false := by cases y <;> simp at q1 ⊢
            refine ⟨⟨fun _ => rfl, by simp, ?_, fun _ => ?_, fun e => by omega, fun _ _ => ?_, fun e => by omega⟩, fun e => by omega⟩
            · rw [WX]; exact ⟨Or.inr (Or.inr (Or.inr (Or.inr (Or.inr ⟨rfl, rfl, kr, rfl, rfl, rfl, q.wx⟩)))), WX_nil⟩
            · rw [low_of_code (by simp), DX1]; simp [qe]; omega
            · rw [low_of_code (by simp), NX1]; simp; omega
        · cases h2
          refine ⟨⟨fun _ => rfl, by simp, ?_, fun _ => ?_, fun e => by omega, fun _ _ => ?_, fun e => by omega⟩, fun e => by omega⟩
          · rw [WX]; exact ⟨Or.inr (Or.inl ⟨rfl, rfl, kr, rfl, rfl, rfl, rfl⟩), WX_nil⟩
          · rw [low_of_code (by simp), DX1]; simp; omega
          · rw [low_of_code (by simp), NX1]; simp; omega
    · rw [ex] at h
      split at h
      · rename_i h5
        obtain ⟨⟨y, r1⟩, h1, h2⟩ := bind_ok h
        obtain ⟨q, _⟩ := ih (k + 1) o 0 [] _ _ _ hT (by omega) (by intro e; omega) (by omega) h1
        have q1 := q.one (by omega)
        have q4 := q.dx (by omega)
        have q5 := q.nx (by omega) (by omega)
        rw [if_pos (by omega)] at q4
        have hm := lowN_mono (show k ≤ k + 1 by omega) y
        have e10 : 10 + k - 10 = k := by omega
        obtain ⟨u, u2⟩ := ih (10 + k) o (at' r) y _ _ _ (hT.suf (ex_lt f _ _ _ _ _ _ _ hT.gd h1).1) (by omega) (by omega) (fun _ => ⟨q1, q.wx, by rw [e10]; omega⟩) h2
        have u3 := u2 (by omega)
        have u4 := u.dx (by omega)
        rw [if_neg (by omega), e10] at u4
        rw [e10] at u3
        exact ⟨⟨fun _ => u.one (by omega), u.some, u.wx, fun _ => by rw [if_pos (by omega)]; exact u4, fun e => by omega, fun _ _ => by omega, fun e => by omega⟩, fun e => by omega⟩
      · split at h
        · rename_i h5n h5
          subst h5
          split at h
          · cases h
          · rename_i ho
            split at h
            · obtain ⟨⟨n, r1⟩, h1, h2⟩ := bind_ok h
              obtain ⟨n1, n2, n3, rfl⟩ := number_ok' h1
              have hl : 1 ≤ (tx r).length := by
                cases r with
                | nil => exact absurd n1 (by decide)
                | cons t l =>
                  have := ((hT t (by simp)).k2 n1).1
                  show 1 ≤ t.text.length
                  cases e : t.text with
                  | nil => exact absurd e this
                  | cons c l => simp
              cases h2
              refine ⟨⟨fun _ => rfl, by simp, ?_, fun _ => ?_, fun e => by omega, fun _ _ => ?_, fun e => by omega⟩, fun e => by omega⟩
              · rw [WX]; exact ⟨Or.inl ⟨rfl, n3, rfl, rfl, rfl, rfl, rfl, rfl⟩, WX_nil⟩
              · rw [low_of_code (by simp), DX1]; simp; omega
              · rw [low_of_code (by simp), NX1]; simp; omega
            · split at h
              · rename_i hm
                obtain ⟨⟨y, r1⟩, h1, h2⟩ := bind_ok h
                obtain ⟨q, _⟩ := ih 5 (o + 1) 0 [] _ _ _ T0 (by omega) (by omega) (by omega) h1
                have q1 := q.one (by omega)
                have q4 := q.dx (by omega)
                have q5 := q.nx (by omega) (by omega)
                rw [if_pos (by omega)] at q4
                have hl : 1 ≤ (tx r).length := by rcases hm with hm | hm <;> rw [hm] <;> decide
                cases h2
                refine ⟨⟨fun _ => rfl, by simp, ?_, fun _ => ?_, fun e => by omega, fun _ _ => ?_, fun e => by omega⟩, fun e => by omega⟩
                · rw [WX]; exact ⟨Or.inr (Or.inr (Or.inr (Or.inl ⟨rfl, rfl, rfl, rfl, hm, q.wx, q1, rfl, rfl⟩))), WX_nil⟩
                · rw [low_of_code (by simp), DX1]; simp; omega
                · rw [low_of_code (by simp), NX1]; simp; omega
              · split at h
                · rename_i hm
                  rw [hm] at w0
                  simp [mLp] at w0
                  obtain ⟨⟨y, r1⟩, h1, h2⟩ := bind_ok h
                  obtain ⟨q, _⟩ := ih 0 (o + 1) 0 [] _ _ _ T0 (by omega) (by omega) (by omega) h1
                  have q1 := q.one (by omega)
                  have q4 := q.dx (by omega)
                  have q5 := q.nx (by omega) (by omega)
                  rw [if_pos (by omega)] at q4
                  obtain ⟨r2, h3, h4⟩ := bind_ok h2
                  have w4 := (want_wt (T0.suf (ex_lt f _ _ _ _ _ _ _ T0.gd h1).1) h3).2
                  simp [mRp] at w4
                  cases h4
                  have := lowN_one 5 x
                  exact ⟨⟨fun _ => q1, q.some, q.wx, fun _ => by rw [if_pos (by omega)]; omega, fun e => by omega, fun _ _ => by omega, fun e => by omega⟩, fun e => by omega⟩
                · obtain ⟨q, _⟩ := ih 6 o 0 [] _ _ _ hT (by omega) (by omega) (by omega) h
                  have q4 := q.dx (by omega)
                  have q5 := q.nx (by omega) (by omega)
                  rw [if_pos (by omega)] at q4
                  have := lowN_mono (show 5 ≤ 6 by omega) x
                  exact ⟨⟨fun _ => q.one (by omega), q.some, q.wx, fun _ => by rw [if_pos (by omega)]; omega, fun e => by omega, fun _ _ => by omega, fun e => by omega⟩, fun e => by omega⟩
        · split at h
          · rename_i h7
            subst h7
            obtain ⟨⟨y, r1⟩, h1, h2⟩ := bind_ok h
            obtain ⟨q, _⟩ := ih 0 (o + 1) 0 [] _ _ _ hT (by omega) (by omega) (by omega) h1
            have q1 := q.one (by omega)
            have q4 := q.dx (by omega)
            have q5 := q.nx (by omega) (by omega)
            rw [if_pos (by omega)] at q4
            have T1 := hT.suf (ex_lt f _ _ _ _ _ _ _ hT.gd h1).1
            have w1 := wt_step T1
            simp only at h2
            split at h2
            · rename_i hc
              rw [hc] at w1
              simp [mComma] at w1
              obtain ⟨⟨l, r2⟩, h3, h4⟩ := bind_ok h2
              obtain ⟨u, _⟩ := ih 7 o 0 [] _ _ _ (T1.suf (stp_suf r1)) (by omega) (by omega) (by omega) h3
              have u1 := u.some
              have u4 := u.d7 rfl
              have u5 := u.n7 rfl
              cases h4
              refine ⟨⟨fun e => absurd rfl e, by simp; omega, WX_app _ _ q.wx u.wx, fun e => absurd rfl e, fun _ => by simp only [DX_app]; omega, fun e => absurd rfl e, fun _ => ?_⟩, fun e => by omega⟩
              rw [NX_app, List.length_append, q1]
              simp only
              omega
            · cases h2
              exact ⟨⟨fun e => absurd rfl e, q.some, q.wx, fun e => absurd rfl e, fun _ => by omega, fun e => absurd rfl e, fun _ => by rw [q1]; omega⟩, fun e => by omega⟩
          · split at h
            · rename_i h7 hl
              have hk10 : 10 ≤ k := by omega
              obtain ⟨c1, c2, c3⟩ := hacc hk10
              have ho := lvl_len (s := tx r) (by omega)
              obtain ⟨⟨y, r1⟩, h1, h2⟩ := bind_ok h
              obtain ⟨q, _⟩ := ih (k - 10 + 1) o 0 [] _ _ _ T0 (by omega) (by omega) (by omega) h1
              have q1 := q.one (by omega)
              have q4 := q.dx (by omega)
              have q5 := q.nx (by omega) (by omega)
              rw [if_pos (by omega)] at q4
              have hlow : lowN (k - 10) [(⟨5, a, 0, [], [], tx r, acc, y, []⟩ : X)] = 0 := by simp [lowN, isLow, hl]
              have hD : DX [(⟨5, a, 0, [], [], tx r, acc, y, []⟩ : X)] = max (lowN (k - 10) acc + DX acc) (lowN (k - 10 + 1) y + DX y) := by rw [DX1]; simp [hl]
              have hN : NX [(⟨5, a, 0, [], [], tx r, acc, y, []⟩ : X)] = 1 + (2 * lowN (k - 10) acc + NX acc) + (2 * lowN (k - 10 + 1) y + NX y) := by rw [NX1]; simp [hl]
              obtain ⟨u, u2⟩ := ih k o a [⟨5, a, 0, [], [], tx r, acc, y, []⟩] _ _ _ (T0.suf (ex_lt f _ _ _ _ _ _ _ T0.gd h1).1) hk (by omega) (fun _ => ⟨rfl, by
                rw [WX]; exact ⟨Or.inr (Or.inr (Or.inr (Or.inr (Or.inl ⟨rfl, rfl, rfl, rfl, by omega, c2, c1, q.wx, q1, rfl⟩)))), WX_nil⟩, by rw [hlow, hD]; omega⟩) h2
              have u3 := u2 hk10
              rw [hlow, hN] at u3
              refine ⟨⟨u.one, u.some, u.wx, u.dx, u.d7, fun e e2 => by omega, fun e => by omega⟩, fun _ => by omega⟩
            · cases h
              have hk10 : 10 ≤ k := by omega
              obtain ⟨c1, c2, c3⟩ := hacc hk10
              exact ⟨⟨fun _ => c1, by omega, c2, fun _ => by rw [if_neg (by omega)]; exact c3, fun e => by omega, fun _ e => by omega, fun e => by omega⟩, fun _ => by omega⟩
end Tp
/- What is written is read: EXPRs. -/
namespace Tp
def kd (b : Bs) : Nat := match b with | c :: _ => if letter c then 1 else if digit c then 2 else 3 | [] => 0
def isB (b : Bs) : Bool := match b with | c :: _ => blank c | [] => true
def sg (ps : List Bs) : List (Nat × Bs) := (ps.filter fun b => !isB b).map fun b => (kd b, b)
def sig (t : List Tok) : List (Nat × Bs) := t.map fun t => (t.kind, t.text)
def eL : List X → List X
  | [] => []
  | ⟨code, _, n, m, nm, op, le, ri, ar⟩ :: xs => ⟨code, 0, n, m, nm, op, eL le, eL ri, eL ar⟩ :: eL xs
theorem sg_app (a b : List Bs) : sg (a ++ b) = sg a ++ sg b := by simp [sg]
theorem sg_one {b : Bs} (h : isB b = false) : sg [b] = [(kd b, b)] := by simp [sg, h]
theorem sg_cons {b : Bs} {l : List Bs} (h : isB b = false) : sg (b :: l) = (kd b, b) :: sg l := by simp [sg, h]
theorem sg_blank {b : Bs} {l : List Bs} (h : isB b = true) : sg (b :: l) = sg l := by simp [sg, h]
theorem sig_app {t : List Tok} {a b : List (Nat × Bs)} (h : sig t = a ++ b) : ∃ t1 t2, t = t1 ++ t2 ∧ sig t1 = a ∧ sig t2 = b := by
  unfold sig at h
  rw [List.map_eq_append_iff] at h
  obtain ⟨t1, t2, h1, h2, h3⟩ := h
  exact ⟨t1, t2, h1, h2, h3⟩
theorem sig_cons {t : List Tok} {k : Nat} {b : Bs} {l : List (Nat × Bs)} (h : sig t = (k, b) :: l) : ∃ u t', t = u :: t' ∧ u.kind = k ∧ u.text = b ∧ sig t' = l := by
  unfold sig at h
  rw [List.map_eq_cons_iff] at h
  obtain ⟨u, t', h1, h2, h3⟩ := h
  simp at h2
  exact ⟨u, t', h1, h2.1, h2.2, h3⟩
theorem sig_nil {t : List Tok} (h : sig t = []) : t = [] := by simpa [sig] using h
theorem ex_up {f g k o a : Nat} {acc : List X} {r : List Tok} {v : Except Er (List X × List Tok)} (hv : v ≠ out) (h : ex f k o a acc r = v) (hf : f ≤ g) : ex g k o a acc r = v := (ex_le hf k o a acc r).eq h hv
theorem okn_kd {n : Bs} (h : okn n) : kd n = 1 ∧ isB n = false := by
  obtain ⟨⟨c, l, rfl, h1, _⟩, _⟩ := h
  refine ⟨by simp [kd, h1], ?_⟩
  simp only [isB, blank, letter, decide_eq_true_eq] at h1 ⊢
  rw [Bool.or_eq_false_iff]
  constructor
  · rw [beq_eq_false_iff_ne]; intro e; subst e; revert h1; decide
  · rw [beq_eq_false_iff_ne]; intro e; subst e; revert h1; decide
theorem stp_tok (u : Tok) (l : List Tok) (h : u.kind ≠ 0) : stp (u :: l) = l := by simp [stp, hd, h]
theorem tx_tok (u : Tok) (l : List Tok) : tx (u :: l) = u.text := rfl
theorem kind_tok (u : Tok) (l : List Tok) : (hd (u :: l)).kind = u.kind := rfl
theorem name_tok {u : Tok} {l : List Tok} {n : Bs} (hn : okn n) (h1 : u.kind = 1) (h2 : u.text = n) : name (u :: l) = .ok (n, l) := by
  have h3 := hn.2.1
  have h4 := hn.2.2
  unfold name
  rw [tx_tok, kind_tok, stp_tok u l (by omega), h1, h2, if_neg (by simp; exact h3), if_neg (by omega)]
theorem want_tok {u : Tok} {l : List Tok} {s : Bs} (h1 : u.kind ≠ 0) (h2 : u.text = s) : want s (u :: l) = .ok l := by
  unfold want
  rw [tx_tok, stp_tok u l h1, if_pos h2]
/- what may stand behind -/
structure Fol (k : Nat) (r : List Tok) : Prop where
  lv : lvl (tx r) < k ∨ lvl (tx r) = 5
  d1 : tx r ≠ mDot
  d2 : tx r ≠ mLb
  d3 : tx r ≠ mLp
theorem Fol.up {k j : Nat} {r : List Tok} (h : Fol k r) (hj : k ≤ j) : Fol j r := ⟨by have := h.lv; omega, h.d1, h.d2, h.d3⟩
theorem Fol.of {k : Nat} {u : Tok} {l : List Tok} {s : Bs} (h : u.text = s) (hs : (lvl s < k ∨ lvl s = 5) ∧ s ≠ mDot ∧ s ≠ mLb ∧ s ≠ mLp) : Fol k (u :: l) := by
  subst h; exact ⟨hs.1, hs.2.1, hs.2.2.1, hs.2.2.2⟩
def Kx (k o : Nat) (ps : List Bs) (x : List X) : Prop := ∀ t r, sig t = sg ps → Fol k r → ∃ x' f, eL x' = eL x ∧ ex f k o 0 [] (t ++ r) = .ok (x', r)
def Lx (L o : Nat) (ps : List Bs) (x : List X) : Prop := ∀ t r, sig t = sg ps → Fol (L + 1) r → ∃ x', eL x' = eL x ∧ ∀ f res, res ≠ out → ex f (10 + L) o (at' (t ++ r)) x' r = res → ∃ g, ex g L o 0 [] (t ++ r) = res
theorem Kx.down {k o : Nat} {ps : List Bs} {x : List X} (hk : k < 5) (h : Kx (k + 1) o ps x) : Kx k o ps x := by
  intro t r h1 h2
  obtain ⟨x', f, h3, h4⟩ := h t r h1 (h2.up (by omega))
  refine ⟨x', f + 2, h3, ?_⟩
  rw [ex, if_pos hk, ex_up (ok_ne _) h4 (show f ≤ f + 1 by omega)]
  simp only [bind, Except.bind]
  have hl := h2.lv
  rw [ex, if_neg (by omega), if_neg (by omega), if_neg (by omega), if_neg (by omega), if_neg (by omega)]
theorem Kx.downs {k o : Nat} {ps : List Bs} {x : List X} : ∀ j, k + j ≤ 5 → Kx (k + j) o ps x → Kx k o ps x := by
  intro j
  induction j with
  | zero => intro _ h; exact h
  | succ j ih => intro h1 h2; exact ih (by omega) (Kx.down (by omega) h2)
theorem Kx.to {k j o : Nat} {ps : List Bs} {x : List X} (h : Kx j o ps x) (hk : k ≤ j) (hj : j ≤ 5) : Kx k o ps x := by
  obtain ⟨d, rfl⟩ : ∃ d, j = k + d := ⟨j - k, by omega⟩
  exact Kx.downs d hj h
theorem Kx.toL {L o : Nat} {ps : List Bs} {x : List X} (hL : L < 5) (h : Kx (L + 1) o ps x) : Lx L o ps x := by
  intro t r h1 h2
  obtain ⟨x', f, h3, h4⟩ := h t r h1 h2
  refine ⟨x', h3, fun f2 res hr hx => ⟨max f f2 + 1, ?_⟩⟩
  rw [ex, if_pos hL, ex_up (ok_ne _) h4 (show f ≤ max f f2 by omega)]
  simp only [bind, Except.bind]
  exact ex_up hr hx (by omega)
theorem Lx.toK {L o : Nat} {ps : List Bs} {x : List X} (hL : L < 5) (h : Lx L o ps x) : Kx L o ps x := by
  intro t r h1 h2
  obtain ⟨x', h3, h4⟩ := h t r h1 (h2.up (by omega))
  have hl := h2.lv
  obtain ⟨g, hg⟩ := h4 1 (.ok (x', r)) (ok_ne _) (by rw [ex, if_neg (by omega), if_neg (by omega), if_neg (by omega), if_neg (by omega), if_neg (by omega)])
  exact ⟨x', g, h3, hg⟩
/- brackets -/
theorem Kx.paren {o : Nat} {ps : List Bs} {x : List X} (ho : o ≤ 10) (h : Kx 0 (o + 1) ps x) : Kx 5 o ([mLp] ++ ps ++ [mRp]) x := by
  intro t r h1 _
  rw [sg_app, sg_app, sg_one (by decide), sg_one (by decide)] at h1
  obtain ⟨t1, t2, rfl, h2, h3⟩ := sig_app h1
  obtain ⟨t3, t4, rfl, h4, h5⟩ := sig_app h2
  obtain ⟨u, t5, rfl, u1, u2, u3⟩ := sig_cons h4
  obtain ⟨v, t6, rfl, v1, v2, v3⟩ := sig_cons h3
  have e5 := sig_nil u3
  have e6 := sig_nil v3
  subst e5 e6
  obtain ⟨x', f, h6, h7⟩ := h t4 (v :: r) h5 (Fol.of v2 (by decide))
  refine ⟨x', f + 1, h6, ?_⟩
  have e : (([u] ++ t4 ++ [v]) ++ r) = u :: (t4 ++ v :: r) := by simp
  have k1 : u.kind = 3 := u1
  have k2 : v.kind = 3 := v1
  rw [e, ex, if_neg (by omega), if_pos rfl, if_neg (by omega), kind_tok, if_neg (by omega), tx_tok, u2, if_neg (by decide), if_pos rfl, stp_tok u _ (by omega), h7]
  simp only [bind, Except.bind]
  rw [want_tok (by omega) v2]
/- numbers -/
theorem digit_of (d : Nat) (h : d < 10) : digit (UInt8.ofNat (48 + d)) = true ∧ (UInt8.ofNat (48 + d)).toNat - 48 = d := by
  have : ∀ d : Fin 10, digit (UInt8.ofNat (48 + d.val)) = true ∧ (UInt8.ofNat (48 + d.val)).toNat - 48 = d.val := by decide
  exact this ⟨d, h⟩
theorem dec_all : ∀ n : Nat, (∀ c, c ∈ dec n → digit c = true) ∧ dec n ≠ [] ∧ val (dec n) = n := by
  intro n
  induction n using Nat.strongRecOn with
  | _ n ih =>
    rw [dec]
    split
    · obtain ⟨h1, h2⟩ := digit_of n ‹_›
      refine ⟨by intro c hc; rw [List.mem_singleton] at hc; subst hc; exact h1, by simp, ?_⟩
      simp only [val, List.foldl_cons, List.foldl_nil]
      omega
    · obtain ⟨a, b, c⟩ := ih (n / 10) (by omega)
      obtain ⟨h1, h2⟩ := digit_of (n % 10) (by omega)
      refine ⟨by intro d hd; simp only [List.mem_append, List.mem_singleton] at hd; rcases hd with hd | rfl; exact a d hd; exact h1, by simp, ?_⟩
      unfold val at c ⊢
      rw [List.foldl_append, c]
      simp only [List.foldl_cons, List.foldl_nil]
      omega
theorem digit_kd {l : Bs} (h : ∀ c, c ∈ l → digit c = true) (hn : l ≠ []) : kd l = 2 ∧ isB l = false := by
  cases l with
  | nil => exact absurd rfl hn
  | cons c t =>
    have h1 := h c (by simp)
    have : letter c = false := by
      simp only [digit, letter, decide_eq_true_eq, decide_eq_false_iff_not] at h1 ⊢; omega
    refine ⟨by simp [kd, h1, this], ?_⟩
    simp only [isB, blank, digit, decide_eq_true_eq] at h1 ⊢
    rw [Bool.or_eq_false_iff]
    constructor
    · rw [beq_eq_false_iff_ne]; intro e; subst e; revert h1; decide
    · rw [beq_eq_false_iff_ne]; intro e; subst e; revert h1; decide
theorem Kx.num {o n pos : Nat} (ho : o ≤ 10) (hn : n ≤ top) : Kx 5 o [dec n] [⟨1, pos, n, [], [], [], [], [], []⟩] := by
  intro t r h1 _
  obtain ⟨a, b, c⟩ := dec_all n
  obtain ⟨k1, k2⟩ := digit_kd a b
  rw [sg_one k2, k1] at h1
  obtain ⟨u, t1, rfl, u1, u2, u3⟩ := sig_cons h1
  have e := sig_nil u3
  subst e
  refine ⟨[⟨1, u.pos, n, [], [], [], [], [], []⟩], 1, by simp [eL], ?_⟩
  show ex 1 5 o 0 [] (u :: r) = _
  rw [ex, if_neg (by omega), if_pos rfl, if_neg (by omega), kind_tok, if_pos u1]
  have : number top (u :: r) = .ok (n, r) := by
    unfold number
    rw [kind_tok, tx_tok, u2, c, if_neg (by omega), if_neg (by omega), stp_tok u r (by omega)]
  rw [this]
  rfl
/- a REF -/
theorem refT_tok {m n : Bs} (h : okr m n) {t r : List Tok} (ht : sig t = sg (ref m n)) (hr : tx r ≠ mDot) : refT (t ++ r) = .ok ((m, n), r) ∧ ∃ u l, t = u :: l ∧ u.kind = 1 ∧ u.text ∉ kept := by
  obtain ⟨h1, h2⟩ := h
  obtain ⟨n1, n2⟩ := okn_kd h2
  unfold ref at ht
  unfold refT
  split at ht
  · rename_i hm
    subst hm
    rw [sg_one n2, n1] at ht
    obtain ⟨u, t1, rfl, u1, u2, u3⟩ := sig_cons ht
    have e := sig_nil u3
    subst e
    refine ⟨?_, u, [], rfl, u1, by rw [u2]; exact h2.2.1⟩
    show (do let (n1, r1) ← name (u :: r); _) = _
    rw [name_tok h2 u1 u2]
    simp only [bind, Except.bind]
    rw [if_neg hr]
  · rename_i hm
    have h1' : okn m := h1.resolve_left hm
    obtain ⟨m1, m2⟩ := okn_kd h1'
    rw [sg_cons m2, sg_cons (by decide), sg_one n2, m1, n1] at ht
    obtain ⟨u, t1, rfl, u1, u2, u3⟩ := sig_cons ht
    obtain ⟨v, t2, rfl, v1, v2, v3⟩ := sig_cons u3
    obtain ⟨y, t3, rfl, y1, y2, y3⟩ := sig_cons v3
    have e := sig_nil y3
    subst e
    have v1' : v.kind = 3 := v1
    refine ⟨?_, u, [v, y], rfl, u1, by rw [u2]; exact h1'.2.1⟩
    show (do let (n1, r1) ← name (u :: v :: y :: r); _) = _
    rw [name_tok h1' u1 u2]
    simp only [bind, Except.bind]
    rw [tx_tok, if_pos v2, stp_tok v _ (by omega), name_tok h2 y1 y2]
theorem ref_one {m n : Bs} (h : okr m n) {t : List Tok} (ht : sig t = sg (ref m n)) (r : List Tok) : (hd (t ++ r)).kind = 1 ∧ tx (t ++ r) ≠ mMinus ∧ tx (t ++ r) ≠ wNot ∧ tx (t ++ r) ≠ mLp := by
  obtain ⟨_, u, l, rfl, u1, u2⟩ := refT_tok h ht (r := []) (by decide)
  have hw : ∃ n', okn n' ∧ u.text = n' := by
    obtain ⟨h1, h2⟩ := h
    obtain ⟨n1, n2⟩ := okn_kd h2
    unfold ref at ht
    split at ht
    · rw [sg_one n2] at ht
      obtain ⟨u', t1, e, _, q, _⟩ := sig_cons ht
      cases e
      exact ⟨n, h2, q⟩
    · rename_i hm
      have h1' : okn m := h1.resolve_left hm
      obtain ⟨m1, m2⟩ := okn_kd h1'
      rw [sg_cons m2] at ht
      obtain ⟨u', t1, e, _, q, _⟩ := sig_cons ht
      cases e
      exact ⟨m, h1', q⟩
  obtain ⟨n', hn', e⟩ := hw
  obtain ⟨⟨c, l', e2, hc, _⟩, hk, _⟩ := hn'
  have hx : tx ((u :: l) ++ r) = c :: l' := by rw [← e2, ← e]; rfl
  refine ⟨u1, ?_, ?_, ?_⟩
  · rw [hx]; intro e3; injection e3 with e3; subst e3; revert hc; decide
  · rw [hx, ← e2]; intro e3; subst e3; exact hk (by decide)
  · rw [hx]; intro e3; injection e3 with e3; subst e3; revert hc; decide
theorem ex5_6 {f o : Nat} {r : List Tok} (ho : o ≤ 10) (h : (hd r).kind = 1 ∧ tx r ≠ mMinus ∧ tx r ≠ wNot ∧ tx r ≠ mLp) : ex (f + 1) 5 o 0 [] r = ex f 6 o 0 [] r := by
  obtain ⟨h1, h2, h3, h4⟩ := h
  rw [ex, if_neg (by omega), if_pos rfl, if_neg (by omega), if_neg (by omega), if_neg (by simp [h2, h3]), if_neg h4]
/- at 6: what begins with a REF -/
def K6 (o : Nat) (ps : List Bs) (x : List X) : Prop := ∀ t r, sig t = sg ps → tx r ≠ mDot → tx r ≠ mLb → tx r ≠ mLp → ∃ x' f, eL x' = eL x ∧ ex f 6 o 0 [] (t ++ r) = .ok (x', r)
theorem K6.use {o pos : Nat} {m n : Bs} (h : okr m n) : K6 o (ref m n) [⟨2, pos, 0, m, n, [], [], [], []⟩] := by
  intro t r h1 d1 d2 d3
  refine ⟨[⟨2, at' (t ++ r), 0, m, n, [], [], [], []⟩], 1, by simp [eL], ?_⟩
  rw [ex6, (refT_tok h h1 d1).1]
  simp only [bind, Except.bind, behind]
  rw [if_neg d2, if_neg d3]
theorem K6.index {o pos : Nat} {m n : Bs} {ps : List Bs} {x : List X} (h : okr m n) (hx : Kx 0 (o + 1) ps x) : K6 o (ref m n ++ [mLb] ++ ps ++ [mRb]) [⟨3, pos, 0, m, n, [], x, [], []⟩] := by
  intro t r h1 d1 d2 d3
  rw [sg_app, sg_app, sg_app, sg_one (b := mLb) (by decide), sg_one (b := mRb) (by decide)] at h1
  obtain ⟨t1, t2, rfl, h2, h3⟩ := sig_app h1
  obtain ⟨t3, t4, rfl, h4, h5⟩ := sig_app h2
  obtain ⟨t5, t6, rfl, h6, h7⟩ := sig_app h4
  obtain ⟨u, t7, rfl, u1, u2, u3⟩ := sig_cons h7
  obtain ⟨v, t8, rfl, v1, v2, v3⟩ := sig_cons h3
  have e7 := sig_nil u3
  have e8 := sig_nil v3
  subst e7 e8
  have k1 : u.kind = 3 := u1
  have k2 : v.kind = 3 := v1
  obtain ⟨x', f, q1, q2⟩ := hx t4 (v :: r) h5 (Fol.of v2 (by decide))
  have e : ((t5 ++ [u]) ++ t4 ++ [v]) ++ r = t5 ++ (u :: (t4 ++ v :: r)) := by simp
  rw [e]
  refine ⟨[⟨3, at' (t5 ++ (u :: (t4 ++ v :: r))), 0, m, n, [], x', [], []⟩], f + 1, by simp [eL, q1], ?_⟩
  rw [ex6, (refT_tok h h6 (by rw [tx_tok, u2]; decide)).1]
  simp only [bind, Except.bind, behind]
  rw [tx_tok, if_pos u2, stp_tok u _ (by omega), q2]
  simp only
  rw [want_tok (by omega) v2]
def K7 (o : Nat) (ps : List Bs) (x : List X) : Prop := ∀ t r, sig t = sg ps → tx r = mRp → ∃ x' f, eL x' = eL x ∧ ex f 7 o 0 [] (t ++ r) = .ok (x', r)
theorem K6.call0 {o pos : Nat} {m n : Bs} (h : okr m n) : K6 o (ref m n ++ [mLp] ++ [] ++ [mRp]) [⟨6, pos, 0, m, n, [], [], [], []⟩] := by
  intro t r h1 d1 d2 d3
  rw [sg_app, sg_app, sg_app, sg_one (b := mLp) (by decide), sg_one (b := mRp) (by decide)] at h1
  obtain ⟨t1, t2, rfl, h2, h3⟩ := sig_app h1
  obtain ⟨t3, t4, rfl, h4, h5⟩ := sig_app h2
  obtain ⟨t5, t6, rfl, h6, h7⟩ := sig_app h4
  obtain ⟨u, t7, rfl, u1, u2, u3⟩ := sig_cons h7
  obtain ⟨v, t8, rfl, v1, v2, v3⟩ := sig_cons h3
  have e7 := sig_nil u3
  have e8 := sig_nil v3
  have e4 : t4 = [] := sig_nil h5
  subst e7 e8 e4
  have k1 : u.kind = 3 := u1
  have k2 : v.kind = 3 := v1
  have e : ((t5 ++ [u]) ++ [] ++ [v]) ++ r = t5 ++ (u :: v :: r) := by simp
  rw [e]
  refine ⟨[⟨6, at' (t5 ++ (u :: v :: r)), 0, m, n, [], [], [], []⟩], 1, by simp [eL], ?_⟩
  rw [ex6, (refT_tok h h6 (by rw [tx_tok, u2]; decide)).1]
  simp only [bind, Except.bind, behind]
  rw [tx_tok, u2, if_neg (by decide), if_pos rfl, stp_tok u _ (by omega), tx_tok, if_pos v2, stp_tok v _ (by omega)]
theorem K6.call {o pos : Nat} {m n : Bs} {ps : List Bs} {x : List X} (h : okr m n) (hx : K7 o ps x) (hne : ∀ t r, sig t = sg ps → tx (t ++ r) ≠ mRp) : K6 o (ref m n ++ [mLp] ++ ps ++ [mRp]) [⟨6, pos, 0, m, n, [], [], [], x⟩] := by
  intro t r h1 d1 d2 d3
  rw [sg_app, sg_app, sg_app, sg_one (b := mLp) (by decide), sg_one (b := mRp) (by decide)] at h1
  obtain ⟨t1, t2, rfl, h2, h3⟩ := sig_app h1
  obtain ⟨t3, t4, rfl, h4, h5⟩ := sig_app h2
  obtain ⟨t5, t6, rfl, h6, h7⟩ := sig_app h4
  obtain ⟨u, t7, rfl, u1, u2, u3⟩ := sig_cons h7
  obtain ⟨v, t8, rfl, v1, v2, v3⟩ := sig_cons h3
  have e7 := sig_nil u3
  have e8 := sig_nil v3
  subst e7 e8
  have k1 : u.kind = 3 := u1
  have k2 : v.kind = 3 := v1
  obtain ⟨x', f, q1, q2⟩ := hx t4 (v :: r) h5 v2
  have e : ((t5 ++ [u]) ++ t4 ++ [v]) ++ r = t5 ++ (u :: (t4 ++ v :: r)) := by simp
  rw [e]
  refine ⟨[⟨6, at' (t5 ++ (u :: (t4 ++ v :: r))), 0, m, n, [], [], [], x'⟩], f + 1, by simp [eL, q1], ?_⟩
  rw [ex6, (refT_tok h h6 (by rw [tx_tok, u2]; decide)).1]
  simp only [bind, Except.bind, behind]
  rw [tx_tok, u2, if_neg (by decide), if_pos rfl, stp_tok u _ (by omega), if_neg (hne _ _ h5), q2]
  simp only
  rw [want_tok (by omega) v2]
theorem K6.to5 {o : Nat} {m n : Bs} {ps : List Bs} {x : List X} (ho : o ≤ 10) (hm : okr m n) (h : K6 o (ref m n ++ ps) x) : Kx 5 o (ref m n ++ ps) x := by
  intro t r h1 h2
  obtain ⟨x', f, q1, q2⟩ := h t r h1 h2.d1 h2.d2 h2.d3
  refine ⟨x', f + 1, q1, ?_⟩
  have h1' := h1
  rw [sg_app] at h1'
  obtain ⟨t1, t2, rfl, h3, h4⟩ := sig_app h1'
  rw [List.append_assoc] at q2 ⊢
  rw [ex5_6 ho (ref_one hm h3 _)]
  exact q2
/- an Un -/
theorem Kx.un {o pos : Nat} {op : Bs} {ps bl : List Bs} {x : List X} (ho : o ≤ 10) (hop : op = mMinus ∨ op = wNot) (hbl : sg bl = []) (h : Kx 5 (o + 1) ps x) : Kx 5 o ([op] ++ bl ++ ps) [⟨4, pos, 0, [], [], op, x, [], []⟩] := by
  intro t r h1 h2
  have hk : isB op = false := by rcases hop with rfl | rfl <;> decide
  have hk2 : kd op ≠ 0 ∧ kd op ≠ 2 := by rcases hop with rfl | rfl <;> decide
  rw [sg_app, sg_app, sg_one hk, hbl, List.append_nil] at h1
  obtain ⟨t1, t2, rfl, h3, h4⟩ := sig_app h1
  obtain ⟨u, t3, rfl, u1, u2, u3⟩ := sig_cons h3
  have e := sig_nil u3
  subst e
  obtain ⟨x', f, q1, q2⟩ := h t2 r h4 h2
  refine ⟨[⟨4, u.pos, 0, [], [], op, x', [], []⟩], f + 1, by simp [eL, q1], ?_⟩
  show ex (f + 1) 5 o 0 [] (u :: (t2 ++ r)) = _
  rw [ex, if_neg (by omega), if_pos rfl, if_neg (by omega), kind_tok, if_neg (by rw [u1]; exact hk2.2), tx_tok, u2, if_pos hop, stp_tok u _ (by rw [u1]; exact hk2.1), q2]
  rfl
/- a Bin -/
theorem lvl_op {op : Bs} (h : lvl op < 5) : isB op = false ∧ kd op ≠ 0 ∧ op ≠ mDot ∧ op ≠ mLb ∧ op ≠ mLp := by
  unfold lvl at h
  by_cases a1 : op = wOr
  · subst a1; decide
  by_cases a2 : op = wAnd
  · subst a2; decide
  rw [if_neg a1, if_neg a2] at h
  by_cases a3 : op = mEq ∨ op = mNe ∨ op = mLt ∨ op = mLe ∨ op = mGt ∨ op = mGe
  · rcases a3 with rfl | rfl | rfl | rfl | rfl | rfl <;> decide
  rw [if_neg a3] at h
  by_cases a4 : op = mPlus ∨ op = mMinus
  · rcases a4 with rfl | rfl <;> decide
  rw [if_neg a4] at h
  by_cases a5 : op = mStar ∨ op = wDiv ∨ op = wMod
  · rcases a5 with rfl | rfl | rfl <;> decide
  rw [if_neg a5] at h
  omega
theorem Lx.bin {o pos : Nat} {op : Bs} {pl pr : List Bs} {x y : List X} (hop : lvl op < 5) (hl : Lx (lvl op) o pl x) (hr : Kx (lvl op + 1) o pr y) : Lx (lvl op) o (pl ++ [sp, op, sp] ++ pr) [⟨5, pos, 0, [], [], op, x, y, []⟩] := by
  intro t r h1 h2
  obtain ⟨k1, k2, k3, k4, k5⟩ := lvl_op hop
  rw [sg_app, sg_app, sg_blank (b := sp) (by decide), sg_cons k1, sg_blank (b := sp) (by decide)] at h1
  obtain ⟨t1, t2, rfl, h3, h4⟩ := sig_app h1
  obtain ⟨t3, t4, rfl, h5, h6⟩ := sig_app h3
  obtain ⟨u, t5, rfl, u1, u2, u3⟩ := sig_cons h6
  have e := sig_nil u3
  subst e
  have e : ((t3 ++ [u]) ++ t2) ++ r = t3 ++ (u :: (t2 ++ r)) := by simp
  rw [e]
  obtain ⟨x', q1, q2⟩ := hl t3 (u :: (t2 ++ r)) h5 (Fol.of u2 ⟨Or.inl (by omega), k3, k4, k5⟩)
  obtain ⟨y', f2, q3, q4⟩ := hr t2 r h4 h2
  refine ⟨[⟨5, at' (t3 ++ (u :: (t2 ++ r))), 0, [], [], op, x', y', []⟩], by simp [eL, q1, q3], fun f res hres hx => ?_⟩
  refine q2 (max f f2 + 1) res hres ?_
  rw [ex, if_neg (by omega), if_neg (by omega), if_neg (by omega), if_neg (by omega), tx_tok, u2, if_pos (by omega), stp_tok u _ (by rw [u1]; exact k2), show 10 + lvl op - 10 + 1 = lvl op + 1 by omega, ex_up (ok_ne _) q4 (show f2 ≤ max f f2 by omega)]
  simp only [bind, Except.bind]
  exact ex_up hres hx (by omega)
end Tp
/- What is written is read: EXPRs, all. -/
namespace Tp
theorem px_cons (x : X) (xs : List X) : px (x :: xs) = pxs [x] :: px xs := by
  obtain ⟨code, pos, n, m, nm, op, le, ri, ar⟩ := x
  match code with
  | 0 => simp [pxs, px]
  | 1 => simp [pxs, px]
  | 2 => simp [pxs, px]
  | 3 => simp [pxs, px]
  | 4 => simp [pxs, px]
  | 5 => simp [pxs, px]
  | 6 => simp [pxs, px]
  | k + 7 => simp [pxs, px]
theorem pxs_1 (pos n : Nat) (m nm op : Bs) (le ri ar : List X) : pxs [⟨1, pos, n, m, nm, op, le, ri, ar⟩] = [dec n] := by simp [pxs, px]
theorem pxs_2 (pos n : Nat) (m nm op : Bs) (le ri ar : List X) : pxs [⟨2, pos, n, m, nm, op, le, ri, ar⟩] = ref m nm := by simp [pxs, px]
theorem pxs_3 (pos n : Nat) (m nm op : Bs) (le ri ar : List X) : pxs [⟨3, pos, n, m, nm, op, le, ri, ar⟩] = ref m nm ++ [mLb] ++ pxs le ++ [mRb] := by simp [pxs, px]
theorem pxs_4 (pos n : Nat) (m nm op : Bs) (le ri ar : List X) : pxs [⟨4, pos, n, m, nm, op, le, ri, ar⟩] = [op] ++ (if op = wNot then [sp] else []) ++ held (isLow 5 le) (pxs le) := by simp [pxs, px]
theorem pxs_5 (pos n : Nat) (m nm op : Bs) (le ri ar : List X) : pxs [⟨5, pos, n, m, nm, op, le, ri, ar⟩] = held (isLow (lvl op) le) (pxs le) ++ [sp, op, sp] ++ held (isLow (lvl op + 1) ri) (pxs ri) := by simp [pxs, px]
theorem pxs_6 (pos n : Nat) (m nm op : Bs) (le ri ar : List X) : pxs [⟨6, pos, n, m, nm, op, le, ri, ar⟩] = ref m nm ++ [mLp] ++ commas (px ar) ++ [mRp] := by simp [pxs, px]
theorem sz_left (x : X) : SizeOf.sizeOf x.left < SizeOf.sizeOf x := by obtain ⟨⟩ := x; simp; omega
theorem sz_right (x : X) : SizeOf.sizeOf x.right < SizeOf.sizeOf x := by obtain ⟨⟩ := x; simp; omega
theorem sz_args (x : X) : SizeOf.sizeOf x.args < SizeOf.sizeOf x := by obtain ⟨⟩ := x; simp; omega
theorem sz1 (x : X) : SizeOf.sizeOf x < SizeOf.sizeOf [x] := by simp; omega
theorem px_first : ∀ (N : Nat) (x : X), SizeOf.sizeOf x ≤ N → WX [x] → ∃ b l, pxs [x] = b :: l ∧ isB b = false ∧ b ≠ mRp ∧ b ≠ mEq := by
  intro N
  have href : ∀ m nm : Bs, okr m nm → ∀ q : List Bs, ∃ b l, ref m nm ++ q = b :: l ∧ isB b = false ∧ b ≠ mRp ∧ b ≠ mEq := by
    intro m nm h q
    have hk : ∀ n, okn n → isB n = false ∧ n ≠ mRp ∧ n ≠ mEq := by
      intro n hn
      obtain ⟨a, b⟩ := okn_kd hn
      refine ⟨b, ?_, ?_⟩ <;> (intro e; subst e; revert a; decide)
    unfold ref
    split
    · exact ⟨nm, q, rfl, hk nm h.2⟩
    · rename_i hm
      exact ⟨m, _, rfl, hk m (h.1.resolve_left hm)⟩
  induction N with
  | zero => intro x h; obtain ⟨⟩ := x; simp at h
  | succ N ih =>
    intro x hs hw
    have s1 := sz_left x
    have s2 := sz_right x
    have s3 := sz_args x
    obtain ⟨code, pos, n, m, nm, op, le, ri, ar⟩ := x
    rw [WX] at hw
    simp only at s1 s2 s3
    rcases hw.1 with ⟨rfl, h1⟩ | ⟨rfl, h1⟩ | ⟨rfl, h1⟩ | ⟨rfl, h1⟩ | ⟨rfl, h1⟩ | ⟨rfl, h1⟩
    · rw [pxs_1]
      obtain ⟨a, b, _⟩ := dec_all n
      obtain ⟨c, d⟩ := digit_kd a b
      refine ⟨_, _, rfl, d, ?_, ?_⟩ <;> (intro e; rw [e] at c; revert c; decide)
    · rw [pxs_2]
      simpa using href m nm h1.2.1 []
    · rw [pxs_3, List.append_assoc, List.append_assoc]
      exact href m nm h1.2.1 _
    · rw [pxs_4]
      obtain ⟨_, _, _, h5, _⟩ := h1
      exact ⟨op, _, rfl, by rcases h5 with rfl | rfl <;> decide, by rcases h5 with rfl | rfl <;> decide, by rcases h5 with rfl | rfl <;> decide⟩
    · rw [pxs_5]
      obtain ⟨_, _, _, h5, h6, h7, _⟩ := h1
      unfold held
      split
      · exact ⟨mLp, _, rfl, by decide, by decide, by decide⟩
      · obtain ⟨y, rfl⟩ := len1 h7
        obtain ⟨b, l, e, q⟩ := ih y (by have := sz1 y; omega) h6
        rw [e]
        exact ⟨b, _, rfl, q⟩
    · rw [pxs_6, List.append_assoc, List.append_assoc]
      exact href m nm h1.2.1 _
theorem commas_cons (a b : List Bs) (l : List (List Bs)) : commas (a :: b :: l) = a ++ [mComma, sp] ++ commas (b :: l) := by rw [commas]; simp
theorem first_ne {x : X} (h : WX [x]) (q : List Bs) {t r : List Tok} (ht : sig t = sg (pxs [x] ++ q)) : tx (t ++ r) ≠ mRp := by
  obtain ⟨b, l, e, h1, h2, _⟩ := px_first _ x (Nat.le_refl _) h
  rw [e, List.cons_append, sg_cons h1] at ht
  obtain ⟨u, t', rfl, _, u2, _⟩ := sig_cons ht
  show u.text ≠ mRp
  rw [u2]; exact h2
def Mx (N : Nat) : Prop := ∀ x : X, SizeOf.sizeOf x ≤ N → WX [x] → ∀ o, o + DX [x] ≤ 10 → (∀ k, k ≤ lv [x] → Kx k o (pxs [x]) [x]) ∧ (lv [x] < 5 → Lx (lv [x]) o (pxs [x]) [x])
theorem eL_cons {x y : List X} {a b : List X} (hx : eL x = eL a) (hy : eL y = eL b) : eL (x ++ y) = eL (a ++ b) := by
  have : ∀ l m : List X, eL (l ++ m) = eL l ++ eL m := by
    intro l
    induction l with
    | nil => intro m; simp [eL]
    | cons z zs ih => intro m; obtain ⟨⟩ := z; rw [List.cons_append, eL, eL, ih]; rfl
  rw [this, this, hx, hy]
theorem K7.all {N : Nat} (hM : Mx N) (o : Nat) : ∀ (l : List X) (x : X), SizeOf.sizeOf (x :: l) ≤ N → WX (x :: l) → o + 1 + DX (x :: l) ≤ 10 → K7 o (commas (px (x :: l))) (x :: l) := by
  intro l
  induction l with
  | nil =>
    intro x hs hw hd t r h1 h2
    rw [px_cons, px, commas] at h1
    obtain ⟨x', f, q1, q2⟩ := (hM x (by simp at hs; omega) hw (o + 1) hd).1 0 (by omega) t r h1 ⟨Or.inr (by rw [h2]; decide), by rw [h2]; decide, by rw [h2]; decide, by rw [h2]; decide⟩
    refine ⟨x', f + 1, q1, ?_⟩
    rw [ex, if_neg (by omega), if_neg (by omega), if_neg (by omega), if_pos rfl, q2]
    simp only [bind, Except.bind]
    rw [if_neg (by rw [h2]; decide)]
  | cons y l ih =>
    intro x hs hw hd t r h1 h2
    have hx1 : WX [x] := by obtain ⟨⟩ := x; rw [WX] at hw ⊢; exact ⟨hw.1, WX_nil⟩
    have hx2 : WX (y :: l) := by obtain ⟨⟩ := x; rw [WX] at hw; exact hw.2
    have hd12 : DX (x :: y :: l) = max (DX [x]) (DX (y :: l)) := DX_app [x] (y :: l)
    rw [px_cons, px_cons, commas_cons, ← px_cons, sg_app, sg_app, sg_cons (b := mComma) (by decide), sg_blank (b := sp) (by decide)] at h1
    obtain ⟨t1, t2, rfl, h3, h4⟩ := sig_app h1
    obtain ⟨t3, t4, rfl, h5, h6⟩ := sig_app h3
    obtain ⟨u, t5, rfl, u1, u2, u3⟩ := sig_cons h6
    have e := sig_nil u3
    subst e
    have e : ((t3 ++ [u]) ++ t2) ++ r = t3 ++ (u :: (t2 ++ r)) := by simp
    rw [e]
    have u1' : u.kind = 3 := u1
    obtain ⟨x', f, q1, q2⟩ := (hM x (by simp at hs; omega) hx1 (o + 1) (by omega)).1 0 (by omega) t3 (u :: (t2 ++ r)) h5 (Fol.of u2 (by decide))
    obtain ⟨l', g, q3, q4⟩ := ih y (by simp at hs ⊢; omega) hx2 (by omega) t2 r h4 h2
    refine ⟨x' ++ l', max f g + 1, eL_cons (a := [x]) (b := y :: l) q1 q3, ?_⟩
    rw [ex, if_neg (by omega), if_neg (by omega), if_neg (by omega), if_pos rfl, ex_up (ok_ne _) q2 (show f ≤ max f g by omega)]
    simp only [bind, Except.bind]
    rw [tx_tok, if_pos u2, stp_tok u _ (by omega), ex_up (ok_ne _) q4 (show g ≤ max f g by omega)]
theorem low_lv {k : Nat} {x : X} (h : isLow k [x] = false) : k ≤ lv [x] ∨ lv [x] = 5 := by
  unfold isLow at h
  simp only [Tp.lv]
  by_cases h5 : x.code = 5
  · simp [h5] at h ⊢; omega
  · simp [h5]
theorem lv_le (x : X) : lv [x] ≤ 5 := by
  simp only [lv]
  split
  · exact lvl_le _
  · omega
theorem Mx.held {N : Nat} (hM : Mx N) {x : X} (hs : SizeOf.sizeOf x ≤ N) (hw : WX [x]) {k o : Nat} (hk : k ≤ 5) (hd : o + (lowN k [x] + DX [x]) ≤ 10) : Kx k o (held (isLow k [x]) (pxs [x])) [x] := by
  unfold Tp.held
  by_cases hl : isLow k [x] = true
  · rw [if_pos hl]
    have e : lowN k [x] = 1 := by simp [lowN, hl]
    exact (Kx.paren (by omega) ((hM x hs hw (o + 1) (by omega)).1 0 (by omega))).to hk (by omega)
  · rw [if_neg hl]
    have hl' : isLow k [x] = false := by simpa using hl
    have := low_lv hl'
    exact (hM x hs hw o (by omega)).1 k (by omega)
theorem Mx.heldL {N : Nat} (hM : Mx N) {x : X} (hs : SizeOf.sizeOf x ≤ N) (hw : WX [x]) {k o : Nat} (hk : k < 5) (hd : o + (lowN k [x] + DX [x]) ≤ 10) : Lx k o (Tp.held (isLow k [x]) (pxs [x])) [x] := by
  unfold Tp.held
  by_cases hl : isLow k [x] = true
  · rw [if_pos hl]
    have e : lowN k [x] = 1 := by simp [lowN, hl]
    exact Kx.toL hk ((Kx.paren (by omega) ((hM x hs hw (o + 1) (by omega)).1 0 (by omega))).to (by omega) (by omega))
  · rw [if_neg hl]
    have hl' : isLow k [x] = false := by simpa using hl
    have hv := low_lv hl'
    by_cases he : lv [x] = k
    · have := (hM x hs hw o (by omega)).2 (by omega)
      rw [he] at this
      exact this
    · exact Kx.toL hk ((hM x hs hw o (by omega)).1 (k + 1) (by omega))
theorem mx : ∀ N, Mx N := by
  intro N
  induction N with
  | zero => intro x h; obtain ⟨⟩ := x; simp at h
  | succ N ih =>
    intro x hs hw o hd
    have s1 := sz_left x
    have s2 := sz_right x
    have s3 := sz_args x
    have hfive : ∀ ps, lv [x] = 5 → Kx 5 o ps [x] → (∀ k, k ≤ lv [x] → Kx k o ps [x]) ∧ (lv [x] < 5 → Lx (lv [x]) o ps [x]) := fun ps e h => ⟨fun k hk => h.to (by omega) (by omega), fun h => by omega⟩
    obtain ⟨code, pos, n, m, nm, op, le, ri, ar⟩ := x
    rw [WX] at hw
    rw [DX1] at hd
    simp only at s1 s2 s3 hd
    rcases hw.1 with ⟨rfl, h1⟩ | ⟨rfl, h1⟩ | ⟨rfl, h1⟩ | ⟨rfl, h1⟩ | ⟨rfl, h1⟩ | ⟨rfl, h1⟩
    · obtain ⟨h2, rfl, rfl, rfl, rfl, rfl, rfl⟩ := h1
      simp at hd
      rw [pxs_1]
      exact hfive _ (by simp [lv]) (Kx.num hd h2)
    · obtain ⟨rfl, h2, rfl, rfl, rfl, rfl⟩ := h1
      simp at hd
      rw [pxs_2]
      have := K6.to5 (ps := []) (x := [⟨2, pos, 0, m, nm, [], [], [], []⟩]) hd h2 (by simpa using K6.use h2)
      rw [List.append_nil] at this
      exact hfive _ (by simp [lv]) this
    · obtain ⟨rfl, h2, rfl, h3, h4, rfl, rfl⟩ := h1
      simp at hd
      rw [pxs_3]
      obtain ⟨y, rfl⟩ := len1 h4
      have z1 := sz1 y
      have hy := (ih y (by omega) h3 (o + 1) (by omega)).1 0 (by omega)
      have := K6.index (pos := pos) h2 hy
      rw [List.append_assoc, List.append_assoc] at this ⊢
      exact hfive _ (by simp [lv]) (K6.to5 (by omega) h2 this)
    · obtain ⟨rfl, rfl, rfl, h2, h3, h4, rfl, rfl⟩ := h1
      simp at hd
      rw [pxs_4]
      obtain ⟨y, rfl⟩ := len1 h4
      have z1 := sz1 y
      have hy := Mx.held ih (x := y) (k := 5) (o := o + 1) (by omega) h3 (by omega) (by omega)
      exact hfive _ (by simp [lv]) (Kx.un (by omega) h2 (by split <;> simp [sg, sp, isB, blank]) hy)
    · obtain ⟨rfl, rfl, rfl, h2, h3, h4, h5, h6, rfl⟩ := h1
      simp at hd
      rw [pxs_5]
      obtain ⟨y, rfl⟩ := len1 h4
      obtain ⟨z, rfl⟩ := len1 h6
      have z1 := sz1 y
      have z2 := sz1 z
      have hL := Mx.heldL ih (x := y) (k := lvl op) (o := o) (by omega) h3 h2 (by omega)
      have hR := Mx.held ih (x := z) (k := lvl op + 1) (o := o) (by omega) h5 (by omega) (by omega)
      have hB := Lx.bin (pos := pos) h2 hL hR
      have e : lv [(⟨5, pos, 0, [], [], op, [y], [z], []⟩ : X)] = lvl op := by simp [lv]
      rw [e]
      exact ⟨fun k hk => (Lx.toK h2 hB).to hk (by omega), fun _ => hB⟩
    · obtain ⟨rfl, h2, rfl, rfl, rfl, h3⟩ := h1
      simp at hd
      rw [pxs_6]
      refine hfive _ (by simp [lv]) ?_
      cases ar with
      | nil =>
        have := K6.call0 (o := o) (pos := pos) h2
        simp at hd
        rw [px, commas]
        rw [List.append_assoc, List.append_assoc] at this ⊢
        exact K6.to5 (by omega) h2 this
      | cons y l =>
        simp at hd
        have h7 := K7.all ih o l y (by omega) h3 (by omega)
        have hy : WX [y] := by obtain ⟨⟩ := y; rw [WX] at h3 ⊢; exact ⟨h3.1, WX_nil⟩
        have := K6.call (pos := pos) h2 h7 (by
          intro t r ht
          cases l with
          | nil => rw [px_cons, px, commas] at ht; exact first_ne hy [] (by simpa using ht)
          | cons z l => rw [px_cons, px_cons, commas_cons, List.append_assoc] at ht; exact first_ne hy _ ht)
        rw [List.append_assoc, List.append_assoc] at this ⊢
        exact K6.to5 (by omega) h2 this
end Tp
/- What was read is well made: STMTs. -/
namespace Tp
def ev (v : List X) : Prop := WX v ∧ v.length = 1 ∧ DX v ≤ 10
def WS : List S → Prop
  | [] => True
  | ⟨code, _, nm, ix, v, th, el⟩ :: ss =>
    (code = 1 ∧ okn nm ∧ (ix = [] ∨ WX ix ∧ ix.length = 1 ∧ 1 + DX ix ≤ 10) ∧ ev v ∧ th = [] ∧ el = [] ∨
     code = 2 ∧ nm = [] ∧ ix = [] ∧ ev v ∧ WS th ∧ WS el ∨
     code = 3 ∧ nm = [] ∧ ix = [] ∧ ev v ∧ WS th ∧ el = [] ∨
     (code = 4 ∨ code = 5) ∧ nm = [] ∧ ix = [] ∧ ev v ∧ th = [] ∧ el = [] ∨
     code = 6 ∧ nm = [] ∧ ix = [] ∧ ev v ∧ codeOf v = 6 ∧ th = [] ∧ el = []) ∧ WS ss
def DS : List S → Nat
  | [] => 0
  | ⟨code, _, _, _, _, th, el⟩ :: ss => max (if code = 2 ∨ code = 3 then 1 + max (DS th) (DS el) else 0) (DS ss)
def NS : List S → Nat
  | [] => 0
  | ⟨code, _, _, ix, v, th, el⟩ :: ss =>
    (if code = 1 then 3 + (if ix.isEmpty then 0 else 2 + NX ix) + NX v else if code = 2 then 4 + NX v + NS th + (if el.isEmpty then 0 else 1 + NS el) else if code = 3 then 4 + NX v + NS th else if code = 6 then 1 + NX v else 2 + NX v) + NS ss
theorem WS_nil : WS [] := by rw [WS]; trivial
theorem WS_app : ∀ (l m : List S), WS l → WS m → WS (l ++ m) := by
  intro l
  induction l with
  | nil => intro m _ h; exact h
  | cons x xs ih => intro m h k; obtain ⟨⟩ := x; rw [List.cons_append, WS]; rw [WS] at h; exact ⟨h.1, ih m h.2 k⟩
theorem DS_app : ∀ (l m : List S), DS (l ++ m) = max (DS l) (DS m) := by
  intro l
  induction l with
  | nil => intro m; simp [DS]
  | cons x xs ih => intro m; obtain ⟨⟩ := x; rw [List.cons_append, DS, DS, ih]; omega
theorem NS_app : ∀ (l m : List S), NS (l ++ m) = NS l + NS m := by
  intro l
  induction l with
  | nil => intro m; simp [NS]
  | cons x xs ih => intro m; obtain ⟨⟩ := x; rw [List.cons_append, NS, NS, ih]; omega
theorem DS1 (s : S) : DS [s] = if s.code = 2 ∨ s.code = 3 then 1 + max (DS s.thn) (DS s.els) else 0 := by
  obtain ⟨⟩ := s; rw [DS, DS]; simp
theorem NS1 (s : S) : NS [s] = if s.code = 1 then 3 + (if s.index.isEmpty then 0 else 2 + NX s.index) + NX s.value else if s.code = 2 then 4 + NX s.value + NS s.thn + (if s.els.isEmpty then 0 else 1 + NS s.els) else if s.code = 3 then 4 + NX s.value + NS s.thn else if s.code = 6 then 1 + NX s.value else 2 + NX s.value := by
  obtain ⟨⟩ := s; rw [NS, NS]; simp
structure Ry (k b : Nat) (l : List S) (r r' : List Tok) : Prop where
  ws : WS l
  one : 2 ≤ k → l.length = 1
  ds : b + DS l ≤ 10
  ns : k ≤ 2 → NS l + wt r' ≤ wt r
  n3 : k = 3 → NS l + wt r' + (tx r).length ≤ wt r + 3
theorem ex0_ev {f : Nat} {r r' : List Tok} {x : List X} (hT : Tks r) (h : ex f 0 0 0 [] r = .ok (x, r')) : ev x ∧ NX x + wt r' ≤ wt r ∧ r' <:+ r := by
  obtain ⟨q, _⟩ := ex_rx f 0 0 0 [] r x r' hT (by omega) (by omega) (by omega) h
  have q4 := q.dx (by omega)
  have q5 := q.nx (by omega) (by omega)
  exact ⟨⟨q.wx, q.one (by omega), by omega⟩, by omega, (ex_lt f _ _ _ _ _ _ _ hT.gd h).1⟩
theorem want_all {s : Bs} {r r' : List Tok} (hT : Tks r) (h : want s r = .ok r') : wt r' + s.length = wt r ∧ Tks r' := by
  obtain ⟨rfl, h2⟩ := want_wt hT h
  exact ⟨h2, hT.suf (stp_suf r)⟩
theorem sx_ry (f : Nat) : ∀ k b r l r', Tks r → k ≤ 3 → (k ≠ 0 → b ≤ 10) → (k = 3 → tx r ≠ []) → sx f k b r = .ok (l, r') → Ry k b l r r' := by
  induction f with
  | zero => intro k b r l r' _ _ _ _ h; rw [sx] at h; cases h
  | succ f ih =>
    intro k b r l r' hT hk hb h3 h
    have T0 := hT.suf (stp_suf r)
    have w0 := wt_step hT
    rw [sx] at h
    split at h
    · rename_i e0
      split at h
      · cases h
      · have q := ih 1 b r l r' hT (by omega) (by omega) (by omega) h
        exact ⟨q.ws, fun e => by omega, q.ds, fun _ => q.ns (by omega), fun e => by omega⟩
    · rename_i e0
      have hb10 := hb e0
      split at h
      · rename_i e1
        split at h
        · cases h
          exact ⟨WS_nil, fun e => by omega, by simp [DS]; omega, fun _ => by simp [NS], fun e => by omega⟩
        · obtain ⟨⟨s, r1⟩, h1, h2⟩ := bind_ok h
          have q := ih 2 b r s r1 hT (by omega) (by omega) (by omega) h1
          have T1 := hT.suf (sx_lt f _ _ _ _ _ hT.gd h1).1
          obtain ⟨⟨l2, r2⟩, h3', h4⟩ := bind_ok h2
          have u := ih 1 b r1 l2 r2 T1 (by omega) (by omega) (by omega) h3'
          have q1 := q.ns (by omega)
          have u1 := u.ns (by omega)
          have q2 := q.ds
          have u2 := u.ds
          cases h4
          exact ⟨WS_app _ _ q.ws u.ws, fun e => by omega, by simp only [DS_app]; omega, fun _ => by simp only [NS_app]; omega, fun e => by omega⟩
      · rename_i e1
        split at h
        · rename_i e2
          subst e2
          split at h
          · rename_i hm
            have hl : 1 ≤ (tx r).length := by rcases hm with hm | hm <;> rw [hm] <;> decide
            obtain ⟨⟨x, r1⟩, h1, h2⟩ := bind_ok h
            obtain ⟨x1, x2, x3⟩ := ex0_ev T0 h1
            obtain ⟨r2, h5, h6⟩ := bind_ok h2
            obtain ⟨w2, _⟩ := want_all (T0.suf x3) h5
            simp [mSemi] at w2
            cases h6
            have hc : (if tx r = wReturn then 4 else 5) = 4 ∨ (if tx r = wReturn then 4 else 5) = 5 := by split <;> simp
            refine ⟨?_, fun _ => rfl, ?_, fun _ => ?_, fun e => by omega⟩
            · rw [WS]; exact ⟨Or.inr (Or.inr (Or.inr (Or.inl ⟨hc, rfl, rfl, x1, rfl, rfl⟩))), WS_nil⟩
            · rw [DS1]; simp only; rw [if_neg (by rcases hc with e | e <;> rw [e] <;> decide)]; omega
            · rw [NS1]; simp only; rw [if_neg (by rcases hc with e | e <;> rw [e] <;> decide), if_neg (by rcases hc with e | e <;> rw [e] <;> decide), if_neg (by rcases hc with e | e <;> rw [e] <;> decide), if_neg (by rcases hc with e | e <;> rw [e] <;> decide)]; omega
          · split at h
            · rename_i hm
              rw [hm] at w0
              simp [wWhile] at w0
              obtain ⟨⟨x, r1⟩, h1, h2⟩ := bind_ok h
              obtain ⟨x1, x2, x3⟩ := ex0_ev T0 h1
              obtain ⟨r2, h5, h6⟩ := bind_ok h2
              obtain ⟨w2, T2⟩ := want_all (T0.suf x3) h5
              simp [wDo] at w2
              obtain ⟨⟨l3, r3⟩, h7, h8⟩ := bind_ok h6
              have q := ih 0 (b + 1) r2 l3 r3 T2 (by omega) (by omega) (by omega) h7
              have q1 := q.ns (by omega)
              have q2 := q.ds
              obtain ⟨r4, h9, h10⟩ := bind_ok h8
              obtain ⟨w4, T4⟩ := want_all (T2.suf (sx_lt f _ _ _ _ _ T2.gd h7).1) h9
              simp [wEnd] at w4
              obtain ⟨r5, h11, h12⟩ := bind_ok h10
              obtain ⟨w5, _⟩ := want_all T4 h11
              simp [mSemi] at w5
              cases h12
              refine ⟨?_, fun _ => rfl, ?_, fun _ => ?_, fun e => by omega⟩
              · rw [WS]; exact ⟨Or.inr (Or.inr (Or.inl ⟨rfl, rfl, rfl, x1, q.ws, rfl⟩)), WS_nil⟩
              · rw [DS1]; simp [DS]; omega
              · rw [NS1]; simp; omega
            · split at h
              · rename_i hm
                obtain ⟨⟨s, r1⟩, h1, h2⟩ := bind_ok h
                have q := ih 3 b r s r1 hT (by omega) (by omega) (by intro _; rw [hm]; decide) h1
                have q1 := q.n3 rfl
                rw [hm] at q1
                simp [wIf] at q1
                have T1 := hT.suf (sx_lt f _ _ _ _ _ hT.gd h1).1
                obtain ⟨r2, h5, h6⟩ := bind_ok h2
                obtain ⟨w2, T2⟩ := want_all T1 h5
                simp [wEnd] at w2
                obtain ⟨r3, h7, h8⟩ := bind_ok h6
                obtain ⟨w3, _⟩ := want_all T2 h7
                simp [mSemi] at w3
                cases h8
                exact ⟨q.ws, fun _ => q.one (by omega), q.ds, fun _ => by omega, fun e => by omega⟩
              · obtain ⟨⟨x, r1⟩, h1, h2⟩ := bind_ok h
                obtain ⟨q, _⟩ := ex_rx f 6 0 0 [] r x r1 hT (by omega) (by omega) (by omega) h1
                have T1 := hT.suf (ex_lt f _ _ _ _ _ _ _ hT.gd h1).1
                have q1 := q.one (by omega)
                have q4 := q.dx (by omega)
                have q5 := q.nx (by omega) (by omega)
                simp only at h2
                split at h2
                · rename_i hc
                  obtain ⟨r2, h5, h6⟩ := bind_ok h2
                  obtain ⟨w2, _⟩ := want_all T1 h5
                  simp [mSemi] at w2
                  cases h6
                  refine ⟨?_, fun _ => rfl, ?_, fun _ => ?_, fun e => by omega⟩
                  · rw [WS]; exact ⟨Or.inr (Or.inr (Or.inr (Or.inr ⟨rfl, rfl, rfl, ⟨q.wx, q1, by omega⟩, hc, rfl, rfl⟩))), WS_nil⟩
                  · rw [DS1]; simp; omega
                  · rw [NS1]; simp; omega
                · rename_i hc
                  split at h2
                  · rename_i hm
                    obtain ⟨r2, h5, h6⟩ := bind_ok h2
                    obtain ⟨w2, T2⟩ := want_all T1 h5
                    simp [mSet] at w2
                    obtain ⟨⟨y, r3⟩, h7, h8⟩ := bind_ok h6
                    obtain ⟨y1, y2, y3⟩ := ex0_ev T2 h7
                    obtain ⟨r4, h9, h10⟩ := bind_ok h8
                    obtain ⟨w4, _⟩ := want_all (T2.suf y3) h9
                    simp [mSemi] at w4
                    cases h10
                    obtain ⟨z, rfl⟩ := len1 q1
                    have hwz := q.wx
                    obtain ⟨code, pos, n, m, nm, op, le, ri, ar⟩ := z
                    rw [DX1] at q4
                    rw [NX1] at q5
                    rw [WX] at hwz
                    simp only [codeOf, modOf] at hc hm
                    subst hm
                    have hno : code ≠ 1 ∧ code ≠ 4 ∧ code ≠ 5 := by
                      cases f with
                      | zero => rw [ex] at h1; cases h1
                      | succ f =>
                        rw [ex6] at h1
                        obtain ⟨⟨⟨m', n'⟩, r5⟩, _, h12⟩ := bind_ok h1
                        simp only [behind] at h12
                        split at h12
                        · obtain ⟨_, _, h13⟩ := bind_ok h12
                          obtain ⟨_, _, h14⟩ := bind_ok h13
                          cases h14; simp
                        · split at h12
                          · split at h12
                            · cases h12; simp
                            · obtain ⟨_, _, h13⟩ := bind_ok h12
                              obtain ⟨_, _, h14⟩ := bind_ok h13
                              cases h14; simp
                          · cases h12; simp
                    rcases hwz.1 with ⟨rfl, h13⟩ | ⟨rfl, h13⟩ | ⟨rfl, h13⟩ | ⟨rfl, h13⟩ | ⟨rfl, h13⟩ | ⟨rfl, h13⟩
                    · exact absurd rfl hno.1
                    · obtain ⟨_, g1, _, rfl, _⟩ := h13
                      simp [rN] at q5
                      refine ⟨?_, fun _ => rfl, ?_, fun _ => ?_, fun e => by omega⟩
                      · rw [WS]; exact ⟨Or.inl ⟨rfl, g1.2, Or.inl rfl, y1, rfl, rfl⟩, WS_nil⟩
                      · rw [DS1]; simp; omega
                      · rw [NS1]; simp [leftOf]; omega
                    · obtain ⟨_, g1, _, g2, g3, _⟩ := h13
                      simp [rN] at q4 q5
                      refine ⟨?_, fun _ => rfl, ?_, fun _ => ?_, fun e => by omega⟩
                      · rw [WS]; exact ⟨Or.inl ⟨rfl, g1.2, Or.inr ⟨g2, g3, by simp only [leftOf]; omega⟩, y1, rfl, rfl⟩, WS_nil⟩
                      · rw [DS1]; simp; omega
                      · have : le.isEmpty = false := by obtain ⟨z, rfl⟩ := len1 g3; rfl
                        rw [NS1]; simp [leftOf, this]; omega
                    · exact absurd rfl hno.2.1
                    · exact absurd rfl hno.2.2
                    · exact absurd rfl hc
                  · cases h2
        · rename_i e2
          have e3 : k = 3 := by omega
          subst e3
          obtain ⟨⟨x, r1⟩, h1, h2⟩ := bind_ok h
          obtain ⟨x1, x2, x3⟩ := ex0_ev T0 h1
          obtain ⟨r2, h5, h6⟩ := bind_ok h2
          obtain ⟨w2, T2⟩ := want_all (T0.suf x3) h5
          simp [wThen] at w2
          obtain ⟨⟨l3, r3⟩, h7, h8⟩ := bind_ok h6
          have q := ih 0 (b + 1) r2 l3 r3 T2 (by omega) (by omega) (by omega) h7
          have q1 := q.ns (by omega)
          have q2 := q.ds
          have T3 := T2.suf (sx_lt f _ _ _ _ _ T2.gd h7).1
          have w3 := wt_step T3
          simp only at h8
          split at h8
          · rename_i he
            obtain ⟨⟨e, r4⟩, h9, h10⟩ := bind_ok h8
            have u := ih 3 (b + 1) r3 e r4 T3 (by omega) (by omega) (by intro _; rw [he]; decide) h9
            have u1 := u.n3 rfl
            rw [he] at u1
            simp [wElsif] at u1
            have u2 := u.ds
            have u3 := u.one (by omega)
            have ue : e.isEmpty = false := by obtain ⟨z, rfl⟩ := len1 u3; rfl
            cases h10
            refine ⟨?_, fun _ => rfl, ?_, fun e => by omega, fun _ => ?_⟩
            · rw [WS]; exact ⟨Or.inr (Or.inl ⟨rfl, rfl, rfl, x1, q.ws, u.ws⟩), WS_nil⟩
            · rw [DS1]; simp; omega
            · rw [NS1]; simp [ue]; omega
          · split at h8
            · rename_i he
              rw [he] at w3
              simp [wElse] at w3
              obtain ⟨⟨e, r4⟩, h9, h10⟩ := bind_ok h8
              have u := ih 0 (b + 1) (stp r3) e r4 (T3.suf (stp_suf r3)) (by omega) (by omega) (by omega) h9
              have u1 := u.ns (by omega)
              have u2 := u.ds
              cases h10
              refine ⟨?_, fun _ => rfl, ?_, fun e => by omega, fun _ => ?_⟩
              · rw [WS]; exact ⟨Or.inr (Or.inl ⟨rfl, rfl, rfl, x1, q.ws, u.ws⟩), WS_nil⟩
              · rw [DS1]; simp; omega
              · rw [NS1]; simp; split <;> omega
            · cases h8
              refine ⟨?_, fun _ => rfl, ?_, fun e => by omega, fun _ => ?_⟩
              · rw [WS]; exact ⟨Or.inr (Or.inl ⟨rfl, rfl, rfl, x1, q.ws, WS_nil⟩), WS_nil⟩
              · rw [DS1]; simp [DS]; omega
              · rw [NS1]; simp; omega
end Tp
/- What is written is read: STMTs. -/
namespace Tp
def eS : List S → List S
  | [] => []
  | ⟨code, _, nm, ix, v, th, el⟩ :: ss => ⟨code, 0, nm, eL ix, eL v, eS th, eS el⟩ :: eS ss
theorem sx_up {f g k b : Nat} {r : List Tok} {v : Except Er (List S × List Tok)} (hv : v ≠ out) (h : sx f k b r = v) (hf : f ≤ g) : sx g k b r = v := (sx_le hf k b r).eq h hv
theorem sg_tab (d : Nat) : sg (tab d) = [] := by
  induction d with
  | zero => rfl
  | succ d ih => unfold tab at ih ⊢; rw [List.replicate_succ, sg_blank (by decide)]; exact ih
/- a piece of a STMT without its blanks -/
def ps1 (s : S) (d : Nat) : List Bs := (pst [s] d).flatten
theorem pst_cons (s : S) (ss : List S) (d : Nat) : pst (s :: ss) d = ps1 s d :: pst ss d := by
  obtain ⟨code, pos, nm, ix, v, th, el⟩ := s
  match code with
  | 0 => simp [ps1, pst]
  | 1 => simp [ps1, pst]
  | 2 => simp [ps1, pst]
  | 3 => simp [ps1, pst]
  | 4 => simp [ps1, pst]
  | 5 => simp [ps1, pst]
  | 6 => simp [ps1, pst]
  | k + 7 => simp [ps1, pst]
theorem psts_cons (s : S) (ss : List S) (d : Nat) : psts (s :: ss) d = ps1 s d ++ psts ss d := by unfold psts; rw [pst_cons]; rfl
theorem ps1_1 (pos : Nat) (nm : Bs) (ix v : List X) (th el : List S) (d : Nat) : ps1 ⟨1, pos, nm, ix, v, th, el⟩ d = tab d ++ ([nm] ++ (if ix.isEmpty then [] else [mLb] ++ pxs ix ++ [mRb]) ++ [sp, mSet, sp] ++ pxs v) ++ [mSemi, nl] := by simp [ps1, pst]
theorem ps1_2 (pos : Nat) (nm : Bs) (ix v : List X) (th el : List S) (d : Nat) : ps1 ⟨2, pos, nm, ix, v, th, el⟩ d = tab d ++ ([wIf, sp] ++ pxs v ++ [sp, wThen, nl] ++ psts th (d + 1) ++ (if el.isEmpty then [] else tab d ++ [wElse, nl] ++ psts el (d + 1)) ++ tab d ++ [wEnd]) ++ [mSemi, nl] := by simp [ps1, pst, psts]
theorem ps1_3 (pos : Nat) (nm : Bs) (ix v : List X) (th el : List S) (d : Nat) : ps1 ⟨3, pos, nm, ix, v, th, el⟩ d = tab d ++ ([wWhile, sp] ++ pxs v ++ [sp, wDo, nl] ++ psts th (d + 1) ++ tab d ++ [wEnd]) ++ [mSemi, nl] := by simp [ps1, pst, psts]
theorem ps1_4 (pos : Nat) (nm : Bs) (ix v : List X) (th el : List S) (d : Nat) : ps1 ⟨4, pos, nm, ix, v, th, el⟩ d = tab d ++ ([wReturn, sp] ++ pxs v) ++ [mSemi, nl] := by simp [ps1, pst]
theorem ps1_5 (pos : Nat) (nm : Bs) (ix v : List X) (th el : List S) (d : Nat) : ps1 ⟨5, pos, nm, ix, v, th, el⟩ d = tab d ++ ([wWrite, sp] ++ pxs v) ++ [mSemi, nl] := by simp [ps1, pst]
theorem ps1_6 (pos : Nat) (nm : Bs) (ix v : List X) (th el : List S) (d : Nat) : ps1 ⟨6, pos, nm, ix, v, th, el⟩ d = tab d ++ pxs v ++ [mSemi, nl] := by simp [ps1, pst]
def Ends (r : List Tok) : Prop := tx r = wEnd ∨ tx r = wElsif ∨ tx r = wElse
def K2 (b : Nat) (s : S) : Prop := ∀ d t r, sig t = sg (ps1 s d) → ∃ l' f, eS l' = eS [s] ∧ sx f 2 b (t ++ r) = .ok (l', r) ∧ ¬ Ends (t ++ r)
def K1 (b : Nat) (l : List S) : Prop := ∀ d t r, sig t = sg (psts l d) → Ends r → ∃ l' f, eS l' = eS l ∧ sx f 1 b (t ++ r) = .ok (l', r)
theorem eS_app : ∀ l m : List S, eS (l ++ m) = eS l ++ eS m := by
  intro l
  induction l with
  | nil => intro m; simp [eS]
  | cons z zs ih => intro m; obtain ⟨⟩ := z; rw [List.cons_append, eS, eS, ih]; rfl
theorem K1.nil (b : Nat) : K1 b [] := by
  intro d t r h1 h2
  have : t = [] := sig_nil (by simpa [psts, pst, sg] using h1)
  subst this
  refine ⟨[], 1, rfl, ?_⟩
  rw [List.nil_append, sx, if_neg (by omega), if_pos rfl]
  exact if_pos h2
theorem K1.cons {b : Nat} {s : S} {l : List S} (hs : K2 b s) (hl : K1 b l) : K1 b (s :: l) := by
  intro d t r h1 h2
  rw [psts_cons, sg_app] at h1
  obtain ⟨t1, t2, rfl, h3, h4⟩ := sig_app h1
  obtain ⟨l', g, q1, q2⟩ := hl d t2 r h4 h2
  obtain ⟨s', f, q3, q4, q5⟩ := hs d t1 (t2 ++ r) h3
  refine ⟨s' ++ l', max f g + 1, by rw [eS_app, q3, q1, ← eS_app]; rfl, ?_⟩
  rw [List.append_assoc, sx, if_neg (by omega), if_pos rfl]
  refine (if_neg q5).trans ?_
  rw [sx_up (ok_ne _) q4 (show f ≤ max f g by omega)]
  simp only [bind, Except.bind]
  rw [sx_up (ok_ne _) q2 (show g ≤ max f g by omega)]
theorem ev_K {v : List X} (h : ev v) : Kx 0 0 (pxs v) v := by
  obtain ⟨h1, h2, h3⟩ := h
  obtain ⟨x, rfl⟩ := len1 h2
  exact (mx _ x (Nat.le_refl _) h1 0 (by omega)).1 0 (by omega)
theorem Fol0 {u : Tok} {l : List Tok} {s : Bs} (h : u.text = s) (hs : lvl s = 5 ∧ s ≠ mDot ∧ s ≠ mLb ∧ s ≠ mLp) : Fol 0 (u :: l) := Fol.of h ⟨Or.inr hs.1, hs.2⟩
/- a word or a mark ahead of a list of tokens -/
theorem sig_hd {b : Bs} {l : List Bs} {t : List Tok} (hb : isB b = false) (h : sig t = sg (b :: l)) : ∃ u t', t = u :: t' ∧ u.kind = kd b ∧ u.text = b ∧ sig t' = sg l := by
  rw [sg_cons hb] at h; exact sig_cons h
theorem sig_two {a b : List Bs} {t : List Tok} (h : sig t = sg (a ++ b)) : ∃ t1 t2, t = t1 ++ t2 ∧ sig t1 = sg a ∧ sig t2 = sg b := by
  rw [sg_app] at h; exact sig_app h
theorem K2.tell {b pos c : Nat} {v : List X} (w : Bs) (hw : w = wReturn ∧ c = 4 ∨ w = wWrite ∧ c = 5) (hv : ev v) : ∀ t r, sig t = sg ([w, sp] ++ pxs v ++ [mSemi, nl]) → ∃ l' f, eS l' = eS [⟨c, pos, [], [], v, [], []⟩] ∧ sx f 2 b (t ++ r) = .ok (l', r) ∧ ¬ Ends (t ++ r) := by
  intro t r h1
  have hk : isB w = false ∧ kd w ≠ 0 := by rcases hw with ⟨rfl, _⟩ | ⟨rfl, _⟩ <;> decide
  obtain ⟨t1, t2, rfl, h2, h3⟩ := sig_two h1
  obtain ⟨t3, t4, rfl, h4, h5⟩ := sig_two h2
  obtain ⟨u, t5, rfl, u1, u2, u3⟩ := sig_hd hk.1 h4
  have e5 : t5 = [] := sig_nil (by rw [u3]; rfl)
  obtain ⟨z, t6, rfl, z1, z2, z3⟩ := sig_hd (by decide) h3
  have e6 : t6 = [] := sig_nil (by rw [z3]; rfl)
  subst e5 e6
  have z1' : z.kind = 3 := z1
  obtain ⟨x', f, q1, q2⟩ := ev_K hv t4 (z :: r) h5 (Fol0 z2 (by decide))
  have e : (([u] ++ t4) ++ [z]) ++ r = u :: (t4 ++ z :: r) := by simp
  rw [e]
  refine ⟨[⟨c, u.pos, [], [], x', [], []⟩], f + 1, by simp [eS, q1], ?_, ?_⟩
  · rw [sx, if_neg (by omega), if_neg (by omega), if_pos rfl, tx_tok, u2, if_pos (by rcases hw with ⟨h, _⟩ | ⟨h, _⟩ <;> simp [h]), stp_tok u _ (by rw [u1]; exact hk.2), q2]
    simp only [bind, Except.bind]
    rw [want_tok (by omega) z2]
    rcases hw with ⟨rfl, rfl⟩ | ⟨rfl, rfl⟩ <;> rfl
  · unfold Ends
    rw [tx_tok, u2]
    rcases hw with ⟨rfl, _⟩ | ⟨rfl, _⟩ <;> decide
/- a block: what is between its mark and its end -/
theorem K1.block {b : Nat} {l : List S} (hb : b ≤ 10) (h : K1 b l) : ∀ d t r, sig t = sg (psts l d) → Ends r → ∃ l' f, eS l' = eS l ∧ sx f 0 b (t ++ r) = .ok (l', r) := by
  intro d t r h1 h2
  obtain ⟨l', f, q1, q2⟩ := h d t r h1 h2
  refine ⟨l', f + 1, q1, ?_⟩
  rw [sx, if_pos rfl, if_neg (by omega)]
  exact q2
theorem K2.loop {b pos : Nat} {v : List X} {th : List S} (hv : ev v) (hb : b + 1 ≤ 10) (h : K1 (b + 1) th) : K2 b ⟨3, pos, [], [], v, th, []⟩ := by
  intro d t r h1
  rw [ps1_3, sg_app, sg_app, sg_tab, List.nil_append, ← sg_app] at h1
  obtain ⟨t1, t2, rfl, h2, h3⟩ := sig_two h1
  obtain ⟨t3, t4, rfl, h4, h5⟩ := sig_two h2
  obtain ⟨t5, t6, rfl, h6, h7⟩ := sig_two h4
  obtain ⟨t7, t8, rfl, h8, h9⟩ := sig_two h6
  obtain ⟨t9, t10, rfl, h10, h11⟩ := sig_two h8
  obtain ⟨t11, t12, rfl, h12, h13⟩ := sig_two h10
  have e6 : t6 = [] := sig_nil (by rw [h7, sg_tab])
  obtain ⟨u, a1, rfl, u1, u2, u3⟩ := sig_hd (by decide) h12
  have ea1 : a1 = [] := sig_nil (by rw [u3]; rfl)
  rw [sg_blank (by decide)] at h11
  obtain ⟨w, a2, rfl, w1, w2, w3⟩ := sig_hd (by decide) h11
  have ea2 : a2 = [] := sig_nil (by rw [w3]; rfl)
  obtain ⟨y, a3, rfl, y1, y2, y3⟩ := sig_hd (by decide) h5
  have ea3 : a3 = [] := sig_nil (by rw [y3]; rfl)
  obtain ⟨z, a4, rfl, z1, z2, z3⟩ := sig_hd (by decide) h3
  have ea4 : a4 = [] := sig_nil (by rw [z3]; rfl)
  subst e6 ea1 ea2 ea3 ea4
  have u1' : u.kind = 1 := u1
  have w1' : w.kind = 1 := w1
  have y1' : y.kind = 1 := y1
  have z1' : z.kind = 3 := z1
  have e : (((([u] ++ t12 ++ [w]) ++ t8) ++ [] ++ [y]) ++ [z]) ++ r = u :: (t12 ++ w :: (t8 ++ y :: z :: r)) := by simp
  rw [e]
  obtain ⟨x', f, q1, q2⟩ := ev_K hv t12 (w :: (t8 ++ y :: z :: r)) h13 (Fol0 w2 (by decide))
  obtain ⟨l', g, q3, q4⟩ := K1.block hb h (d + 1) t8 (y :: z :: r) h9 (Or.inl y2)
  refine ⟨[⟨3, u.pos, [], [], x', l', []⟩], max f g + 1, by simp [eS, q1, q3], ?_, ?_⟩
  · rw [sx, if_neg (by omega), if_neg (by omega), if_pos rfl, tx_tok, u2, if_neg (by decide), if_pos rfl, stp_tok u _ (by omega), ex_up (ok_ne _) q2 (show f ≤ max f g by omega)]
    simp only [bind, Except.bind]
    rw [want_tok (by omega) w2]
    simp only
    rw [sx_up (ok_ne _) q4 (show g ≤ max f g by omega)]
    simp only
    rw [want_tok (by omega) y2]
    simp only
    rw [want_tok (by omega) z2]
    rfl
  · unfold Ends; rw [tx_tok, u2]; decide
theorem K2.cond {b pos : Nat} {v : List X} {th el : List S} (hv : ev v) (hb : b + 1 ≤ 10) (h : K1 (b + 1) th) (he : K1 (b + 1) el) : K2 b ⟨2, pos, [], [], v, th, el⟩ := by
  intro d t r h1
  rw [ps1_2, sg_app, sg_app, sg_tab, List.nil_append, ← sg_app] at h1
  obtain ⟨t1, t2, rfl, h2, h3⟩ := sig_two h1
  obtain ⟨t3, t4, rfl, h4, h5⟩ := sig_two h2
  obtain ⟨t5, t6, rfl, h6, h7⟩ := sig_two h4
  obtain ⟨t5', te, rfl, h6', he'⟩ := sig_two h6
  obtain ⟨t7, t8, rfl, h8, h9⟩ := sig_two h6'
  obtain ⟨t9, t10, rfl, h10, h11⟩ := sig_two h8
  obtain ⟨t11, t12, rfl, h12, h13⟩ := sig_two h10
  have e6 : t6 = [] := sig_nil (by rw [h7, sg_tab])
  obtain ⟨u, a1, rfl, u1, u2, u3⟩ := sig_hd (by decide) h12
  have ea1 : a1 = [] := sig_nil (by rw [u3]; rfl)
  rw [sg_blank (by decide)] at h11
  obtain ⟨w, a2, rfl, w1, w2, w3⟩ := sig_hd (by decide) h11
  have ea2 : a2 = [] := sig_nil (by rw [w3]; rfl)
  obtain ⟨y, a3, rfl, y1, y2, y3⟩ := sig_hd (by decide) h5
  have ea3 : a3 = [] := sig_nil (by rw [y3]; rfl)
  obtain ⟨z, a4, rfl, z1, z2, z3⟩ := sig_hd (by decide) h3
  have ea4 : a4 = [] := sig_nil (by rw [z3]; rfl)
  subst e6 ea1 ea2 ea3 ea4
  have u1' : u.kind = 1 := u1
  have w1' : w.kind = 1 := w1
  have y1' : y.kind = 1 := y1
  have z1' : z.kind = 3 := z1
  have e : ((((([u] ++ t12 ++ [w]) ++ t8) ++ te) ++ [] ++ [y]) ++ [z]) ++ r = u :: (t12 ++ w :: (t8 ++ (te ++ y :: z :: r))) := by simp
  rw [e]
  obtain ⟨x', f, q1, q2⟩ := ev_K hv t12 (w :: (t8 ++ (te ++ y :: z :: r))) h13 (Fol0 w2 (by decide))
  have hends : ¬ Ends (u :: (t12 ++ w :: (t8 ++ (te ++ y :: z :: r)))) := by unfold Ends; rw [tx_tok, u2]; decide
  by_cases hel : el.isEmpty = true
  · rw [if_pos hel] at he'
    have ete : te = [] := sig_nil (by rw [he']; rfl)
    have eel : el = [] := by simpa using hel
    subst ete eel
    rw [List.nil_append] at q2 hends ⊢
    obtain ⟨l', g, q3, q4⟩ := K1.block hb h (d + 1) t8 (y :: z :: r) h9 (Or.inl y2)
    refine ⟨[⟨2, u.pos, [], [], x', l', []⟩], max f g + 2, by simp [eS, q1, q3], ?_, hends⟩
    rw [sx, if_neg (by omega), if_neg (by omega), if_pos rfl, tx_tok, u2, if_neg (by decide), if_neg (by decide), if_pos rfl]
    rw [sx, if_neg (by omega), if_neg (by omega), if_neg (by omega), stp_tok u _ (by omega), ex_up (ok_ne _) q2 (show f ≤ max f g by omega)]
    simp only [bind, Except.bind]
    rw [want_tok (by omega) w2]
    simp only
    rw [sx_up (ok_ne _) q4 (show g ≤ max f g by omega)]
    simp only
    rw [tx_tok, y2, if_neg (by decide), if_neg (by decide)]
    simp only
    rw [want_tok (by omega) y2]
    simp only
    rw [want_tok (by omega) z2]
    rfl
  · rw [if_neg hel] at he'
    obtain ⟨s1, s2, rfl, i1, i2⟩ := sig_two he'
    obtain ⟨s3, s4, rfl, i3, i4⟩ := sig_two i1
    have es3 : s3 = [] := sig_nil (by rw [i3, sg_tab])
    obtain ⟨c, a5, rfl, c1, c2, c3⟩ := sig_hd (by decide) i4
    have ea5 : a5 = [] := sig_nil (by rw [c3]; rfl)
    subst es3 ea5
    have c1' : c.kind = 1 := c1
    have e : (([] ++ [c]) ++ s2) ++ y :: z :: r = c :: (s2 ++ y :: z :: r) := by simp
    rw [e] at q2 hends ⊢
    obtain ⟨l', g, q3, q4⟩ := K1.block hb h (d + 1) t8 (c :: (s2 ++ y :: z :: r)) h9 (Or.inr (Or.inr c2))
    obtain ⟨e', k, q5, q6⟩ := K1.block hb he (d + 1) s2 (y :: z :: r) i2 (Or.inl y2)
    refine ⟨[⟨2, u.pos, [], [], x', l', e'⟩], max f (max g k) + 2, by simp [eS, q1, q3, q5], ?_, hends⟩
    rw [sx, if_neg (by omega), if_neg (by omega), if_pos rfl, tx_tok, u2, if_neg (by decide), if_neg (by decide), if_pos rfl]
    rw [sx, if_neg (by omega), if_neg (by omega), if_neg (by omega), stp_tok u _ (by omega), ex_up (ok_ne _) q2 (show f ≤ max f (max g k) by omega)]
    simp only [bind, Except.bind]
    rw [want_tok (by omega) w2]
    simp only
    rw [sx_up (ok_ne _) q4 (show g ≤ max f (max g k) by omega)]
    simp only
    rw [tx_tok, c2, if_neg (by decide), if_pos rfl, stp_tok c _ (by omega), sx_up (ok_ne _) q6 (show k ≤ max f (max g k) by omega)]
    simp only
    rw [want_tok (by omega) y2]
    simp only
    rw [want_tok (by omega) z2]
    rfl
theorem kept_of {n : Bs} (h : okn n) {w : Bs} (hw : w ∈ kept) : n ≠ w := fun e => h.2.1 (e ▸ hw)
theorem okn_plain {n : Bs} (h : okn n) : ¬ (n = wReturn ∨ n = wWrite) ∧ n ≠ wWhile ∧ n ≠ wIf ∧ ¬ (n = wEnd ∨ n = wElsif ∨ n = wElse) := by
  refine ⟨?_, kept_of h (by decide), kept_of h (by decide), ?_⟩
  · rintro (e | e)
    · exact kept_of h (by decide) e
    · exact kept_of h (by decide) e
  · rintro (e | e | e)
    · exact kept_of h (by decide) e
    · exact kept_of h (by decide) e
    · exact kept_of h (by decide) e
theorem sx2_named {f b : Nat} {r : List Tok} (h : okn (tx r)) : sx (f + 1) 2 b r = (do
        let (x, r1) ← ex f 6 0 0 [] r
        if codeOf x = 6 then do
          let r2 ← want mSemi r1
          .ok ([⟨6, at' r, [], [], x, [], []⟩], r2)
        else if modOf x = [] then do
          let r2 ← want mSet r1
          let (y, r3) ← ex f 0 0 0 [] r2
          let r4 ← want mSemi r3
          .ok ([⟨1, at' r, nameOf x, leftOf x, y, [], []⟩], r4)
        else .error (3, at' r1)) := by
  obtain ⟨h1, h2, h3, _⟩ := okn_plain h
  rw [sx, if_neg (by omega), if_neg (by omega), if_pos rfl, if_neg h1, if_neg h2, if_neg h3]
theorem eL_code {x y : List X} (h : eL x = eL y) : codeOf x = codeOf y ∧ modOf x = modOf y ∧ nameOf x = nameOf y ∧ eL (leftOf x) = eL (leftOf y) := by
  cases x with
  | nil => cases y with
    | nil => exact ⟨rfl, rfl, rfl, rfl⟩
    | cons b bs => obtain ⟨⟩ := b; rw [eL, eL] at h; cases h
  | cons a as => cases y with
    | nil => obtain ⟨⟩ := a; rw [eL, eL] at h; cases h
    | cons b bs =>
      obtain ⟨⟩ := a; obtain ⟨⟩ := b
      rw [eL, eL] at h
      injection h with h h'
      injection h with h1 h2 h3 h4 h5 h6 h7 h8 h9
      exact ⟨h1, h4, h5, h7⟩
theorem ref_okn {m n : Bs} (h : okr m n) {t : List Tok} (ht : sig t = sg (ref m n)) (r : List Tok) : okn (tx (t ++ r)) := by
  obtain ⟨h1, h2⟩ := h
  obtain ⟨n1, n2⟩ := okn_kd h2
  unfold ref at ht
  split at ht
  · rw [sg_one n2] at ht
    obtain ⟨u', t1, rfl, _, q, _⟩ := sig_cons ht
    show okn u'.text
    rw [q]; exact h2
  · rename_i hm
    have h1' : okn m := h1.resolve_left hm
    obtain ⟨m1, m2⟩ := okn_kd h1'
    rw [sg_cons m2] at ht
    obtain ⟨u', t1, rfl, _, q, _⟩ := sig_cons ht
    show okn u'.text
    rw [q]; exact h1'
theorem K2.call {b pos : Nat} {v : List X} (hv : ev v) (hc : codeOf v = 6) : K2 b ⟨6, pos, [], [], v, [], []⟩ := by
  intro d t r h1
  rw [ps1_6, sg_app, sg_app, sg_tab, List.nil_append, ← sg_app] at h1
  obtain ⟨t1, t2, rfl, h2, h3⟩ := sig_two h1
  obtain ⟨z, a4, rfl, z1, z2, z3⟩ := sig_hd (by decide) h3
  have ea4 : a4 = [] := sig_nil (by rw [z3]; rfl)
  subst ea4
  have z1' : z.kind = 3 := z1
  rw [List.append_assoc]
  obtain ⟨x1, x2, x3⟩ := hv
  obtain ⟨x, rfl⟩ := len1 x2
  obtain ⟨code, ps, n, m, nm, op, le, ri, ar⟩ := x
  simp only [codeOf] at hc
  subst hc
  rw [WX] at x1
  have h6 : n = 0 ∧ okr m nm ∧ op = [] ∧ le = [] ∧ ri = [] ∧ WX ar := by
    rcases x1.1 with ⟨e, _⟩ | ⟨e, _⟩ | ⟨e, _⟩ | ⟨e, _⟩ | ⟨e, _⟩ | ⟨_, h⟩
    all_goals first | (exact h) | (exact absurd e (by decide))
  obtain ⟨rfl, k1, rfl, rfl, rfl, k2⟩ := h6
  have hK6 : K6 0 (pxs [⟨6, ps, 0, m, nm, [], [], [], ar⟩]) [⟨6, ps, 0, m, nm, [], [], [], ar⟩] := by
    rw [pxs_6]
    rw [DX1] at x3
    simp at x3
    cases ar with
    | nil => rw [px, commas]; exact K6.call0 k1
    | cons y l =>
      simp at x3
      have hy : WX [y] := by obtain ⟨⟩ := y; rw [WX] at k2 ⊢; exact ⟨k2.1, WX_nil⟩
      exact K6.call k1 (K7.all (mx _) 0 l y (Nat.le_refl _) k2 (by omega)) (by
          intro t r ht
          cases l with
          | nil => rw [px_cons, px, commas] at ht; exact first_ne hy [] (by simpa using ht)
          | cons z l => rw [px_cons, px_cons, commas_cons, List.append_assoc] at ht; exact first_ne hy _ ht)
  have hn : okn (tx (t1 ++ ([z] ++ r))) := by
    rw [pxs_6, List.append_assoc, List.append_assoc] at h2
    obtain ⟨s1, s2, rfl, i1, i2⟩ := sig_two h2
    rw [List.append_assoc]
    exact ref_okn k1 i1 _
  obtain ⟨x', f, q1, q2⟩ := hK6 t1 ([z] ++ r) h2 (by show z.text ≠ mDot; rw [z2]; decide) (by show z.text ≠ mLb; rw [z2]; decide) (by show z.text ≠ mLp; rw [z2]; decide)
  refine ⟨[⟨6, at' (t1 ++ ([z] ++ r)), [], [], x', [], []⟩], f + 1, by simp [eS, q1], ?_, (okn_plain hn).2.2.2⟩
  rw [sx2_named hn, q2]
  simp only [bind, Except.bind]
  rw [if_pos (by rw [(eL_code q1).1]; rfl)]
  have hw : want mSemi ([z] ++ r) = .ok r := want_tok (by omega) z2
  rw [hw]
theorem K2.set {b pos : Nat} {nm : Bs} {ix v : List X} (hn : okn nm) (hx : ix = [] ∨ WX ix ∧ ix.length = 1 ∧ 1 + DX ix ≤ 10) (hv : ev v) : K2 b ⟨1, pos, nm, ix, v, [], []⟩ := by
  intro d t r h1
  rw [ps1_1, sg_app, sg_app, sg_tab, List.nil_append, ← sg_app] at h1
  obtain ⟨t1, t2, rfl, h2, h3⟩ := sig_two h1
  obtain ⟨t3, t4, rfl, h4, h5⟩ := sig_two h2
  obtain ⟨t5, t6, rfl, h6, h7⟩ := sig_two h4
  rw [sg_blank (by decide)] at h7
  obtain ⟨w, a2, rfl, w1, w2, w3⟩ := sig_hd (by decide) h7
  have ea2 : a2 = [] := sig_nil (by rw [w3]; rfl)
  obtain ⟨z, a4, rfl, z1, z2, z3⟩ := sig_hd (by decide) h3
  have ea4 : a4 = [] := sig_nil (by rw [z3]; rfl)
  subst ea2 ea4
  have w1' : w.kind = 3 := w1
  have z1' : z.kind = 3 := z1
  have e : (((t5 ++ [w]) ++ t4) ++ [z]) ++ r = t5 ++ (w :: (t4 ++ z :: r)) := by simp
  rw [e]
  have hr : okr [] nm := ⟨Or.inl rfl, hn⟩
  have eref : ref [] nm = [nm] := by simp [ref]
  have hK6 : ∃ (x : X), K6 0 ([nm] ++ (if ix.isEmpty then [] else [mLb] ++ pxs ix ++ [mRb])) [x] ∧ x.code ≠ 6 ∧ x.mod = [] ∧ x.name = nm ∧ x.left = ix := by
    rcases hx with rfl | ⟨x1, x2, x3⟩
    · refine ⟨⟨2, 0, 0, [], nm, [], [], [], []⟩, ?_, by simp, rfl, rfl, rfl⟩
      have := K6.use (o := 0) (pos := 0) hr
      rw [eref] at this
      simpa using this
    · obtain ⟨y, rfl⟩ := len1 x2
      refine ⟨⟨3, 0, 0, [], nm, [], [y], [], []⟩, ?_, by simp, rfl, rfl, rfl⟩
      have := K6.index (pos := 0) hr ((mx _ y (Nat.le_refl _) x1 1 (by omega)).1 0 (by omega))
      rw [eref] at this
      rw [show [nm] ++ (if [y].isEmpty = true then [] else [mLb] ++ pxs [y] ++ [mRb]) = [nm] ++ [mLb] ++ pxs [y] ++ [mRb] by simp]
      exact this
  obtain ⟨x, k1, k2, k3, k4, k5⟩ := hK6
  have hn' : okn (tx (t5 ++ (w :: (t4 ++ z :: r)))) := by
    obtain ⟨s1, s2, rfl, i1, i2⟩ := sig_two h6
    rw [← eref] at i1
    rw [List.append_assoc]
    exact ref_okn hr i1 _
  obtain ⟨x', f, q1, q2⟩ := k1 t5 (w :: (t4 ++ z :: r)) h6 (by rw [tx_tok, w2]; decide) (by rw [tx_tok, w2]; decide) (by rw [tx_tok, w2]; decide)
  obtain ⟨y', g, q3, q4⟩ := ev_K hv t4 (z :: r) h5 (Fol0 z2 (by decide))
  obtain ⟨c1, c2, c3, c4⟩ := eL_code q1
  have c3' : nameOf x' = nm := c3.trans k4
  have c4' : eL (leftOf x') = eL ix := by rw [c4]; show eL x.left = _; rw [k5]
  refine ⟨[⟨1, at' (t5 ++ (w :: (t4 ++ z :: r))), nameOf x', leftOf x', y', [], []⟩], max f g + 1, by simp [eS, q3, c3', c4'], ?_, (okn_plain hn').2.2.2⟩
  rw [sx2_named hn', ex_up (ok_ne _) q2 (show f ≤ max f g by omega)]
  simp only [bind, Except.bind]
  rw [if_neg (by rw [c1]; exact k2), if_pos (by rw [c2]; exact k3), want_tok (by omega) w2]
  simp only
  rw [ex_up (ok_ne _) q4 (show g ≤ max f g by omega)]
  simp only
  rw [want_tok (by omega) z2]
theorem k1_all : ∀ (N : Nat) (l : List S) (b : Nat), SizeOf.sizeOf l ≤ N → WS l → b + DS l ≤ 10 → K1 b l := by
  intro N
  induction N with
  | zero => intro l b h; cases l <;> simp at h <;> omega
  | succ N ih =>
    intro l b hs hw hd
    cases l with
    | nil => exact K1.nil b
    | cons s l =>
      have hd12 : DS (s :: l) = max (DS [s]) (DS l) := DS_app [s] l
      have hl : K1 b l := ih l b (by simp at hs; omega) (by obtain ⟨⟩ := s; rw [WS] at hw; exact hw.2) (by omega)
      refine K1.cons ?_ hl
      have hd1 : b + DS [s] ≤ 10 := by omega
      have hsz : SizeOf.sizeOf s.thn < SizeOf.sizeOf s ∧ SizeOf.sizeOf s.els < SizeOf.sizeOf s := by obtain ⟨⟩ := s; simp; omega
      have hss : SizeOf.sizeOf s ≤ N := by simp at hs; omega
      rw [DS1] at hd1
      obtain ⟨code, pos, nm, ix, v, th, el⟩ := s
      rw [WS] at hw
      simp only at hd1 hsz
      rcases hw.1 with ⟨rfl, h1⟩ | ⟨rfl, h1⟩ | ⟨rfl, h1⟩ | ⟨hc, h1⟩ | ⟨rfl, h1⟩
      · obtain ⟨a1, a2, a3, rfl, rfl⟩ := h1
        exact K2.set a1 a2 a3
      · obtain ⟨rfl, rfl, a3, a4, a5⟩ := h1
        simp at hd1
        exact K2.cond a3 (by omega) (ih th (b + 1) (by omega) a4 (by omega)) (ih el (b + 1) (by omega) a5 (by omega))
      · obtain ⟨rfl, rfl, a3, a4, rfl⟩ := h1
        simp at hd1
        exact K2.loop a3 (by omega) (ih th (b + 1) (by omega) a4 (by omega))
      · obtain ⟨rfl, rfl, a3, rfl, rfl⟩ := h1
        intro d t r ht
        rcases hc with rfl | rfl
        · rw [ps1_4, sg_app, sg_app, sg_tab, List.nil_append, ← sg_app] at ht
          exact K2.tell wReturn (Or.inl ⟨rfl, rfl⟩) a3 t r ht
        · rw [ps1_5, sg_app, sg_app, sg_tab, List.nil_append, ← sg_app] at ht
          exact K2.tell wWrite (Or.inr ⟨rfl, rfl⟩) a3 t r ht
      · obtain ⟨rfl, rfl, a3, a4, rfl, rfl⟩ := h1
        exact K2.call a3 a4
end Tp
