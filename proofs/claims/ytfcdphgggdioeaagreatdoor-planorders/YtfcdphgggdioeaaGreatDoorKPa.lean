/- The plain functions of chapter 1: tokens, what Parse reads, what Print writes, on lists of bytes. No program stands in it. -/
namespace Tp
abbrev Bs := List UInt8
structure Tok where
  kind : Nat
  pos : Nat
  text : Bs
structure X where
  code : Nat
  pos : Nat
  n : Nat
  mod : Bs
  name : Bs
  op : Bs
  left : List X
  right : List X
  args : List X
structure S where
  code : Nat
  pos : Nat
  name : Bs
  index : List X
  value : List X
  thn : List S
  els : List S
structure G where
  name : Bs
  pos : Nat
  len : Nat
  seen : Bool
structure Pr where
  name : Bs
  pos : Nat
  seen : Bool
  params : List Bs
  vars : List Bs
  body : List S
structure M where
  name : Bs
  imports : List Bs
  vars : List G
  procs : List Pr
  body : List S
abbrev Er := Nat × Nat

/- words and marks -/
def wModule : Bs := [109, 111, 100, 117, 108, 101]
def wImport : Bs := [105, 109, 112, 111, 114, 116]
def wVar : Bs := [118, 97, 114]
def wProc : Bs := [112, 114, 111, 99]
def wBegin : Bs := [98, 101, 103, 105, 110]
def wEnd : Bs := [101, 110, 100]
def wInt : Bs := [105, 110, 116]
def wArray : Bs := [97, 114, 114, 97, 121]
def wReturn : Bs := [114, 101, 116, 117, 114, 110]
def wWrite : Bs := [119, 114, 105, 116, 101]
def wWhile : Bs := [119, 104, 105, 108, 101]
def wDo : Bs := [100, 111]
def wIf : Bs := [105, 102]
def wThen : Bs := [116, 104, 101, 110]
def wElsif : Bs := [101, 108, 115, 105, 102]
def wElse : Bs := [101, 108, 115, 101]
def wOr : Bs := [111, 114]
def wAnd : Bs := [97, 110, 100]
def wNot : Bs := [110, 111, 116]
def wDiv : Bs := [100, 105, 118]
def wMod : Bs := [109, 111, 100]
def mSet : Bs := [58, 61]
def mLe : Bs := [60, 61]
def mGe : Bs := [62, 61]
def mNe : Bs := [35]
def mEq : Bs := [61]
def mLt : Bs := [60]
def mGt : Bs := [62]
def mPlus : Bs := [43]
def mMinus : Bs := [45]
def mStar : Bs := [42]
def mLp : Bs := [40]
def mRp : Bs := [41]
def mLb : Bs := [91]
def mRb : Bs := [93]
def mComma : Bs := [44]
def mSemi : Bs := [59]
def mColon : Bs := [58]
def mDot : Bs := [46]
def kept : List Bs := [wModule, wImport, wVar, wProc, wBegin, wEnd, wInt, wArray, wReturn, wWrite, wWhile, wDo, wIf, wThen, wElsif, wElse, wOr, wAnd, wNot, wDiv, wMod]
def marks : List Bs := [mSet, mLe, mGe, mNe, mEq, mLt, mGt, mPlus, mMinus, mStar, mLp, mRp, mLb, mRb, mComma, mSemi, mColon, mDot]

/- tokens -/
def letter (c : UInt8) : Bool := decide (97 ≤ c.toNat ∧ c.toNat ≤ 122)
def digit (c : UInt8) : Bool := decide (48 ≤ c.toNat ∧ c.toNat ≤ 57)
def ld (c : UInt8) : Bool := letter c || digit c
def blank (c : UInt8) : Bool := c == 32 || c == 10
def cut : Bs → Option (Nat × Nat)
  | [] => none
  | c :: l => if letter c then some (1, ((c :: l).takeWhile ld).length)
    else if digit c then some (2, ((c :: l).takeWhile digit).length)
    else (marks.find? (fun m => m.isPrefixOf (c :: l))).map (fun m => (3, m.length))
def scan : Nat → Nat → Nat → Bs → Except Er (List Tok)
  | 0, _, _, _ => .error (99, 0)
  | f + 1, cnt, pos, l =>
    match l with
    | [] => .ok [⟨0, pos, []⟩]
    | c :: t => if blank c then scan f cnt (pos + 1) t else
      match cut (c :: t) with
      | none => .error (3, pos)
      | some (kd, n) => if cnt = 600 then .error (4, pos) else
        match scan f (cnt + 1) (pos + n) ((c :: t).drop n) with
        | .error e => .error e
        | .ok ts => .ok (⟨kd, pos, (c :: t).take n⟩ :: ts)

/- reading -/
def hd (r : List Tok) : Tok := r.headD ⟨0, 0, []⟩
def tx (r : List Tok) : Bs := (hd r).text
def at' (r : List Tok) : Nat := (hd r).pos
def stp (r : List Tok) : List Tok := if (hd r).kind = 0 then r else r.tail
def want (s : Bs) (r : List Tok) : Except Er (List Tok) := if tx r = s then .ok (stp r) else .error (3, at' r)
def name (r : List Tok) : Except Er (Bs × List Tok) :=
  if (hd r).kind ≠ 1 ∨ tx r ∈ kept then .error (3, at' r)
  else if 10 < (tx r).length then .error (4, at' r) else .ok (tx r, stp r)
def names : Nat → Nat → Nat → List Tok → Except Er ((List Bs) × List Tok)
  | 0, _, _, r => .error (99, at' r)
  | f + 1, had, most, r => if most ≤ had then .error (4, at' r) else do
    let (n, r1) ← name r
    if tx r1 = mComma then do
      let (l, r2) ← names f (had + 1) most (stp r1)
      .ok (n :: l, r2)
    else .ok ([n], r1)
def val (l : Bs) : Nat := l.foldl (fun a c => a * 10 + (c.toNat - 48)) 0
def number (most : Nat) (r : List Tok) : Except Er (Nat × List Tok) :=
  if (hd r).kind ≠ 2 then .error (3, at' r)
  else if most < val (tx r) then .error (4, at' r) else .ok (val (tx r), stp r)
def lvl (op : Bs) : Nat :=
  if op = wOr then 0 else if op = wAnd then 1
  else if op = mEq ∨ op = mNe ∨ op = mLt ∨ op = mLe ∨ op = mGt ∨ op = mGe then 2
  else if op = mPlus ∨ op = mMinus then 3
  else if op = mStar ∨ op = wDiv ∨ op = wMod then 4 else 5
def top : Nat := 9223372036854775807
/- EXPRs. Of k: 0 to 4 a level, 5 a ONE, 6 what begins with a REF, 7 arguments, 10 and more a level's loop behind acc, which began at a. -/
def ex : Nat → Nat → Nat → Nat → List X → List Tok → Except Er ((List X) × List Tok)
  | 0, _, _, _, _, _ => .error (99, 0)
  | f + 1, k, ones, a, acc, r =>
    if k < 5 then do
      let (x, r1) ← ex f (k + 1) ones 0 [] r
      ex f (10 + k) ones (at' r) x r1
    else if k = 5 then
      if 10 < ones then .error (4, at' r)
      else if (hd r).kind = 2 then do
        let (n, r1) ← number top r
        .ok ([⟨1, at' r, n, [], [], [], [], [], []⟩], r1)
      else if tx r = mMinus ∨ tx r = wNot then do
        let (x, r1) ← ex f 5 (ones + 1) 0 [] (stp r)
        .ok ([⟨4, at' r, 0, [], [], tx r, x, [], []⟩], r1)
      else if tx r = mLp then do
        let (x, r1) ← ex f 0 (ones + 1) 0 [] (stp r)
        let r2 ← want mRp r1
        .ok (x, r2)
      else ex f 6 ones 0 [] r
    else if k = 6 then do
      let (n1, r1) ← name r
      let ((m, n), r2) ← (if tx r1 = mDot then do
          let (n2, r2) ← name (stp r1)
          .ok ((n1, n2), r2)
        else .ok (([], n1), r1) : Except Er ((Bs × Bs) × List Tok))
      if tx r2 = mLb then do
        let (x, r3) ← ex f 0 (ones + 1) 0 [] (stp r2)
        let r4 ← want mRb r3
        .ok ([⟨3, at' r, 0, m, n, [], x, [], []⟩], r4)
      else if tx r2 = mLp then
        if tx (stp r2) = mRp then .ok ([⟨6, at' r, 0, m, n, [], [], [], []⟩], stp (stp r2))
        else do
          let (l, r3) ← ex f 7 ones 0 [] (stp r2)
          let r4 ← want mRp r3
          .ok ([⟨6, at' r, 0, m, n, [], [], [], l⟩], r4)
      else .ok ([⟨2, at' r, 0, m, n, [], [], [], []⟩], r2)
    else if k = 7 then do
      let (x, r1) ← ex f 0 (ones + 1) 0 [] r
      if tx r1 = mComma then do
        let (l, r2) ← ex f 7 ones 0 [] (stp r1)
        .ok (x ++ l, r2)
      else .ok (x, r1)
    else if lvl (tx r) = k - 10 then do
      let (y, r1) ← ex f (k - 10 + 1) ones 0 [] (stp r)
      ex f k ones a [⟨5, a, 0, [], [], tx r, acc, y, []⟩] r1
    else .ok (acc, r)
def codeOf (l : List X) : Nat := match l with | x :: _ => x.code | [] => 0
def modOf (l : List X) : Bs := match l with | x :: _ => x.mod | [] => []
def nameOf (l : List X) : Bs := match l with | x :: _ => x.name | [] => []
def leftOf (l : List X) : List X := match l with | x :: _ => x.left | [] => []
/- STMTs. Of k: 0 STMTs, 1 those behind, 2 a STMT, 3 from if or elsif on. -/
def sx : Nat → Nat → Nat → List Tok → Except Er ((List S) × List Tok)
  | 0, _, _, _ => .error (99, 0)
  | f + 1, k, blocks, r =>
    if k = 0 then if 10 < blocks then .error (4, at' r) else sx f 1 blocks r
    else if k = 1 then
      if tx r = wEnd ∨ tx r = wElsif ∨ tx r = wElse then .ok ([], r) else do
        let (s, r1) ← sx f 2 blocks r
        let (l, r2) ← sx f 1 blocks r1
        .ok (s ++ l, r2)
    else if k = 2 then
      if tx r = wReturn ∨ tx r = wWrite then do
        let (x, r1) ← ex f 0 0 0 [] (stp r)
        let r2 ← want mSemi r1
        .ok ([⟨if tx r = wReturn then 4 else 5, at' r, [], [], x, [], []⟩], r2)
      else if tx r = wWhile then do
        let (x, r1) ← ex f 0 0 0 [] (stp r)
        let r2 ← want wDo r1
        let (l, r3) ← sx f 0 (blocks + 1) r2
        let r4 ← want wEnd r3
        let r5 ← want mSemi r4
        .ok ([⟨3, at' r, [], [], x, l, []⟩], r5)
      else if tx r = wIf then do
        let (s, r1) ← sx f 3 blocks r
        let r2 ← want wEnd r1
        let r3 ← want mSemi r2
        .ok (s, r3)
      else do
        let (x, r1) ← ex f 6 0 0 [] r
        if codeOf x = 6 then do
          let r2 ← want mSemi r1
          .ok ([⟨6, at' r, [], [], x, [], []⟩], r2)
        else if modOf x = [] then do
          let r2 ← want mSet r1
          let (y, r3) ← ex f 0 0 0 [] r2
          let r4 ← want mSemi r3
          .ok ([⟨1, at' r, nameOf x, leftOf x, y, [], []⟩], r4)
        else .error (3, at' r1)
    else do
      let (x, r1) ← ex f 0 0 0 [] (stp r)
      let r2 ← want wThen r1
      let (l, r3) ← sx f 0 (blocks + 1) r2
      if tx r3 = wElsif then do
        let (e, r4) ← sx f 3 (blocks + 1) r3
        .ok ([⟨2, at' r, [], [], x, l, e⟩], r4)
      else if tx r3 = wElse then do
        let (e, r4) ← sx f 0 (blocks + 1) (stp r3)
        .ok ([⟨2, at' r, [], [], x, l, e⟩], r4)
      else .ok ([⟨2, at' r, [], [], x, l, []⟩], r3)
def global (r : List Tok) : Except Er (G × List Tok) := do
  let (n, r1) ← name r
  let r2 := if tx r1 = mStar then stp r1 else r1
  let r3 ← want mColon r2
  if tx r3 = wInt then do
    let r4 ← want mSemi (stp r3)
    .ok (⟨n, at' r, 0, tx r1 == mStar⟩, r4)
  else do
    let r4 ← want wArray r3
    let (k, r5) ← number 30 r4
    if k = 0 then .error (2, at' r5) else do
      let r6 ← want mSemi r5
      .ok (⟨n, at' r, k, tx r1 == mStar⟩, r6)
def globals : Nat → Nat → List Tok → Except Er ((List G) × List Tok)
  | 0, _, r => .error (99, at' r)
  | f + 1, had, r => if tx r = wVar then
      if had = 10 then .error (4, at' (stp r)) else do
        let (g, r1) ← global (stp r)
        let (l, r2) ← globals f (had + 1) r1
        .ok (g :: l, r2)
    else .ok ([], r)
def proc (f : Nat) (r : List Tok) : Except Er (Pr × List Tok) := do
  let r1 ← want wProc r
  let (n, r2) ← name r1
  let r3 := if tx r2 = mStar then stp r2 else r2
  let r4 ← want mLp r3
  let (ps, r5) ← (if tx r4 = mRp then .ok ([], r4) else names 11 0 10 r4 : Except Er ((List Bs) × List Tok))
  let r6 ← want mRp r5
  let r7 ← want mSemi r6
  let (vs, r8) ← (if tx r7 = wVar then do
      let (vs, r8) ← names 11 ps.length 10 (stp r7)
      let r9 ← want mSemi r8
      .ok (vs, r9)
    else .ok ([], r7) : Except Er ((List Bs) × List Tok))
  let r9 ← want wBegin r8
  let (b, r10) ← sx f 0 0 r9
  let r11 ← want wEnd r10
  let r12 ← want mSemi r11
  .ok (⟨n, at' r, tx r2 == mStar, ps, vs, b⟩, r12)
def procs : Nat → Nat → Nat → List Tok → Except Er ((List Pr) × List Tok)
  | 0, _, _, r => .error (99, at' r)
  | f + 1, g, had, r => if tx r = wProc then
      if had = 10 then .error (4, at' r) else do
        let (p, r1) ← proc g r
        let (l, r2) ← procs f g (had + 1) r1
        .ok (p :: l, r2)
    else .ok ([], r)
def module (f : Nat) (r : List Tok) : Except Er M := do
  let r1 ← want wModule r
  let (n, r2) ← name r1
  let r3 ← want mSemi r2
  let (is, r4) ← (if tx r3 = wImport then do
      let (is, r4) ← names 7 0 6 (stp r3)
      let r5 ← want mSemi r4
      .ok (is, r5)
    else .ok ([], r3) : Except Er ((List Bs) × List Tok))
  let (gs, r5) ← globals 12 0 r4
  let (ps, r6) ← procs 12 f 0 r5
  let r7 ← want wBegin r6
  let (b, r8) ← sx f 0 0 r7
  let r9 ← want wEnd r8
  let r10 ← want mDot r9
  if (hd r10).kind = 0 then .ok ⟨n, is, gs, ps, b⟩ else .error (3, at' r10)
def parse (l : Bs) : Except Er M := do
  let ts ← scan (l.length + 1) 0 0 l
  module (20 * ts.length + 20) ts

def dec (n : Nat) : Bs := if h : n < 10 then [UInt8.ofNat (48 + n)] else dec (n / 10) ++ [UInt8.ofNat (48 + n % 10)]
def isLow (k : Nat) : List X → Bool
  | x :: _ => x.code == 5 && decide (lvl x.op < k)
  | [] => false
end Tp
namespace Tp
abbrev out {α : Type} : Except Er α := .error (99, 0)
theorem bind_ok {α β : Type} {a : Except Er α} {g : α → Except Er β} {v : β} (h : (a >>= g) = .ok v) : ∃ u, a = .ok u ∧ g u = .ok v := by
  cases a with
  | error e => cases h
  | ok u => exact ⟨u, rfl, h⟩
theorem bind_ne {α β : Type} {a : Except Er α} {g : α → Except Er β} (h1 : a ≠ out) (h2 : ∀ u, a = .ok u → g u ≠ out) : (a >>= g) ≠ out := by
  cases a with
  | error e => intro h; apply h1; cases h; rfl
  | ok u => exact h2 u rfl
theorem ite_ne {α : Type} {c : Prop} [Decidable c] {a b : Except Er α} (h1 : c → a ≠ out) (h2 : ¬ c → b ≠ out) : (if c then a else b) ≠ out := by
  split
  · exact h1 ‹_›
  · exact h2 ‹_›
theorem ok_ne {α : Type} (v : α) : (.ok v : Except Er α) ≠ out := by intro h; cases h
theorem er_ne {α : Type} {e : Er} (h : e.1 ≠ 99) : (.error e : Except Er α) ≠ out := by intro k; injection k with k; subst k; exact h rfl
/- an end has no text -/
def Gd (r : List Tok) : Prop := ∀ t, t ∈ r → t.kind = 0 → t.text = []
theorem Gd.suf {r r' : List Tok} (h : Gd r) (k : r' <:+ r) : Gd r' := fun t ht => h t (k.subset ht)
theorem stp_suf (r : List Tok) : stp r <:+ r := by
  unfold stp
  split
  · exact List.suffix_refl _
  · exact List.tail_suffix _
theorem stp_lt {r : List Tok} (h : Gd r) (k : tx r ≠ []) : (stp r).length < r.length := by
  cases r with
  | nil => exact absurd rfl k
  | cons t l =>
    have : (hd (t :: l)).kind ≠ 0 := fun e => k (h t (by simp) e)
    simp [stp, this]
theorem stp_lt' {r : List Tok} (k : (hd r).kind ≠ 0) : (stp r).length < r.length := by
  cases r with
  | nil => exact absurd rfl k
  | cons t l => simp [stp, k]
theorem want_ok {s : Bs} {r r' : List Tok} (h : want s r = .ok r') : tx r = s ∧ r' = stp r := by
  unfold want at h
  split at h
  · exact ⟨‹_›, by cases h; rfl⟩
  · cases h
theorem want_ne (s : Bs) (r : List Tok) : want s r ≠ out := by
  unfold want; exact ite_ne (fun _ => ok_ne _) (fun _ => er_ne (by simp))
theorem name_ok' {r r' : List Tok} {n : Bs} (h : name r = .ok (n, r')) : (hd r).kind = 1 ∧ tx r ∉ kept ∧ (tx r).length ≤ 10 ∧ n = tx r ∧ r' = stp r := by
  unfold name at h
  split at h
  · cases h
  · rename_i h1
    split at h
    · cases h
    · cases h
      rw [not_or] at h1
      refine ⟨by simpa using h1.1, h1.2, by omega, rfl, rfl⟩
theorem name_ne (r : List Tok) : name r ≠ out := by
  unfold name; exact ite_ne (fun _ => er_ne (by simp)) (fun _ => ite_ne (fun _ => er_ne (by simp)) (fun _ => ok_ne _))
theorem name_lt {r r' : List Tok} {n : Bs} (h : name r = .ok (n, r')) : r' <:+ r ∧ r'.length < r.length := by
  obtain ⟨h1, _, _, _, rfl⟩ := name_ok' h
  exact ⟨stp_suf r, stp_lt' (by omega)⟩
theorem number_ok' {m n : Nat} {r r' : List Tok} (h : number m r = .ok (n, r')) : (hd r).kind = 2 ∧ n = val (tx r) ∧ n ≤ m ∧ r' = stp r := by
  unfold number at h
  split at h
  · cases h
  · rename_i h1
    split at h
    · cases h
    · cases h
      exact ⟨by simpa using h1, rfl, by omega, rfl⟩
theorem number_ne (m : Nat) (r : List Tok) : number m r ≠ out := by
  unfold number; exact ite_ne (fun _ => er_ne (by simp)) (fun _ => ite_ne (fun _ => er_ne (by simp)) (fun _ => ok_ne _))
theorem number_lt {m n : Nat} {r r' : List Tok} (h : number m r = .ok (n, r')) : r' <:+ r ∧ r'.length < r.length := by
  obtain ⟨h1, _, _, rfl⟩ := number_ok' h
  exact ⟨stp_suf r, stp_lt' (by omega)⟩
theorem want_lt {s : Bs} {r r' : List Tok} (hg : Gd r) (hs : s ≠ []) (h : want s r = .ok r') : r' <:+ r ∧ r'.length < r.length := by
  obtain ⟨h1, rfl⟩ := want_ok h
  exact ⟨stp_suf r, stp_lt hg (by rw [h1]; exact hs)⟩
theorem stp_lt_of {r : List Tok} {s : Bs} (hg : Gd r) (hs : s ≠ []) (h : tx r = s) : (stp r).length < r.length := stp_lt hg (by rw [h]; exact hs)
theorem lvl_nil : lvl [] = 5 := by decide
/- what begins with a REF: its name, and the tokens behind it -/
def refT (r : List Tok) : Except Er ((Bs × Bs) × List Tok) := do
  let (n1, r1) ← name r
  (if tx r1 = mDot then do
      let (n2, r2) ← name (stp r1)
      .ok ((n1, n2), r2)
    else .ok (([], n1), r1) : Except Er ((Bs × Bs) × List Tok))
def behind (f ones a : Nat) (m n : Bs) (r2 : List Tok) : Except Er ((List X) × List Tok) :=
  if tx r2 = mLb then do
    let (x, r3) ← ex f 0 (ones + 1) 0 [] (stp r2)
    let r4 ← want mRb r3
    .ok ([⟨3, a, 0, m, n, [], x, [], []⟩], r4)
  else if tx r2 = mLp then
    if tx (stp r2) = mRp then .ok ([⟨6, a, 0, m, n, [], [], [], []⟩], stp (stp r2))
    else do
      let (l, r3) ← ex f 7 ones 0 [] (stp r2)
      let r4 ← want mRp r3
      .ok ([⟨6, a, 0, m, n, [], [], [], l⟩], r4)
  else .ok ([⟨2, a, 0, m, n, [], [], [], []⟩], r2)
theorem ex6 (f ones a : Nat) (acc : List X) (r : List Tok) : ex (f + 1) 6 ones a acc r = (do let ((m, n), r2) ← refT r; behind f ones (at' r) m n r2) := by
  rw [ex]
  unfold refT behind
  simp only [show ¬ (6 < 5) by omega, if_false, show ¬ (6 = 5) by omega, if_true]
  cases name r with
  | error e => rfl
  | ok v =>
    obtain ⟨n1, r1⟩ := v
    simp only [bind, Except.bind]
theorem refT_lt {r r' : List Tok} {v : Bs × Bs} (h : refT r = .ok (v, r')) : r' <:+ r ∧ r'.length < r.length := by
  unfold refT at h
  obtain ⟨⟨n1, r1⟩, h1, h2⟩ := bind_ok h
  have k1 := name_lt h1
  simp only at h2
  split at h2
  · obtain ⟨⟨n2, r2⟩, h3, h4⟩ := bind_ok h2
    have k2 := name_lt h3
    have k3 := stp_suf r1
    have k4 := k3.length_le
    cases h4
    exact ⟨(k2.1.trans k3).trans k1.1, show r2.length < r.length by omega⟩
  · cases h2
    exact k1
theorem refT_ne (r : List Tok) : refT r ≠ out := by
  unfold refT
  refine bind_ne (name_ne r) fun v _ => ?_
  exact ite_ne (fun _ => bind_ne (name_ne _) fun u _ => ok_ne _) (fun _ => ok_ne _)
theorem ex_lt (f : Nat) : ∀ k o a acc r x r', Gd r → ex f k o a acc r = .ok (x, r') → r' <:+ r ∧ (k ≤ 7 → r'.length < r.length) := by
  induction f with
  | zero => intro k o a acc r x r' _ h; rw [ex] at h; cases h
  | succ f ih =>
    intro k o a acc r x r' hg h
    by_cases h6 : k = 6
    · subst h6
      rw [ex6] at h
      obtain ⟨⟨⟨m, n⟩, r2⟩, h1, h2⟩ := bind_ok h
      have k1 := refT_lt h1
      have g2 := hg.suf k1.1
      simp only [behind] at h2
      have k0 := stp_suf r2
      have k0l := k0.length_le
      split at h2
      · obtain ⟨⟨y, r3⟩, h3, h4⟩ := bind_ok h2
        have k2 := ih _ _ _ _ _ _ _ (g2.suf k0) h3
        have k2l := k2.1.length_le
        obtain ⟨r4, h5, h6⟩ := bind_ok h4
        have k3 := want_lt ((g2.suf k0).suf k2.1) (by decide) h5
        cases h6
        exact ⟨((k3.1.trans k2.1).trans k0).trans k1.1, fun _ => by omega⟩
      · split at h2
        · split at h2
          · cases h2
            have k3 := stp_suf (stp r2)
            have k3l := k3.length_le
            exact ⟨(k3.trans k0).trans k1.1, fun _ => by omega⟩
          · obtain ⟨⟨y, r3⟩, h3, h4⟩ := bind_ok h2
            have k2 := ih _ _ _ _ _ _ _ (g2.suf k0) h3
            have k2l := k2.1.length_le
            obtain ⟨r4, h5, h6⟩ := bind_ok h4
            have k3 := want_lt ((g2.suf k0).suf k2.1) (by decide) h5
            cases h6
            exact ⟨((k3.1.trans k2.1).trans k0).trans k1.1, fun _ => by omega⟩
        · cases h2
          exact ⟨k1.1, fun _ => k1.2⟩
    · rw [ex] at h
      split at h
      · obtain ⟨⟨y, r1⟩, h1, h2⟩ := bind_ok h
        have k1 := ih _ _ _ _ _ _ _ hg h1
        have k2 := ih _ _ _ _ _ _ _ (hg.suf k1.1) h2
        have := k2.1.length_le
        have := k1.2 (by omega)
        exact ⟨k2.1.trans k1.1, fun _ => by omega⟩
      · split at h
        · split at h
          · cases h
          · split at h
            · obtain ⟨⟨y, r1⟩, h1, h2⟩ := bind_ok h
              have k1 := number_lt h1
              cases h2
              exact ⟨k1.1, fun _ => k1.2⟩
            · split at h
              · rename_i hm
                obtain ⟨⟨y, r1⟩, h1, h2⟩ := bind_ok h
                have k0 := stp_suf r
                have := k0.length_le
                have k1 := ih _ _ _ _ _ _ _ (hg.suf k0) h1
                have := k1.2 (by omega)
                cases h2
                exact ⟨k1.1.trans k0, fun _ => by omega⟩
              · split at h
                · obtain ⟨⟨y, r1⟩, h1, h2⟩ := bind_ok h
                  have k0 := stp_suf r
                  have := k0.length_le
                  have k1 := ih _ _ _ _ _ _ _ (hg.suf k0) h1
                  have := k1.2 (by omega)
                  obtain ⟨r2, h3, h4⟩ := bind_ok h2
                  have k2 := want_lt ((hg.suf k0).suf k1.1) (by decide) h3
                  cases h4
                  exact ⟨(k2.1.trans k1.1).trans k0, fun _ => by omega⟩
                · have k1 := ih _ _ _ _ _ _ _ hg h
                  exact ⟨k1.1, fun _ => k1.2 (by omega)⟩
        · split at h
          · obtain ⟨⟨y, r1⟩, h1, h2⟩ := bind_ok h
            have k1 := ih _ _ _ _ _ _ _ hg h1
            have := k1.2 (by omega)
            simp only at h2
            split at h2
            · obtain ⟨⟨l, r2⟩, h3, h4⟩ := bind_ok h2
              have k0 := stp_suf r1
              have := k0.length_le
              have k2 := ih _ _ _ _ _ _ _ ((hg.suf k1.1).suf k0) h3
              have := k2.1.length_le
              cases h4
              exact ⟨(k2.1.trans k0).trans k1.1, fun _ => show r2.length < r.length by omega⟩
            · cases h2
              exact ⟨k1.1, fun _ => by omega⟩
          · split at h
            · obtain ⟨⟨y, r1⟩, h1, h2⟩ := bind_ok h
              have k0 := stp_suf r
              have := k0.length_le
              have k1 := ih _ _ _ _ _ _ _ (hg.suf k0) h1
              have k2 := ih _ _ _ _ _ _ _ ((hg.suf k0).suf k1.1) h2
              exact ⟨(k2.1.trans k1.1).trans k0, fun _ => by omega⟩
            · cases h
              exact ⟨List.suffix_refl _, fun _ => by omega⟩
def rk (k : Nat) : Nat := if k < 5 then 7 - k else if k = 5 then 2 else if k = 7 then 8 else 1
theorem ex_fuel (f : Nat) : ∀ k o a acc r, Gd r → k ≤ 7 ∨ 10 ≤ k ∧ k < 15 → 10 * r.length + rk k ≤ f → ex f k o a acc r ≠ out := by
  induction f with
  | zero => intro k o a acc r _ _ h; unfold rk at h; split at h <;> (try split at h) <;> (try split at h) <;> omega
  | succ f ih =>
    intro k o a acc r hg hk hf
    by_cases h6 : k = 6
    · subst h6
      rw [ex6]
      simp only [rk, show ¬ (6 < 5) by omega, if_false, show ¬ (6 = 5) by omega, show ¬ (6 = 7) by omega] at hf
      refine bind_ne (refT_ne r) ?_
      rintro ⟨⟨m, n⟩, r2⟩ h1
      have k1 := refT_lt h1
      have g2 := hg.suf k1.1
      have k0 := stp_suf r2
      have := k0.length_le
      simp only [behind]
      refine ite_ne (fun _ => bind_ne (ih _ _ _ _ _ (g2.suf k0) (by omega) (by simp only [rk, show 0 < 5 by omega, if_true]; omega)) fun v _ => bind_ne (want_ne _ _) fun u _ => ok_ne _) (fun _ => ite_ne (fun _ => ite_ne (fun _ => ok_ne _) (fun _ => ?_)) (fun _ => ok_ne _))
      exact bind_ne (ih _ _ _ _ _ (g2.suf k0) (by omega) (by simp only [rk, show ¬ (7 < 5) by omega, if_false, show ¬ (7 = 5) by omega, if_true]; omega)) fun v _ => bind_ne (want_ne _ _) fun u _ => ok_ne _
    · rw [ex]
      refine ite_ne (fun h5 => ?_) (fun h5 => ite_ne (fun e5 => ?_) (fun e5 => ?_))
      · simp only [rk, h5, if_true] at hf
        refine bind_ne (ih _ _ _ _ _ hg (by omega) (by unfold rk; split <;> (try split) <;> omega)) ?_
        rintro ⟨y, r1⟩ h1
        have k1 := ex_lt f _ _ _ _ _ _ _ hg h1
        have := k1.2 (by omega)
        exact ih _ _ _ _ _ (hg.suf k1.1) (by omega) (by simp only [rk, show ¬ (10 + k < 5) by omega, if_false, show ¬ (10 + k = 5) by omega, show ¬ (10 + k = 7) by omega]; omega)
      · subst e5
        simp only [rk, show ¬ (5 < 5) by omega, if_false, if_true] at hf
        refine ite_ne (fun _ => er_ne (by simp)) (fun _ => ite_ne (fun _ => bind_ne (number_ne _ _) fun u _ => ok_ne _) (fun _ => ite_ne (fun hm => ?_) (fun _ => ite_ne (fun hm => ?_) (fun _ => ?_))))
        · have hl : (stp r).length < r.length := by rcases hm with hm | hm <;> exact stp_lt_of hg (by decide) hm
          exact bind_ne (ih _ _ _ _ _ (hg.suf (stp_suf r)) (by omega) (by simp only [rk, show ¬ (5 < 5) by omega, if_false, if_true]; omega)) fun u _ => ok_ne _
        · have hl : (stp r).length < r.length := stp_lt_of hg (by decide) hm
          exact bind_ne (ih _ _ _ _ _ (hg.suf (stp_suf r)) (by omega) (by simp only [rk, show 0 < 5 by omega, if_true]; omega)) fun u _ => bind_ne (want_ne _ _) fun u _ => ok_ne _
        · exact ih _ _ _ _ _ hg (by omega) (by simp only [rk, show ¬ (6 < 5) by omega, if_false, show ¬ (6 = 5) by omega, show ¬ (6 = 7) by omega]; omega)
      · rw [if_neg h6]
        refine ite_ne (fun e7 => ?_) (fun e7 => ite_ne (fun hl => ?_) (fun _ => ok_ne _))
        · subst e7
          simp only [rk, show ¬ (7 < 5) by omega, if_false, show ¬ (7 = 5) by omega, if_true] at hf
          refine bind_ne (ih _ _ _ _ _ hg (by omega) (by simp only [rk, show 0 < 5 by omega, if_true]; omega)) ?_
          rintro ⟨y, r1⟩ h1
          have k1 := ex_lt f _ _ _ _ _ _ _ hg h1
          have := k1.2 (by omega)
          refine ite_ne (fun hc => ?_) (fun _ => ok_ne _)
          have := stp_lt_of (hg.suf k1.1) (by decide) hc
          exact bind_ne (ih _ _ _ _ _ ((hg.suf k1.1).suf (stp_suf r1)) (by omega) (by simp only [rk, show ¬ (7 < 5) by omega, if_false, show ¬ (7 = 5) by omega, if_true]; omega)) fun u _ => ok_ne _
        · simp only [rk, h5, if_false, e5, e7] at hf
          have hs : (stp r).length < r.length := stp_lt hg (by intro e; rw [e, lvl_nil] at hl; omega)
          refine bind_ne (ih _ _ _ _ _ (hg.suf (stp_suf r)) (by omega) (by unfold rk; split <;> (try split) <;> omega)) ?_
          rintro ⟨y, r1⟩ h1
          have k1 := ex_lt f _ _ _ _ _ _ _ (hg.suf (stp_suf r)) h1
          have := k1.1.length_le
          exact ih _ _ _ _ _ ((hg.suf (stp_suf r)).suf k1.1) (by omega) (by simp only [rk, h5, if_false, e5, e7]; omega)
theorem sx_lt (f : Nat) : ∀ k b r x r', Gd r → sx f k b r = .ok (x, r') → r' <:+ r ∧ (2 ≤ k → r'.length < r.length) := by
  induction f with
  | zero => intro k b r x r' _ h; rw [sx] at h; cases h
  | succ f ih =>
    intro k b r x r' hg h
    have k0 := stp_suf r
    have k0l := k0.length_le
    have g0 := hg.suf k0
    rw [sx] at h
    split at h
    · split at h
      · cases h
      · have k1 := ih _ _ _ _ _ hg h
        exact ⟨k1.1, fun _ => by omega⟩
    · split at h
      · split at h
        · cases h; exact ⟨List.suffix_refl _, fun _ => by omega⟩
        · obtain ⟨⟨s, r1⟩, h1, h2⟩ := bind_ok h
          have k1 := ih _ _ _ _ _ hg h1
          obtain ⟨⟨l, r2⟩, h3, h4⟩ := bind_ok h2
          have k2 := ih _ _ _ _ _ (hg.suf k1.1) h3
          cases h4
          exact ⟨k2.1.trans k1.1, fun _ => by omega⟩
      · split at h
        · split at h
          · obtain ⟨⟨x1, r1⟩, h1, h2⟩ := bind_ok h
            have k1 := ex_lt f _ _ _ _ _ _ _ g0 h1
            have k1l := k1.1.length_le
            obtain ⟨r2, h3, h4⟩ := bind_ok h2
            have k2 := want_lt (g0.suf k1.1) (by decide) h3
            cases h4
            exact ⟨(k2.1.trans k1.1).trans k0, fun _ => by omega⟩
          · split at h
            · obtain ⟨⟨x1, r1⟩, h1, h2⟩ := bind_ok h
              have k1 := ex_lt f _ _ _ _ _ _ _ g0 h1
              have k1l := k1.1.length_le
              obtain ⟨r2, h3, h4⟩ := bind_ok h2
              have g1 := g0.suf k1.1
              have k2 := want_lt g1 (by decide) h3
              obtain ⟨⟨l, r3⟩, h5, h6⟩ := bind_ok h4
              have g2 := g1.suf k2.1
              have k3 := ih _ _ _ _ _ g2 h5
              have k3l := k3.1.length_le
              have g3 := g2.suf k3.1
              obtain ⟨r4, h7, h8⟩ := bind_ok h6
              have k4 := want_lt g3 (by decide) h7
              obtain ⟨r5, h9, h10⟩ := bind_ok h8
              have k5 := want_lt (g3.suf k4.1) (by decide) h9
              cases h10
              exact ⟨((((k5.1.trans k4.1).trans k3.1).trans k2.1).trans k1.1).trans k0, fun _ => by omega⟩
            · split at h
              · obtain ⟨⟨s, r1⟩, h1, h2⟩ := bind_ok h
                have k1 := ih _ _ _ _ _ hg h1
                have k1l := k1.1.length_le
                obtain ⟨r2, h3, h4⟩ := bind_ok h2
                have k2 := want_lt (hg.suf k1.1) (by decide) h3
                obtain ⟨r3, h5, h6⟩ := bind_ok h4
                have k3 := want_lt ((hg.suf k1.1).suf k2.1) (by decide) h5
                cases h6
                exact ⟨(k3.1.trans k2.1).trans k1.1, fun _ => by omega⟩
              · obtain ⟨⟨x1, r1⟩, h1, h2⟩ := bind_ok h
                have k1 := ex_lt f _ _ _ _ _ _ _ hg h1
                have k1l := k1.2 (by omega)
                simp only at h2
                split at h2
                · obtain ⟨r2, h3, h4⟩ := bind_ok h2
                  have k2 := want_lt (hg.suf k1.1) (by decide) h3
                  cases h4
                  exact ⟨k2.1.trans k1.1, fun _ => by omega⟩
                · split at h2
                  · obtain ⟨r2, h3, h4⟩ := bind_ok h2
                    have k2 := want_lt (hg.suf k1.1) (by decide) h3
                    have g2 := (hg.suf k1.1).suf k2.1
                    obtain ⟨⟨y, r3⟩, h5, h6⟩ := bind_ok h4
                    have k3 := ex_lt f _ _ _ _ _ _ _ g2 h5
                    have k3l := k3.1.length_le
                    obtain ⟨r4, h7, h8⟩ := bind_ok h6
                    have k4 := want_lt (g2.suf k3.1) (by decide) h7
                    cases h8
                    exact ⟨((k4.1.trans k3.1).trans k2.1).trans k1.1, fun _ => by omega⟩
                  · cases h2
        · obtain ⟨⟨x1, r1⟩, h1, h2⟩ := bind_ok h
          have k1 := ex_lt f _ _ _ _ _ _ _ g0 h1
          have k1l := k1.1.length_le
          obtain ⟨r2, h3, h4⟩ := bind_ok h2
          have g1 := g0.suf k1.1
          have k2 := want_lt g1 (by decide) h3
          obtain ⟨⟨l, r3⟩, h5, h6⟩ := bind_ok h4
          have g2 := g1.suf k2.1
          have k3 := ih _ _ _ _ _ g2 h5
          have k3l := k3.1.length_le
          have g3 := g2.suf k3.1
          simp only at h6
          split at h6
          · obtain ⟨⟨e, r4⟩, h7, h8⟩ := bind_ok h6
            have k4 := ih _ _ _ _ _ g3 h7
            have k4l := k4.1.length_le
            cases h8
            exact ⟨(((k4.1.trans k3.1).trans k2.1).trans k1.1).trans k0, fun _ => show r4.length < r.length by omega⟩
          · split at h6
            · obtain ⟨⟨e, r4⟩, h7, h8⟩ := bind_ok h6
              have k5 := stp_suf r3
              have k5l := k5.length_le
              have k4 := ih _ _ _ _ _ (g3.suf k5) h7
              have k4l := k4.1.length_le
              cases h8
              exact ⟨((((k4.1.trans k5).trans k3.1).trans k2.1).trans k1.1).trans k0, fun _ => show r4.length < r.length by omega⟩
            · cases h6
              exact ⟨((k3.1.trans k2.1).trans k1.1).trans k0, fun _ => by omega⟩
theorem sx_fuel (f : Nat) : ∀ k b r, Gd r → 10 * r.length + 6 - k ≤ f → 10 * r.length + 2 ≤ f → (3 ≤ k → tx r ≠ []) → sx f k b r ≠ out := by
  induction f with
  | zero => intro k b r _ _ h _; omega
  | succ f ih =>
    intro k b r hg hf hf2 h3
    have k0 := stp_suf r
    have k0l := k0.length_le
    have g0 := hg.suf k0
    rw [sx]
    refine ite_ne (fun e0 => ite_ne (fun _ => er_ne (by simp)) (fun _ => ih _ _ _ hg (by omega) (by omega) (by omega))) (fun e0 => ite_ne (fun e1 => ite_ne (fun _ => ok_ne _) (fun _ => ?_)) (fun e1 => ite_ne (fun e2 => ?_) (fun e2 => ?_)))
    · refine bind_ne (ih _ _ _ hg (by omega) (by omega) (by omega)) ?_
      rintro ⟨s, r1⟩ h1
      have k1 := sx_lt f _ _ _ _ _ hg h1
      have := k1.2 (by omega)
      exact bind_ne (ih _ _ _ (hg.suf k1.1) (by omega) (by omega) (by omega)) fun u _ => ok_ne _
    · subst e2
      have hex0 : (stp r).length < r.length → ex f 0 0 0 [] (stp r) ≠ out := fun hl => ex_fuel f 0 0 0 [] (stp r) g0 (by omega) (by simp only [rk, show 0 < 5 by omega, if_true]; omega)
      refine ite_ne (fun hm => ?_) (fun _ => ite_ne (fun hm => ?_) (fun _ => ite_ne (fun hm => ?_) (fun _ => ?_)))
      · have hl : (stp r).length < r.length := by rcases hm with hm | hm <;> exact stp_lt_of hg (by decide) hm
        exact bind_ne (hex0 hl) fun u _ => bind_ne (want_ne _ _) fun u _ => ok_ne _
      · have hl : (stp r).length < r.length := stp_lt_of hg (by decide) hm
        refine bind_ne (hex0 hl) ?_
        rintro ⟨x1, r1⟩ h1
        have k1 := ex_lt f _ _ _ _ _ _ _ g0 h1
        have k1l := k1.1.length_le
        refine bind_ne (want_ne _ _) ?_
        intro r2 h3
        have k2 := want_lt (g0.suf k1.1) (by decide) h3
        exact bind_ne (ih _ _ _ ((g0.suf k1.1).suf k2.1) (by omega) (by omega) (by omega)) fun u _ => bind_ne (want_ne _ _) fun u _ => bind_ne (want_ne _ _) fun u _ => ok_ne _
      · exact bind_ne (ih _ _ _ hg (by omega) (by have := stp_lt_of hg (by decide) hm; omega) (by intro _; rw [hm]; decide)) fun u _ => bind_ne (want_ne _ _) fun u _ => bind_ne (want_ne _ _) fun u _ => ok_ne _
      · refine bind_ne (ex_fuel f 6 0 0 [] r hg (by omega) (by simp only [rk, show ¬ (6 < 5) by omega, if_false, show ¬ (6 = 5) by omega, show ¬ (6 = 7) by omega]; omega)) ?_
        rintro ⟨x1, r1⟩ h1
        have k1 := ex_lt f _ _ _ _ _ _ _ hg h1
        have k1l := k1.2 (by omega)
        refine ite_ne (fun _ => bind_ne (want_ne _ _) fun u _ => ok_ne _) (fun _ => ite_ne (fun _ => bind_ne (want_ne _ _) ?_) (fun _ => er_ne (by simp)))
        intro r2 h3
        have k2 := want_lt (hg.suf k1.1) (by decide) h3
        exact bind_ne (ex_fuel f 0 0 0 [] r2 ((hg.suf k1.1).suf k2.1) (by omega) (by simp only [rk, show 0 < 5 by omega, if_true]; omega)) fun u _ => bind_ne (want_ne _ _) fun u _ => ok_ne _
    · have hl : (stp r).length < r.length := stp_lt hg (h3 (by omega))
      · refine bind_ne (ex_fuel f 0 0 0 [] (stp r) g0 (by omega) (by simp only [rk, show 0 < 5 by omega, if_true]; omega)) ?_
        rintro ⟨x1, r1⟩ h1
        have k1 := ex_lt f _ _ _ _ _ _ _ g0 h1
        have k1l := k1.1.length_le
        refine bind_ne (want_ne _ _) ?_
        intro r2 h3
        have g1 := g0.suf k1.1
        have k2 := want_lt g1 (by decide) h3
        refine bind_ne (ih _ _ _ (g1.suf k2.1) (by omega) (by omega) (by omega)) ?_
        rintro ⟨l, r3⟩ h5
        have g2 := g1.suf k2.1
        have k3 := sx_lt f _ _ _ _ _ g2 h5
        have k3l := k3.1.length_le
        have k5 := stp_suf r3
        have k5l := k5.length_le
        exact ite_ne (fun he => bind_ne (ih _ _ _ (g2.suf k3.1) (by omega) (by omega) (by intro _; rw [he]; decide)) fun u _ => ok_ne _) (fun _ => ite_ne (fun _ => bind_ne (ih _ _ _ ((g2.suf k3.1).suf k5) (by omega) (by omega) (by omega)) fun u _ => ok_ne _) (fun _ => ok_ne _))

theorem names_suf (f : Nat) : ∀ had most r l r', names f had most r = .ok (l, r') → r' <:+ r := by
  induction f with
  | zero => intro had most r l r' h; cases h
  | succ f ih =>
    intro had most r l r' h
    rw [names] at h
    split at h
    · cases h
    · obtain ⟨⟨n, r1⟩, h1, h2⟩ := bind_ok h
      have k1 := name_lt h1
      simp only at h2
      split at h2
      · obtain ⟨⟨l', r2⟩, h3, h4⟩ := bind_ok h2
        have k2 := ih _ _ _ _ _ h3
        cases h4
        exact (k2.trans (stp_suf r1)).trans k1.1
      · cases h2
        exact k1.1
theorem names_ne (f : Nat) : ∀ had most r, 1 ≤ f → most + 1 ≤ f + had → names f had most r ≠ out := by
  induction f with
  | zero => intro had most r h; omega
  | succ f ih =>
    intro had most r _ h2
    rw [names]
    refine ite_ne (fun _ => er_ne (by simp)) (fun hm => bind_ne (name_ne r) ?_)
    rintro ⟨n, r1⟩ _
    exact ite_ne (fun _ => bind_ne (ih _ _ _ (by omega) (by omega)) fun u _ => ok_ne _) (fun _ => ok_ne _)
theorem if_suf {r r' : List Tok} {s : Bs} (h : r' = if tx r = s then stp r else r) : r' <:+ r := by
  subst h
  split
  · exact stp_suf r
  · exact List.suffix_refl _
theorem ifT_suf (r : List Tok) (s : Bs) : (if tx r = s then stp r else r) <:+ r := if_suf rfl
theorem want_suf {s : Bs} {r r' : List Tok} (h : want s r = .ok r') : r' <:+ r := by obtain ⟨_, rfl⟩ := want_ok h; exact stp_suf r
theorem global_suf {r r' : List Tok} {g : G} (h : global r = .ok (g, r')) : r' <:+ r := by
  unfold global at h
  obtain ⟨⟨n, r1⟩, h1, h2⟩ := bind_ok h
  have k1 := (name_lt h1).1
  obtain ⟨r3, h3, h4⟩ := bind_ok h2
  have k3 := (want_suf h3).trans ((ifT_suf r1 mStar).trans k1)
  simp only at h4
  split at h4
  · obtain ⟨r4, h5, h6⟩ := bind_ok h4
    cases h6
    exact (want_suf h5).trans ((stp_suf r3).trans k3)
  · obtain ⟨r4, h5, h6⟩ := bind_ok h4
    have k4 := (want_suf h5).trans k3
    obtain ⟨⟨k, r5⟩, h7, h8⟩ := bind_ok h6
    have k5 := (number_lt h7).1.trans k4
    simp only at h8
    split at h8
    · cases h8
    · obtain ⟨r6, h9, h10⟩ := bind_ok h8
      cases h10
      exact (want_suf h9).trans k5
theorem global_ne (r : List Tok) : global r ≠ out := by
  unfold global
  refine bind_ne (name_ne r) fun v _ => bind_ne (want_ne _ _) fun r3 _ => ite_ne (fun _ => bind_ne (want_ne _ _) fun _ _ => ok_ne _) (fun _ => bind_ne (want_ne _ _) fun _ _ => bind_ne (number_ne _ _) fun _ _ => ?_)
  exact ite_ne (fun _ => er_ne (by simp)) (fun _ => bind_ne (want_ne _ _) fun _ _ => ok_ne _)
theorem globals_suf (f : Nat) : ∀ had r l r', globals f had r = .ok (l, r') → r' <:+ r := by
  induction f with
  | zero => intro had r l r' h; cases h
  | succ f ih =>
    intro had r l r' h
    rw [globals] at h
    split at h
    · split at h
      · cases h
      · obtain ⟨⟨g, r1⟩, h1, h2⟩ := bind_ok h
        obtain ⟨⟨l', r2⟩, h3, h4⟩ := bind_ok h2
        cases h4
        exact (ih _ _ _ _ h3).trans ((global_suf h1).trans (stp_suf r))
    · cases h
      exact List.suffix_refl _
theorem globals_ne (f : Nat) : ∀ had r, 12 ≤ f + had → 1 ≤ f → had ≤ 10 → globals f had r ≠ out := by
  induction f with
  | zero => intro had r _ h; omega
  | succ f ih =>
    intro had r h1 _ h2
    rw [globals]
    refine ite_ne (fun _ => ite_ne (fun _ => er_ne (by simp)) (fun hh => bind_ne (global_ne _) fun v _ => bind_ne (ih _ _ (by omega) (by omega) (by omega)) fun _ _ => ok_ne _)) (fun _ => ok_ne _)
theorem proc_suf {f : Nat} {r r' : List Tok} {p : Pr} (hg : Gd r) (h : proc f r = .ok (p, r')) : r' <:+ r := by
  unfold proc at h
  obtain ⟨r1, h1, h2⟩ := bind_ok h
  have k1 := want_suf h1
  obtain ⟨⟨n, r2⟩, h3, h4⟩ := bind_ok h2
  have k2 := (name_lt h3).1.trans k1
  obtain ⟨r4, h5, h6⟩ := bind_ok h4
  have k4 := (want_suf h5).trans ((ifT_suf r2 mStar).trans k2)
  obtain ⟨⟨ps, r5⟩, h7, h8⟩ := bind_ok h6
  have k5 : r5 <:+ r := by
    split at h7
    · cases h7; exact k4
    · exact (names_suf _ _ _ _ _ _ h7).trans k4
  obtain ⟨r6, h9, h10⟩ := bind_ok h8
  obtain ⟨r7, h11, h12⟩ := bind_ok h10
  have k7 := (want_suf h11).trans ((want_suf h9).trans k5)
  obtain ⟨⟨vs, r8⟩, h13, h14⟩ := bind_ok h12
  have k8 : r8 <:+ r := by
    split at h13
    · obtain ⟨⟨vs', r8'⟩, h15, h16⟩ := bind_ok h13
      obtain ⟨r9, h17, h18⟩ := bind_ok h16
      cases h18
      exact (want_suf h17).trans ((names_suf _ _ _ _ _ _ h15).trans ((stp_suf r7).trans k7))
    · cases h13; exact k7
  obtain ⟨r9, h15, h16⟩ := bind_ok h14
  have k9 := (want_suf h15).trans k8
  obtain ⟨⟨b, r10⟩, h17, h18⟩ := bind_ok h16
  have k10 := (sx_lt f _ _ _ _ _ (hg.suf k9) h17).1.trans k9
  obtain ⟨r11, h19, h20⟩ := bind_ok h18
  obtain ⟨r12, h21, h22⟩ := bind_ok h20
  cases h22
  exact (want_suf h21).trans ((want_suf h19).trans k10)
theorem proc_ne {f : Nat} {r : List Tok} (hg : Gd r) (hf : 10 * r.length + 6 ≤ f) : proc f r ≠ out := by
  unfold proc
  refine bind_ne (want_ne _ _) fun r1 h1 => bind_ne (name_ne _) ?_
  rintro ⟨n, r2⟩ h3
  have k2 := (name_lt h3).1.trans (want_suf h1)
  refine bind_ne (want_ne _ _) fun r4 h5 => ?_
  have k4 := (want_suf h5).trans ((ifT_suf r2 mStar).trans k2)
  refine bind_ne (ite_ne (fun _ => ok_ne _) (fun _ => names_ne _ _ _ _ (by omega) (by omega))) ?_
  rintro ⟨ps, r5⟩ h7
  have k5 : r5 <:+ r := by
    split at h7
    · cases h7; exact k4
    · exact (names_suf _ _ _ _ _ _ h7).trans k4
  refine bind_ne (want_ne _ _) fun r6 h9 => bind_ne (want_ne _ _) fun r7 h11 => ?_
  have k7 := (want_suf h11).trans ((want_suf h9).trans k5)
  refine bind_ne (ite_ne (fun _ => bind_ne (names_ne _ _ _ _ (by omega) (by omega)) fun _ _ => bind_ne (want_ne _ _) fun _ _ => ok_ne _) (fun _ => ok_ne _)) ?_
  rintro ⟨vs, r8⟩ h13
  have k8 : r8 <:+ r := by
    split at h13
    · obtain ⟨⟨vs', r8'⟩, h15, h16⟩ := bind_ok h13
      obtain ⟨r9, h17, h18⟩ := bind_ok h16
      cases h18
      exact (want_suf h17).trans ((names_suf _ _ _ _ _ _ h15).trans ((stp_suf r7).trans k7))
    · cases h13; exact k7
  refine bind_ne (want_ne _ _) fun r9 h15 => ?_
  have k9 := (want_suf h15).trans k8
  have := k9.length_le
  exact bind_ne (sx_fuel f _ _ _ (hg.suf k9) (by omega) (by omega) (by omega)) fun _ _ => bind_ne (want_ne _ _) fun _ _ => bind_ne (want_ne _ _) fun _ _ => ok_ne _
theorem procs_suf (f : Nat) : ∀ g had r l r', Gd r → procs f g had r = .ok (l, r') → r' <:+ r := by
  induction f with
  | zero => intro g had r l r' _ h; cases h
  | succ f ih =>
    intro g had r l r' hg h
    rw [procs] at h
    split at h
    · split at h
      · cases h
      · obtain ⟨⟨p, r1⟩, h1, h2⟩ := bind_ok h
        have k1 := proc_suf hg h1
        obtain ⟨⟨l', r2⟩, h3, h4⟩ := bind_ok h2
        cases h4
        exact (ih _ _ _ _ _ (hg.suf k1) h3).trans k1
    · cases h
      exact List.suffix_refl _
theorem procs_ne (f : Nat) : ∀ g had r, Gd r → 10 * r.length + 6 ≤ g → 12 ≤ f + had → 1 ≤ f → had ≤ 10 → procs f g had r ≠ out := by
  induction f with
  | zero => intro g had r _ _ _ h; omega
  | succ f ih =>
    intro g had r hg hf h1 _ h2
    rw [procs]
    refine ite_ne (fun _ => ite_ne (fun _ => er_ne (by simp)) (fun hh => bind_ne (proc_ne hg hf) ?_)) (fun _ => ok_ne _)
    rintro ⟨p, r1⟩ h3
    have k1 := proc_suf hg h3
    have := k1.length_le
    exact bind_ne (ih _ _ _ (hg.suf k1) (by omega) (by omega) (by omega) (by omega)) fun _ _ => ok_ne _
theorem module_ne {f : Nat} {r : List Tok} (hg : Gd r) (hf : 10 * r.length + 6 ≤ f) : module f r ≠ out := by
  unfold module
  refine bind_ne (want_ne _ _) fun r1 h1 => bind_ne (name_ne _) ?_
  rintro ⟨n, r2⟩ h3
  have k2 := (name_lt h3).1.trans (want_suf h1)
  refine bind_ne (want_ne _ _) fun r3 h5 => ?_
  have k3 := (want_suf h5).trans k2
  refine bind_ne (ite_ne (fun _ => bind_ne (names_ne _ _ _ _ (by omega) (by omega)) fun _ _ => bind_ne (want_ne _ _) fun _ _ => ok_ne _) (fun _ => ok_ne _)) ?_
  rintro ⟨vs, r4⟩ h7
  have k4 : r4 <:+ r := by
    split at h7
    · obtain ⟨⟨vs', r8'⟩, h15, h16⟩ := bind_ok h7
      obtain ⟨r9, h17, h18⟩ := bind_ok h16
      cases h18
      exact (want_suf h17).trans ((names_suf _ _ _ _ _ _ h15).trans ((stp_suf r3).trans k3))
    · cases h7; exact k3
  refine bind_ne (globals_ne _ _ _ (by omega) (by omega) (by omega)) ?_
  rintro ⟨gs, r5⟩ h9
  have k5 := (globals_suf _ _ _ _ _ h9).trans k4
  have := k5.length_le
  refine bind_ne (procs_ne _ _ _ _ (hg.suf k5) (by omega) (by omega) (by omega) (by omega)) ?_
  rintro ⟨ps, r6⟩ h11
  have k6 := (procs_suf _ _ _ _ _ _ (hg.suf k5) h11).trans k5
  refine bind_ne (want_ne _ _) fun r7 h13 => ?_
  have k7 := (want_suf h13).trans k6
  have := k7.length_le
  refine bind_ne (sx_fuel f _ _ _ (hg.suf k7) (by omega) (by omega) (by omega)) fun _ _ => bind_ne (want_ne _ _) fun _ _ => bind_ne (want_ne _ _) fun _ _ => ite_ne (fun _ => ok_ne _) (fun _ => er_ne (by simp))
end Tp
