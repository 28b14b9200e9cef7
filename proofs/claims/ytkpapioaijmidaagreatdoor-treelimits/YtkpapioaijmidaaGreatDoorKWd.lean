import Derived.Test.YtkpapioaijmidaaGreatDoorKWc
/- branch: from if or elsif on. -/
namespace Go.Proofs.YtkpapioaijmidaaGreatDoor
open Go.RowKit
open Tp (Tok hd tx at' stp X S)

def VP (B : Nat) (l : List X) (v : Value) (w : World) : Prop := ∃ ls : List Value, v = ls.headD (.pointer none) ∧ RepL w (fun b => B ≤ b) l ls ∧ ls.length ≤ 1
def VO (B : Nat) (l : List S) (v : Value) (w : World) : Prop := ∃ cs, RepS w (fun b => B ≤ b) l cs ∧ OwnS w (fun b => B ≤ b) v l.length cs
theorem VP.ext {w w' : World} {B b : Nat} (k : Ext b w w') (hb : b < B) {l : List X} {v : Value} (h : VP B l v w) : VP B l v w' := by
  obtain ⟨ls, h1, h2, h3⟩ := h; exact ⟨ls, h1, RepL.ext k (by omega) h2, h3⟩
theorem VP.base {w : World} {B B' : Nat} {l : List X} {v : Value} (h : VP B l v w) (hB : B' ≤ B) : VP B' l v w := by
  obtain ⟨ls, h1, h2, h3⟩ := h; exact ⟨ls, h1, RepL.mono (fun _ hi _ => ⟨rfl, Nat.le_trans hB hi⟩) _ _ _ (Nat.le_refl _) h2, h3⟩
theorem VO.ext {w w' : World} {B b : Nat} (k : Ext b w w') (hb : b < B) {l : List S} {v : Value} (h : VO B l v w) : VO B l v w' := by
  obtain ⟨cs, h1, h2⟩ := h
  have hw : ∀ i, B ≤ i → i < w.heap.size → w'.heap[i]? = w.heap[i]? ∧ B ≤ i := fun i hi hl => ⟨k.block i hl (by omega), hi⟩
  exact ⟨cs, h1.mono' hw, h2.mono hw⟩
theorem VO.base {w : World} {B B' : Nat} {l : List S} {v : Value} (h : VO B l v w) (hB : B' ≤ B) : VO B' l v w := by
  obtain ⟨cs, h1, h2⟩ := h
  have hw : ∀ i, B ≤ i → i < w.heap.size → w.heap[i]? = w.heap[i]? ∧ B' ≤ i := fun i hi _ => ⟨rfl, Nat.le_trans hB hi⟩
  exact ⟨cs, h1.mono' hw, h2.mono hw⟩
theorem VP.ptr {B : Nat} {l : List X} {v : Value} {w : World} (h : VP B l v w) : ∃ ia, v = .pointer ia := by
  obtain ⟨ls, h1, h2, h3⟩ := h
  cases l with
  | nil => rw [RepL] at h2; subst h2; exact ⟨none, h1⟩
  | cons x xs =>
    obtain ⟨code, pos, nn, mod, name, op, left, right, args⟩ := x
    rw [RepL] at h2
    obtain ⟨b, av, _, _, _, vs', q, _⟩ := h2
    subst q
    exact ⟨_, h1⟩
theorem VO.shape {B : Nat} {l : List S} {v : Value} {w : World} (h : VO B l v w) : ∃ ta tc, v = .slice ta l.length tc := by
  obtain ⟨cs, _, h2⟩ := h
  rcases h2 with ⟨rfl, h0⟩ | ⟨g, cap, cur, rfl, _⟩
  · rw [h0]; exact ⟨_, _, rfl⟩
  · exact ⟨_, _, rfl⟩
theorem VS.mk' {w : World} {B code pos : Nat} {name : List UInt8} {index value : List X} {thn els : List S} {iv vv tv ev : Value} (hi : VP B index iv w) (hv : VP B value vv w) (ht : VO B thn tv w) (he : VO B els ev w) :
    VS B [⟨code, pos, name, index, value, thn, els⟩] (.agg (scells code pos (bs name) iv vv tv ev)) w := by
  obtain ⟨ia, rfl⟩ := hi.ptr
  obtain ⟨va, rfl⟩ := hv.ptr
  obtain ⟨ta, tc, rfl⟩ := ht.shape
  obtain ⟨ea, ec, rfl⟩ := he.shape
  obtain ⟨ls, l0, l1, l2⟩ := hi
  obtain ⟨vs, v0, v1, v2⟩ := hv
  obtain ⟨tcs, t1, t2⟩ := ht
  obtain ⟨ecs, e1, e2⟩ := he
  refine ⟨code, pos, name, ia, va, ta, ea, _, tc, _, ec, rfl, ?_⟩
  rw [RepS]
  exact ⟨_, _, ls, vs, tcs, ecs, [], by rw [← l0, ← v0]; simp [scells], l1, l2, v1, v2, t1, t2, e1, e2, by rw [RepS]⟩
theorem VS.inv {w : World} {B code pos : Nat} {name : List UInt8} {index value : List X} {thn els : List S} {v : Value} (h : VS B [⟨code, pos, name, index, value, thn, els⟩] v w) :
    ∃ ia va ta tc ea ec, v = .agg (scells code pos (bs name) (.pointer ia) (.pointer va) (.slice ta thn.length tc) (.slice ea els.length ec)) ∧ VP B index (.pointer ia) w ∧ VP B value (.pointer va) w ∧ VO B thn (.slice ta thn.length tc) w ∧ VO B els (.slice ea els.length ec) w := by
  obtain ⟨c, p, n, ia, va, ta, ea, tn, tc, en, ec, h1, h2⟩ := h
  rw [RepS] at h2
  obtain ⟨tv, ev, ls, vs, tcs, ecs, cs', q, r1, r2, r3, r4, r5, r6, r7, r8, r9⟩ := h2
  simp only [scells, List.cons_append, List.nil_append, List.cons.injEq] at q
  obtain ⟨q0, q1, q2, q3, q4, q5, q6, q7⟩ := q
  subst q5; subst q6
  have ho1 : VO B thn (.slice ta tn tc) w := ⟨tcs, r5, r6⟩
  have ho2 : VO B els (.slice ea en ec) w := ⟨ecs, r7, r8⟩
  have k1 : tn = thn.length := by obtain ⟨_, _, e⟩ := ho1.shape; cases e; rfl
  have k2 : en = els.length := by obtain ⟨_, _, e⟩ := ho2.shape; cases e; rfl
  subst k1; subst k2
  refine ⟨ia, va, ta, tc, ea, ec, ?_, ⟨ls, q3, r1, r2⟩, ⟨vs, q4, r3, r4⟩, ho1, ho2⟩
  rw [h1]
  simp only [scells, q0, q1, q2]
theorem VL.vo {w : World} {B : Nat} {l : List S} {v : Value} (h : VL B l v w) : VO B l v w := h.own
theorem VO.nil (B : Nat) (w : World) : VO B [] (.slice none 0 0) w := ⟨[], by rw [RepS], Or.inl ⟨rfl, rfl⟩⟩
/- one STMT in a slice of its own -/
theorem VO.one {w : World} {B code pos : Nat} {name : List UInt8} {s : List S} {ia va ta ea : Option Addr} {tn tc en ec : Nat} (h : VS B s (.agg (scells code pos (bs name) (.pointer ia) (.pointer va) (.slice ta tn tc) (.slice ea en ec))) w) (hB : B ≤ w.heap.size) (hs : s.length = 1) :
    VO B s (.slice (some ⟨w.heap.size, 0, none⟩) 1 1) (w.alloc (.cells (scells code pos (bs name) (.pointer ia) (.pointer va) (.slice ta tn tc) (.slice ea en ec)) 85)) := by
  obtain ⟨c', p', n', ia', va', ta', ea', tn', tc', en', ec', h1, h2⟩ := h
  rw [← Value.agg.inj h1] at h2
  refine ⟨_, h2.mono' (fun i hi hl => ⟨Below.heap_alloc _ _ _ hl, hi⟩), ?_⟩
  rw [hs]
  exact Or.inr ⟨w.heap.size, 1, _, rfl, hB, new_blk _ _, Nat.le_refl _, by unfold maxLen; omega, rfl, rfl⟩
def withElse (e : List S) (l : List S) : List S := l.map fun s => ⟨s.code, s.pos, s.name, s.index, s.value, s.thn, e⟩
def branchT (f b : Nat) (s : List S) (r3 : List Tok) : Except Tp.Er (List S × List Tok) :=
  if tx r3 = Tp.wElsif then do
    let (e, r4) ← Tp.sx f 3 (b + 1) r3
    .ok (withElse e s, r4)
  else if tx r3 = Tp.wElse then do
    let (e, r4) ← Tp.sx f 0 (b + 1) (stp r3)
    .ok (withElse e s, r4)
  else .ok (s, r3)
theorem sx3_bad {f b : Nat} {r : List Tok} {er : Tp.Er} (h : blockS f 2 b Tp.wThen r = .error er) : Tp.sx (f + 1) 3 b r = .error er := by
  unfold blockS at h
  rw [Tp.sx]
  simp only [show ¬ (3 = 0) by omega, show ¬ (3 = 1) by omega, show ¬ (3 = 2) by omega, if_false, bind, Except.bind] at h ⊢
  cases h1 : Tp.ex f 0 0 0 [] (stp r) with
  | error e => rw [h1] at h; exact h
  | ok v =>
    rw [h1] at h; simp only at h ⊢
    cases h2 : Tp.want Tp.wThen v.2 with
    | error e => rw [h2] at h; exact h
    | ok r2 =>
      rw [h2] at h; simp only at h ⊢
      cases h3 : Tp.sx f 0 (b + 1) r2 with
      | error e => rw [h3] at h; exact h
      | ok u => rw [h3] at h; cases h
theorem sx3_ok {f b : Nat} {r r3 : List Tok} {s : List S} (h : blockS f 2 b Tp.wThen r = .ok (s, r3)) : Tp.sx (f + 1) 3 b r = branchT f b s r3 ∧ (∃ x l, s = [⟨2, at' r, [], [], x, l, []⟩]) ∧ b + 1 ≤ 10 := by
  unfold blockS at h
  rw [Tp.sx]
  simp only [show ¬ (3 = 0) by omega, show ¬ (3 = 1) by omega, show ¬ (3 = 2) by omega, if_false, bind, Except.bind] at h ⊢
  cases h1 : Tp.ex f 0 0 0 [] (stp r) with
  | error e => rw [h1] at h; cases h
  | ok v =>
    rw [h1] at h; simp only at h ⊢
    cases h2 : Tp.want Tp.wThen v.2 with
    | error e => rw [h2] at h; cases h
    | ok r2 =>
      rw [h2] at h; simp only at h ⊢
      cases h3 : Tp.sx f 0 (b + 1) r2 with
      | error e => rw [h3] at h; cases h
      | ok u =>
        rw [h3] at h; simp only [Except.ok.injEq, Prod.mk.injEq] at h
        obtain ⟨rfl, rfl⟩ := h
        refine ⟨?_, ⟨v.1, u.1, rfl⟩, ?_⟩
        · unfold branchT withElse
          by_cases c1 : tx u.2 = Tp.wElsif
          · simp only [c1, if_true, bind, Except.bind]; cases Tp.sx f 3 (b + 1) u.2 <;> rfl
          · by_cases c2 : tx u.2 = Tp.wElse
            · simp only [c2, if_true, bind, Except.bind, show ¬ (Tp.wElse = Tp.wElsif) by decide, if_false]; cases Tp.sx f 0 (b + 1) (stp u.2) <;> rfl
            · simp only [c1, c2, if_false]
        · cases f with
          | zero => cases h3
          | succ k =>
            rw [Tp.sx] at h3
            by_cases hb : 10 < b + 1
            · simp [hb] at h3
            · omega
end Go.Proofs.YtkpapioaijmidaaGreatDoor
/- branch: the walk. -/
namespace Go.Proofs.YtkpapioaijmidaaGreatDoor
open Go.RowKit
open Tp (Tok hd tx at' stp X S)

def VPd (D : Nat → Prop) (l : List X) (v : Value) (w : World) : Prop := ∃ ls : List Value, v = ls.headD (.pointer none) ∧ RepL w D l ls ∧ ls.length ≤ 1
def VOd (D : Nat → Prop) (l : List S) (v : Value) (w : World) : Prop := ∃ cs, RepS w D l cs ∧ OwnS w D v l.length cs
theorem VPd.mono {w w' : World} {D D' : Nat → Prop} (hw : ∀ b, D b → b < w.heap.size → w'.heap[b]? = w.heap[b]? ∧ D' b) {l : List X} {v : Value} (h : VPd D l v w) : VPd D' l v w' := by
  obtain ⟨ls, h1, h2, h3⟩ := h; exact ⟨ls, h1, RepL.mono hw _ _ _ (Nat.le_refl _) h2, h3⟩
theorem VOd.mono {w w' : World} {D D' : Nat → Prop} (hw : ∀ b, D b → b < w.heap.size → w'.heap[b]? = w.heap[b]? ∧ D' b) {l : List S} {v : Value} (h : VOd D l v w) : VOd D' l v w' := by
  obtain ⟨cs, h1, h2⟩ := h; exact ⟨cs, h1.mono' hw, h2.mono hw⟩
theorem VPd.ext {w w' : World} {D : Nat → Prop} {b : Nat} (k : Ext b w w') (hb : ¬ D b) {l : List X} {v : Value} (h : VPd D l v w) : VPd D l v w' :=
  h.mono (fun i hi hl => ⟨k.block i hl (fun e => hb (e ▸ hi)), hi⟩)
theorem VOd.ext {w w' : World} {D : Nat → Prop} {b : Nat} (k : Ext b w w') (hb : ¬ D b) {l : List S} {v : Value} (h : VOd D l v w) : VOd D l v w' :=
  h.mono (fun i hi hl => ⟨k.block i hl (fun e => hb (e ▸ hi)), hi⟩)
theorem VP.d {B C : Nat} {l : List X} {v : Value} {w : World} (h : VP B l v w) (e : B = C) : VPd (fun i => C ≤ i) l v w := by subst e; exact h
theorem VO.d {B C : Nat} {l : List S} {v : Value} {w : World} (h : VO B l v w) (e : B = C) : VOd (fun i => C ≤ i) l v w := by subst e; exact h
theorem VPd.p {B : Nat} {D : Nat → Prop} {l : List X} {v : Value} {w : World} (h : VPd D l v w) (e : ∀ i, D i → B ≤ i) : VP B l v w := h.mono (fun i hi _ => ⟨rfl, e i hi⟩)
theorem VOd.o {B : Nat} {D : Nat → Prop} {l : List S} {v : Value} {w : World} (h : VOd D l v w) (e : ∀ i, D i → B ≤ i) : VO B l v w := h.mono (fun i hi _ => ⟨rfl, e i hi⟩)
theorem sx3_len {f b : Nat} {r r4 : List Tok} {s : List S} (h : Tp.sx f 3 b r = .ok (s, r4)) : s.length = 1 := by
  cases f with
  | zero => cases h
  | succ f =>
    rcases hb : blockS f 2 b Tp.wThen r with er | ⟨s', r3⟩
    · rw [sx3_bad hb] at h; cases h
    · obtain ⟨h1, ⟨x, l, rfl⟩, _⟩ := sx3_ok hb
      rw [h1] at h
      unfold branchT withElse at h
      by_cases c1 : tx r3 = Tp.wElsif
      · simp only [c1, if_true, bind, Except.bind] at h
        cases hq : Tp.sx f 3 (b + 1) r3 with
        | error e => rw [hq] at h; cases h
        | ok u => rw [hq] at h; simp only [Except.ok.injEq, Prod.mk.injEq] at h; rw [← h.1]; rfl
      · by_cases c2 : tx r3 = Tp.wElse
        · simp only [c2, if_true, bind, Except.bind, show ¬ (Tp.wElse = Tp.wElsif) by decide, if_false] at h
          cases hq : Tp.sx f 0 (b + 1) (stp r3) with
          | error e => rw [hq] at h; cases h
          | ok u => rw [hq] at h; simp only [Except.ok.injEq, Prod.mk.injEq] at h; rw [← h.1]; rfl
        · simp only [c1, c2, if_false, Except.ok.injEq, Prod.mk.injEq] at h; rw [← h.1]; rfl

set_option maxRecDepth 100000 in
set_option maxHeartbeats 1000000 in
theorem branch_post {p : Ps} {ts : List Tok} {f : Nat} (hL : LevelC p ts f) (hS : StmtsC p ts f) (hB : BranchC p ts f) : BranchC p ts (f + 1) := by
  intro w r b h hb hn
  have hpl := lt_of_cell h.c0
  have hbi : (b : Int) ≤ 10 := by omega
  have hn0 : blockS f 2 b Tp.wThen r ≠ .error (99, 0) := fun e => hn (sx3_bad e)
  have hcall := fun W (hW : St W p ts r 0 b) => block_post hL hS hW hb 2 Tp.wThen (bs Tp.wThen) rfl hn0
  have HN : Hid (Tp.sx (f + 1) 3 b r ≠ .error (99, 0)) := hn
  have HST : Hid (StmtsC p ts f) := hS
  have HBR : Hid (BranchC p ts f) := hB
  generalize hres : blockS f 2 b Tp.wThen r = res at hcall
  have HR : Hid (blockS f 2 b Tp.wThen r = res) := hres
  have HC : Hid (∀ W, St W p ts r 0 b → Calls Tryz.prog 73 #[.pointer (some ⟨p.pb, 0, none⟩), .int .i64 2, .string ⟨#[116, 104, 101, 110]⟩] W fun e w' => Post p ts 0 b W (VS W.heap.size) res e w') := hcall
  clear hcall hn hn0 hL hS hB hres
  go_enter Tryz.func74, Tryz.ntmps74
  go_wp2_with fail
  have hba : ∀ (W : World) ob, Below W.heap.size W (W.alloc ob) := fun W ob => (Below.refl _ _).alloc (Nat.le_refl _) _
  refine (HC.out _ (h.below (hba _ _))).mono ?_
  intro e w1 hq
  have HA : Hid (∀ (W : World) ob, Below W.heap.size W (W.alloc ob)) := hba
  clear hba
  rcases res with er | ⟨s, r3⟩
  · obtain ⟨ht, hx1⟩ := hq
    obtain ⟨ab, h1, rfl, h2, h3⟩ := ht.out
    go_wp2_with fail
    refine ⟨rfl, ?_⟩
    rw [sx3_bad HR.out]
    exact thrown_up (Ext.below (HA.out _ _)) ht hx1
  · obtain ⟨v, rfl, hv, hst1, hx1⟩ := hq
    obtain ⟨hspec, ⟨x, l, rfl⟩, hb10⟩ := sx3_ok HR.out
    have HSP : Hid (Tp.sx (f + 1) 3 b r = branchT f b [⟨2, at' r, [], [], x, l, []⟩] r3) := hspec
    clear hspec
    obtain ⟨ia, va, ta, tc, ea, ec, rfl, hvi, hvv, hvt, hve⟩ := hv.inv
    have hrb1 : w1.heap[w.heap.size]? = some (.cells (scells 0 0 ⟨#[]⟩ (.pointer none) (.pointer none) (.slice none 0 0) (.slice none 0 0)) 85 (0, 0)) := (hx1.block _ (by simp) (by omega)).trans (new_blk _ _)
    have hext1 : Ext p.pb w w1 := (Ext.below (HA.out _ _)).trans hx1
    have hsz1 := lt_blk hrb1
    clear hx1 hv
    have c4 := hst1.c4
    have f4 := hst1.fz 4
    have hpl1 := lt_of_cell c4
    simp only [scells]
    go_wp2_with fail
    clear c4 f4
    obtain ⟨rb, hrb⟩ : ∃ rb, rb = w.heap.size := ⟨_, rfl⟩
    obtain ⟨sb, hsb⟩ : ∃ sb, sb = w1.heap.size := ⟨_, rfl⟩
    have hkeep : ∀ ob i, rb + 1 ≤ i → i < w1.heap.size → ((w1.setCell ⟨p.pb, 4, none⟩ (.int .i64 ((b : Int) + 1))).alloc ob).heap[i]? = w1.heap[i]? ∧ (rb + 1 ≤ i ∧ i ≠ sb) := by
      intro ob i h1 h2
      exact ⟨(Below.heap_alloc _ _ _ (by simpa using h2)).trans (Below.heap_setCell _ _ _ _ (by simp; omega)), h1, by omega⟩
    have hsw : (w1.setCell ⟨p.pb, 4, none⟩ (.int .i64 ((b : Int) + 1))).heap.size = sb := by rw [hsb]; simp
    obtain ⟨w2, hw2⟩ : ∃ w2, w2 = (w1.setCell ⟨p.pb, 4, none⟩ (.int .i64 ((b : Int) + 1))).alloc (.cells #[.int .i64 2, .int .i64 (at' r : Int), .string (bs []), .pointer ia, .pointer va, .slice ta l.length tc, .slice ea 0 ec] 85) := ⟨_, rfl⟩
    have hst2 : St w2 p ts r3 0 (b + 1) := by rw [hw2]; exact (hst1.setBlocks (b + 1) ((b : Int) + 1) (by omega)).below (HA.out _ _)
    have hext2 : Ext p.pb w w2 := by rw [hw2]; exact (hext1.set 4 _).trans (Ext.below (HA.out _ _))
    have hrb2 : w2.heap[rb]? = some (.cells (scells 0 0 ⟨#[]⟩ (.pointer none) (.pointer none) (.slice none 0 0) (.slice none 0 0)) 85 (0, 0)) := by
      rw [hw2, hrb]; exact (Below.heap_alloc _ _ _ (by simpa using hsz1)).trans ((Below.heap_setCell _ _ _ _ (by simp; omega)).trans hrb1)
    have hsb2 : w2.heap[sb]? = some (.cells (scells 2 (at' r) (bs []) (.pointer ia) (.pointer va) (.slice ta l.length tc) (.slice ea 0 ec)) 85 (0, 0)) := by
      rw [hw2, ← hsw]; exact new_blk _ _
    have hk2 : ∀ i, rb + 1 ≤ i → i < w1.heap.size → w2.heap[i]? = w1.heap[i]? ∧ (rb + 1 ≤ i ∧ i ≠ sb) := by rw [hw2]; exact hkeep _
    have hdi : VPd (fun i => rb + 1 ≤ i ∧ i ≠ sb) [] (.pointer ia) w2 := VPd.mono hk2 (hvi.d (by rw [hrb]; simp))
    have hdv : VPd (fun i => rb + 1 ≤ i ∧ i ≠ sb) x (.pointer va) w2 := VPd.mono hk2 (hvv.d (by rw [hrb]; simp))
    have hdt : VOd (fun i => rb + 1 ≤ i ∧ i ≠ sb) l (.slice ta l.length tc) w2 := VOd.mono hk2 (hvt.d (by rw [hrb]; simp))
    have hde : VOd (fun i => rb + 1 ≤ i ∧ i ≠ sb) [] (.slice ea 0 ec) w2 := VOd.mono hk2 (hve.d (by rw [hrb]; simp))
    rw [← hw2, ← hrb, ← hsb]
    have hps : p.pb < rb := by omega
    have hrs : rb < sb := by omega
    have hrw : w.heap.size ≤ rb := by omega
    clear hkeep hk2 hvi hvv hvt hve hst1 hext1 hrb1 hsz1 hsw hw2 hsb hrb hpl1
    refine (is_any hst2 Tp.wElsif _ rfl).mono ?_
    rintro e w3 ⟨rfl, hb3⟩
    have hst3 := hst2.below hb3
    have hext3 := hext2.trans (Ext.below hb3)
    have hrb3 := (hb3.block rb (lt_blk hrb2)).trans hrb2
    have hsb3 := (hb3.block sb (lt_blk hsb2)).trans hsb2
    have hw3 : ∀ i, (rb + 1 ≤ i ∧ i ≠ sb) → i < w2.heap.size → w3.heap[i]? = w2.heap[i]? ∧ (rb + 1 ≤ i ∧ i ≠ sb) := fun i hi hl => ⟨hb3.block i hl, hi⟩
    have hdi3 := hdi.mono hw3
    have hdv3 := hdv.mono hw3
    have hdt3 := hdt.mono hw3
    have hde3 := hde.mono hw3
    clear hst2 hext2 hrb2 hsb2 hdi hdv hdt hde hw3 hb3
    go_upto_if 14 with fail
    go_cut [] (fun wc => ∃ (els : List S) (ea' : Option Addr) (ec' : Nat) (r4 : List Tok), St wc p ts r4 0 (b + 1) ∧ Ext p.pb w wc ∧
      wc.heap[rb]? = some (.cells (scells 0 0 ⟨#[]⟩ (.pointer none) (.pointer none) (.slice none 0 0) (.slice none 0 0)) 85 (0, 0)) ∧
      wc.heap[sb]? = some (.cells (scells 2 (at' r) (bs []) (.pointer ia) (.pointer va) (.slice ta l.length tc) (.slice ea' els.length ec')) 85 (0, 0)) ∧
      VPd (fun i => rb + 1 ≤ i ∧ i ≠ sb) [] (.pointer ia) wc ∧ VPd (fun i => rb + 1 ≤ i ∧ i ≠ sb) x (.pointer va) wc ∧ VOd (fun i => rb + 1 ≤ i ∧ i ≠ sb) l (.slice ta l.length tc) wc ∧
      VOd (fun i => rb + 1 ≤ i ∧ i ≠ sb) els (.slice ea' els.length ec') wc ∧ Tp.sx (f + 1) 3 b r = .ok ([⟨2, at' r, [], [], x, l, els⟩], r4))
    case first =>
      by_cases hei : tx r3 = Tp.wElsif
      · have hdec := decide_eq_true hei
        have HE : Hid (tx r3 = Tp.wElsif) := hei
        clear hei
        have hno : Tp.sx f 3 (b + 1) r3 ≠ .error (99, 0) := by
          intro e; apply HN.out; rw [HSP.out]; unfold branchT; rw [if_pos HE.out, e]; rfl
        have hcl := HBR.out w3 r3 (b + 1) hst3 hb10 hno
        generalize hres2 : Tp.sx f 3 (b + 1) r3 = res2 at hcl
        have HR2 : Hid (Tp.sx f 3 (b + 1) r3 = res2) := hres2
        have HCL : Hid (Calls Tryz.prog 74 #[.pointer (some ⟨p.pb, 0, none⟩)] w3 fun e w' => Post p ts 0 (b + 1) w3 (VS w3.heap.size) res2 e w') := hcl
        clear hcl hres2 hno
        go_wp2_with fail
        refine HCL.out.mono ?_
        intro e w4 hq
        rcases res2 with er | ⟨els, r4⟩
        · obtain ⟨ht, hx4⟩ := hq
          obtain ⟨ab, h1, rfl, h2, h3⟩ := ht.out
          go_wp2_with fail
          refine ⟨rfl, ?_⟩
          rw [HSP.out, show branchT f b [⟨2, at' r, [], [], x, l, []⟩] r3 = .error er by unfold branchT; rw [if_pos HE.out, HR2.out]; rfl]
          exact thrown_up hext3 ht hx4
        · obtain ⟨v, rfl, hv, hst4, hx4⟩ := hq
          have hlen := sx3_len HR2.out
          obtain ⟨ecode, epos, ename, eia, eva, eta, eea, etn, etc, een, eec, rfl, hvr⟩ := hv
          have hone := VO.one (s := els) ⟨ecode, epos, ename, eia, eva, eta, eea, etn, etc, een, eec, rfl, hvr⟩ hx4.size hlen
          have hls3 := lt_blk hsb3
          have hrb4 := (hx4.block rb (lt_blk hrb3) (by omega)).trans hrb3
          have hsb4 := (hx4.block sb hls3 (by omega)).trans hsb3
          have hls4 := lt_blk hsb4
          have hext4 := hext3.trans hx4
          have hdi4 := hdi3.ext hx4 (by omega)
          have hdv4 := hdv3.ext hx4 (by omega)
          have hdt4 := hdt3.ext hx4 (by omega)
          clear hdi3 hdv3 hdt3 hde3 hext3 hst3 hx4 hrb3 hsb3 hvr
          have k6 : w4.cell? ⟨sb, 6, none⟩ = some (.slice ea 0 ec) := cell_blk hsb4
          have z6 : w4.frozen? ⟨sb, 6, none⟩ = false := frozen_blk hsb4
          simp only [scells]
          go_wp2_with fail
          go_meet
          case rel =>
            have hba4 := HA.out w4 (.cells #[.int .i64 (ecode : Int), .int .i64 (epos : Int), .string (bs ename), .pointer eia, .pointer eva, .slice eta etn etc, .slice eea een eec] 85)
            rw [← World.setCell_alloc_past (w := w4) (.cells #[.int .i64 (ecode : Int), .int .i64 (epos : Int), .string (bs ename), .pointer eia, .pointer eva, .slice eta etn etc, .slice eea een eec] 85) sb 6 (.slice (some ⟨w4.heap.size, 0, none⟩) 1 1) hls4]
            simp only [scells] at hone
            have hst5 := hst4.below hba4
            have hext5 := hext4.trans (Ext.below hba4)
            have hrb5 := (hba4.block rb (by omega)).trans hrb4
            have hsb5 := (hba4.block sb hls4).trans hsb4
            have hdi5 := hdi4.ext (b := p.pb) (Ext.below hba4) (by omega)
            have hdv5 := hdv4.ext (b := p.pb) (Ext.below hba4) (by omega)
            have hdt5 := hdt4.ext (b := p.pb) (Ext.below hba4) (by omega)
            generalize w4.alloc (.cells #[.int .i64 (ecode : Int), .int .i64 (epos : Int), .string (bs ename), .pointer eia, .pointer eva, .slice eta etn etc, .slice eea een eec] 85) = w5 at hone hst5 hext5 hrb5 hsb5 hdi5 hdv5 hdt5 ⊢
            have hbS : Below sb w5 (w5.setCell ⟨sb, 6, none⟩ (.slice (some ⟨w4.heap.size, 0, none⟩) 1 1)) := below_set (Below.refl _ _) (Nat.le_refl _) 6 _
            have hxS : Ext sb w5 (w5.setCell ⟨sb, 6, none⟩ (.slice (some ⟨w4.heap.size, 0, none⟩) 1 1)) := (Ext.refl _ _).set 6 _
            have hone' : VOd (fun i => rb + 1 ≤ i ∧ i ≠ sb) els (.slice (some ⟨w4.heap.size, 0, none⟩) els.length 1) w5 := by
              rw [hlen]; exact VOd.mono (D := fun i => w3.heap.size ≤ i) (fun i hi _ => ⟨rfl, by omega⟩) (hone.d rfl)
            refine ⟨els, some ⟨w4.heap.size, 0, none⟩, 1, r4, hst5.belowB hbS (by omega), hext5.trans' (hbS.mono (by omega)), (hbS.block rb hrs).trans hrb5, ?_, hdi5.ext hxS (by omega), hdv5.ext hxS (by omega), hdt5.ext hxS (by omega), hone'.ext hxS (by omega), ?_⟩
            · rw [hlen]; exact set_blk 6 _ hsb5
            · rw [HSP.out, show branchT f b [⟨2, at' r, [], [], x, l, []⟩] r3 = .ok ([⟨2, at' r, [], [], x, l, els⟩], r4) by unfold branchT; rw [if_pos HE.out, HR2.out]; rfl]
      · have hdec := decide_eq_false hei
        have HE : Hid (¬ tx r3 = Tp.wElsif) := hei
        clear hei
        go_wp2_with fail
        refine (take_any hst3 Tp.wElse _ rfl).mono ?_
        rintro e w4 ⟨rfl, hst4, hx4⟩
        have hls3 := lt_blk hsb3
        have hrb4 := (hx4.block rb (lt_blk hrb3) (by omega)).trans hrb3
        have hsb4 := (hx4.block sb hls3 (by omega)).trans hsb3
        have hls4 := lt_blk hsb4
        have hext4 := hext3.trans hx4
        have hdi4 := hdi3.ext hx4 (by omega)
        have hdv4 := hdv3.ext hx4 (by omega)
        have hdt4 := hdt3.ext hx4 (by omega)
        have hde4 := hde3.ext hx4 (by omega)
        clear hdi3 hdv3 hdt3 hde3 hext3 hst3 hx4 hrb3 hsb3 hls3
        by_cases hel : tx r3 = Tp.wElse
        · have hdec2 := decide_eq_true hel
          rw [if_pos hel] at hst4
          have HL : Hid (tx r3 = Tp.wElse) := hel
          clear hel
          have hno : Tp.sx f 0 (b + 1) (stp r3) ≠ .error (99, 0) := by
            intro e; apply HN.out; rw [HSP.out]; unfold branchT; rw [if_neg HE.out, if_pos HL.out, e]; rfl
          have hcl := HST.out w4 (stp r3) (b + 1) hst4 (by omega) hno
          generalize hres2 : Tp.sx f 0 (b + 1) (stp r3) = res2 at hcl
          have HR2 : Hid (Tp.sx f 0 (b + 1) (stp r3) = res2) := hres2
          have HCL : Hid (Calls Tryz.prog 46 #[.pointer (some ⟨p.pb, 0, none⟩)] w4 fun e w' => Post p ts 0 (b + 1) w4 (VL w4.heap.size) res2 e w') := hcl
          clear hcl hres2 hno
          go_wp2_with fail
          refine HCL.out.mono ?_
          intro e w5 hq
          rcases res2 with er | ⟨els, r4⟩
          · obtain ⟨ht, hx5⟩ := hq
            obtain ⟨ab, h1, rfl, h2, h3⟩ := ht.out
            go_wp2_with fail
            refine ⟨rfl, ?_⟩
            rw [HSP.out, show branchT f b [⟨2, at' r, [], [], x, l, []⟩] r3 = .error er by unfold branchT; rw [if_neg HE.out, if_pos HL.out, HR2.out]; rfl]
            exact thrown_up hext4 ht hx5
          · obtain ⟨v, rfl, hv, hst5, hx5⟩ := hq
            obtain ⟨ao, cap, rfl⟩ := hv.shape
            have hrb5 := (hx5.block rb (lt_blk hrb4) (by omega)).trans hrb4
            have hsb5 := (hx5.block sb hls4 (by omega)).trans hsb4
            have hext5 := hext4.trans hx5
            have hdi5 := hdi4.ext hx5 (by omega)
            have hdv5 := hdv4.ext hx5 (by omega)
            have hdt5 := hdt4.ext hx5 (by omega)
            have hone : VOd (fun i => rb + 1 ≤ i ∧ i ≠ sb) els (.slice ao els.length cap) w5 := VOd.mono (D := fun i => w4.heap.size ≤ i) (fun i hi _ => ⟨rfl, by omega⟩) (hv.vo.d rfl)
            clear hdi4 hdv4 hdt4 hde4 hext4 hst4 hx5 hrb4 hsb4 hv
            have k6 : w5.cell? ⟨sb, 6, none⟩ = some (.slice ea 0 ec) := cell_blk hsb5
            have z6 : w5.frozen? ⟨sb, 6, none⟩ = false := frozen_blk hsb5
            go_wp2_with fail
            go_meet
            case rel =>
              have hbS : Below sb w5 (w5.setCell ⟨sb, 6, none⟩ (.slice ao els.length cap)) := below_set (Below.refl _ _) (Nat.le_refl _) 6 _
              have hxS : Ext sb w5 (w5.setCell ⟨sb, 6, none⟩ (.slice ao els.length cap)) := (Ext.refl _ _).set 6 _
              refine ⟨els, ao, cap, r4, hst5.belowB hbS (by omega), hext5.trans' (hbS.mono (by omega)), (hbS.block rb hrs).trans hrb5, set_blk 6 _ hsb5, hdi5.ext hxS (by omega), hdv5.ext hxS (by omega), hdt5.ext hxS (by omega), hone.ext hxS (by omega), ?_⟩
              rw [HSP.out, show branchT f b [⟨2, at' r, [], [], x, l, []⟩] r3 = .ok ([⟨2, at' r, [], [], x, l, els⟩], r4) by unfold branchT; rw [if_neg HE.out, if_pos HL.out, HR2.out]; rfl]
        · have hdec2 := decide_eq_false hel
          rw [if_neg hel] at hst4
          have HL : Hid (¬ tx r3 = Tp.wElse) := hel
          clear hel
          go_wp2_with fail
          go_meet
          case rel =>
            refine ⟨[], ea, ec, r3, hst4, hext4, hrb4, hsb4, hdi4, hdv4, hdt4, hde4, ?_⟩
            rw [HSP.out, show branchT f b [⟨2, at' r, [], [], x, l, []⟩] r3 = .ok ([⟨2, at' r, [], [], x, l, []⟩], r3) by unfold branchT; rw [if_neg HE.out, if_neg HL.out]]
    case rest =>
      obtain ⟨els, ea', ec', r4, hst, hext, hrbc, hsbc, hdi, hdv, hdt, hde, hspec⟩ := hcut
      have HSP2 : Hid (Tp.sx (f + 1) 3 b r = .ok ([⟨2, at' r, [], [], x, l, els⟩], r4)) := hspec
      clear hspec hdi3 hdv3 hdt3 hde3 hext3 hst3 hrb3 hsb3
      have c4 := hst.c4
      have f4 := hst.fz 4
      go_upto_region 8 with fail
      clear c4 f4
      have hx7 : Ext p.pb wc (wc.setCell ⟨p.pb, 4, none⟩ (.int .i64 (b : Int))) := (Ext.refl _ _).set 4 _
      have hst7 := hst.setBlocks b (b : Int) rfl
      have hext7 := hext.trans hx7
      have hsb7 := (hx7.block sb (lt_blk hsbc) (by omega)).trans hsbc
      have hrb7 := (hx7.block rb (lt_blk hrbc) (by omega)).trans hrbc
      have hdi7 := hdi.ext hx7 (by omega)
      have hdv7 := hdv.ext hx7 (by omega)
      have hdt7 := hdt.ext hx7 (by omega)
      have hde7 := hde.ext hx7 (by omega)
      generalize wc.setCell ⟨p.pb, 4, none⟩ (.int .i64 (b : Int)) = w7 at hx7 hst7 hext7 hsb7 hrb7 hdi7 hdv7 hdt7 hde7 ⊢
      clear hx7 hst hext hsbc hrbc hdi hdv hdt hde
      have ks : ∀ i, w7.cell? ⟨sb, i, none⟩ = (scells 2 (at' r) (bs []) (.pointer ia) (.pointer va) (.slice ta l.length tc) (.slice ea' els.length ec'))[i]? := fun i => cell_blk hsb7
      have kr : ∀ i, w7.cell? ⟨rb, i, none⟩ = (scells 0 0 ⟨#[]⟩ (.pointer none) (.pointer none) (.slice none 0 0) (.slice none 0 0))[i]? := fun i => cell_blk hrb7
      have zr : ∀ i, w7.frozen? ⟨rb, i, none⟩ = false := fun i => frozen_blk hrb7
      simp only [scells] at ks kr
      go_wp2_with fail
      refine bodyPost_ret (v := .agg (scells (2 : Nat) (at' r) (bs []) (.pointer ia) (.pointer va) (.slice ta l.length tc) (.slice ea' els.length ec'))) (by simp [results, Tryz.results74, go_sem, kr, scells]) rfl ?_
      rw [HSP2.out]
      have hxr := ext_set7 w7 rb (.int .i64 2) (.int .i64 (at' r : Int)) (.string (bs [])) (.pointer ia) (.pointer va) (.slice ta l.length tc) (.slice ea' els.length ec')
      have hbr := below_set7 w7 rb (.int .i64 2) (.int .i64 (at' r : Int)) (.string (bs [])) (.pointer ia) (.pointer va) (.slice ta l.length tc) (.slice ea' els.length ec')
      refine ⟨_, rfl, VS.mk' ?_ ?_ ?_ ?_, ?_, ?_⟩
      · exact (hdi7.ext hxr (by omega)).p (fun i hi => by omega)
      · exact (hdv7.ext hxr (by omega)).p (fun i hi => by omega)
      · exact (hdt7.ext hxr (by omega)).o (fun i hi => by omega)
      · exact (hde7.ext hxr (by omega)).o (fun i hi => by omega)
      · exact hst7.belowB hbr (by omega)
      · exact hext7.trans' (hbr.mono hrw)
end Go.Proofs.YtkpapioaijmidaaGreatDoor
/- A STMT that begins with a REF. -/
namespace Go.Proofs.YtkpapioaijmidaaGreatDoor
open Go.RowKit
open Tp (Tok hd tx at' stp X S)

theorem VX.inv {w : World} {B bb : Nat} {x : List X} (h : VX B x (.pointer (some ⟨bb, 0, none⟩)) w) :
    ∃ (code pos n : Nat) (mod name op : List UInt8) (left right args : List X) (la : Option Addr) (rv av : Value), x = [⟨code, pos, n, mod, name, op, left, right, args⟩] ∧ B ≤ bb ∧
      w.heap[bb]? = some (.cells (xcells code pos n (bs mod) (bs name) (bs op) (.pointer la) rv av) 115 (0, 0)) ∧ VP B left (.pointer la) w := by
  unfold VX at h
  cases x with
  | nil => rw [RepL] at h; simp at h
  | cons x xs =>
    obtain ⟨code, pos, nn, mod, name, op, left, right, args⟩ := x
    rw [RepL] at h
    obtain ⟨b, av, ls, rs, gs, vs', h1, h2, h3, h4, h5, h6, h7, h8, h9, h10⟩ := h
    simp only [List.cons.injEq, Value.pointer.injEq, Option.some.injEq, Addr.mk.injEq, and_true] at h1
    obtain ⟨rfl, rfl⟩ := h1
    have hxs : xs = [] := List.eq_nil_of_length_eq_zero (by rw [← RepL.len _ _ h10]; rfl)
    subst hxs
    have hp : VP B left (ls.headD (.pointer none)) w := ⟨ls, rfl, h4, h5⟩
    obtain ⟨la, hla⟩ := hp.ptr
    rw [hla] at h3 hp
    exact ⟨code, pos, nn, mod, name, op, left, right, args, la, _, av, rfl, h2, h3, hp⟩
structure Plainly (r : List Tok) : Prop where
  a : tx r ≠ Tp.wReturn
  b : tx r ≠ Tp.wWrite
  c : tx r ≠ Tp.wWhile
  d : tx r ≠ Tp.wIf
theorem VX.d {B : Nat} {D : Nat → Prop} {l : List X} {v : Value} {w : World} (h : VX B l v w) (e : ∀ i, B ≤ i → D i) : VPd D l v w := ⟨[v], rfl, RepL.mono (fun i hi _ => ⟨rfl, e i hi⟩) _ _ _ (Nat.le_refl _) h, by simp⟩
theorem blk_set7 {w : World} {b : Nat} {c0 c1 c2 c3 c4 c5 c6 : Value} {t : TypeId} (h : w.heap[b]? = some (.cells #[c0, c1, c2, c3, c4, c5, c6] t (0, 0))) (v0 v1 v2 v3 v4 v5 v6 : Value) :
    (((((((w.setCell ⟨b, 0, none⟩ v0).setCell ⟨b, 1, none⟩ v1).setCell ⟨b, 2, none⟩ v2).setCell ⟨b, 3, none⟩ v3).setCell ⟨b, 4, none⟩ v4).setCell ⟨b, 5, none⟩ v5).setCell ⟨b, 6, none⟩ v6).heap[b]? = some (.cells #[v0, v1, v2, v3, v4, v5, v6] t (0, 0)) :=
  by simpa using set_blk 6 v6 (set_blk 5 v5 (set_blk 4 v4 (set_blk 3 v3 (set_blk 2 v2 (set_blk 1 v1 (set_blk 0 v0 h))))))
theorem sx2_bad {f b : Nat} {r : List Tok} {er : Tp.Er} (k : Plainly r) (h : Tp.ex f 6 0 0 [] r = .error er) : Tp.sx (f + 1) 2 b r = .error er := by
  rw [Tp.sx]; simp only [show ¬ (2 = 0) by omega, show ¬ (2 = 1) by omega, if_false, if_true, k.a, k.b, k.c, k.d, or_self, h, bind, Except.bind]
theorem sx2_call {f b : Nat} {r r1 : List Tok} {x : List X} (k : Plainly r) (h : Tp.ex f 6 0 0 [] r = .ok (x, r1)) (hc : Tp.codeOf x = 6) :
    Tp.sx (f + 1) 2 b r = (do let r2 ← Tp.want Tp.mSemi r1; .ok ([⟨6, at' r, [], [], x, [], []⟩], r2)) := by
  rw [Tp.sx]; simp only [show ¬ (2 = 0) by omega, show ¬ (2 = 1) by omega, if_false, if_true, k.a, k.b, k.c, k.d, or_self, h, hc, bind, Except.bind]
theorem sx2_far {f b : Nat} {r r1 : List Tok} {x : List X} (k : Plainly r) (h : Tp.ex f 6 0 0 [] r = .ok (x, r1)) (hc : Tp.codeOf x ≠ 6) (hm : Tp.modOf x ≠ []) :
    Tp.sx (f + 1) 2 b r = .error (3, at' r1) := by
  rw [Tp.sx]; simp only [show ¬ (2 = 0) by omega, show ¬ (2 = 1) by omega, if_false, if_true, k.a, k.b, k.c, k.d, or_self, h, hc, hm, bind, Except.bind]
theorem sx2_set {f b : Nat} {r r1 : List Tok} {x : List X} (k : Plainly r) (h : Tp.ex f 6 0 0 [] r = .ok (x, r1)) (hc : Tp.codeOf x ≠ 6) (hm : Tp.modOf x = []) :
    Tp.sx (f + 1) 2 b r = (do let r2 ← Tp.want Tp.mSet r1; let (y, r3) ← Tp.ex f 0 0 0 [] r2; let r4 ← Tp.want Tp.mSemi r3; .ok ([⟨1, at' r, Tp.nameOf x, Tp.leftOf x, y, [], []⟩], r4)) := by
  rw [Tp.sx]; simp only [show ¬ (2 = 0) by omega, show ¬ (2 = 1) by omega, if_false, if_true, k.a, k.b, k.c, k.d, or_self, h, hc, hm, bind, Except.bind]
theorem expr_er {p : Ps} {ts : List Tok} {f : Nat} (hL : Hid (LevelC p ts f)) {w : World} {r : List Tok} {o b : Nat} {er : Tp.Er} (h : St w p ts r o b) (ho : o ≤ 11) (hr : Hid (Tp.ex f 0 o 0 [] r = .error er)) (hne : Hid (er ≠ (99, 0))) :
    Calls Tryz.prog 85 #[.pointer (some ⟨p.pb, 0, none⟩)] w fun e w' => Thrown w.heap.size er e w' ∧ Ext p.pb w w' := by
  have := expr_post hL.out h ho (by rw [hr.out]; intro e; exact hne.out (by injection e))
  rw [hr.out] at this
  exact this
theorem expr_ok {p : Ps} {ts : List Tok} {f : Nat} (hL : Hid (LevelC p ts f)) {w : World} {r r1 : List Tok} {o b : Nat} {x : List X} (h : St w p ts r o b) (ho : o ≤ 11) (hr : Hid (Tp.ex f 0 o 0 [] r = .ok (x, r1))) :
    Calls Tryz.prog 85 #[.pointer (some ⟨p.pb, 0, none⟩)] w fun e w' => ∃ bb, e = .returned (.pointer (some ⟨bb, 0, none⟩)) ∧ VX w.heap.size x (.pointer (some ⟨bb, 0, none⟩)) w' ∧ St w' p ts r1 o b ∧ Ext p.pb w w' := by
  have := expr_post hL.out h ho (by rw [hr.out]; intro e; cases e)
  rw [hr.out] at this
  refine this.mono ?_
  intro e w' hq
  obtain ⟨v, h1, h2, h3⟩ := hq
  obtain ⟨bb, rfl⟩ := h2.ptr
  exact ⟨bb, h1, h2, h3⟩

set_option maxRecDepth 100000 in
set_option maxHeartbeats 1000000 in
theorem setOrCall_post {p : Ps} {ts : List Tok} {f : Nat} (hL : LevelC p ts f) (hM : NamedC p ts f) {w : World} {r : List Tok} {b : Nat} (h : St w p ts r 0 b) (hk : Plainly r) (hn : Tp.sx (f + 1) 2 b r ≠ .error (99, 0)) :
    Calls Tryz.prog 75 #[.pointer (some ⟨p.pb, 0, none⟩)] w fun e w' => Post p ts 0 b w (VS w.heap.size) (Tp.sx (f + 1) 2 b r) e w' := by
  have hpl := lt_of_cell h.c0
  have hn0 : Tp.ex f 6 0 0 [] r ≠ .error (99, 0) := fun e => hn (sx2_bad hk e)
  have hcall := fun W (hW : St W p ts r 0 b) => hM W r 0 b hW (by omega) hn0
  have HN : Hid (Tp.sx (f + 1) 2 b r ≠ .error (99, 0)) := hn
  have HL : Hid (LevelC p ts f) := hL
  have HK : Hid (Plainly r) := hk
  generalize hres : Tp.ex f 6 0 0 [] r = res at hcall
  have HR : Hid (Tp.ex f 6 0 0 [] r = res) := hres
  have HC : Hid (∀ W, St W p ts r 0 b → Calls Tryz.prog 86 #[.pointer (some ⟨p.pb, 0, none⟩)] W fun e w' => Post p ts 0 b W (VX W.heap.size) res e w') := hcall
  clear hcall hn hn0 hL hM hk hres
  go_enter Tryz.func75, Tryz.ntmps75
  go_wp2_with fail
  have hba : ∀ ob, Below w.heap.size w (w.alloc ob) := fun ob => (Below.refl _ _).alloc (Nat.le_refl _) _
  refine (now_any (h.below (hba _))).mono ?_
  rintro e w1 ⟨rfl, hb1⟩
  have hst1 := (h.below (hba _)).below hb1
  have hrb1 : w1.heap[w.heap.size]? = some (.cells (scells 0 0 ⟨#[]⟩ (.pointer none) (.pointer none) (.slice none 0 0) (.slice none 0 0)) 85 (0, 0)) := (hb1.block _ (by simp)).trans (new_blk _ _)
  have hext1 : Ext p.pb w w1 := (Ext.below (hba _)).trans (Ext.below hb1)
  have hsz1 := lt_blk hrb1
  clear hba hb1
  go_wp2_with fail
  refine (HC.out _ hst1).mono ?_
  intro e w2 hq
  rcases res with er | ⟨x, r1⟩
  · obtain ⟨ht, hx2⟩ := hq
    obtain ⟨ab, h1, rfl, h2, h3⟩ := ht.out
    go_wp2_with fail
    refine ⟨rfl, ?_⟩
    rw [sx2_bad HK.out HR.out]
    exact thrown_up hext1 ht hx2
  · obtain ⟨v, rfl, hv, hst2, hx2⟩ := hq
    obtain ⟨bb, rfl⟩ := hv.ptr
    obtain ⟨code, pos, n, mod, name, op, left, right, args, la, rv, av, hxe, hbb, hblk, hleft⟩ := hv.inv
    have hrb2 := (hx2.block w.heap.size hsz1 (by omega)).trans hrb1
    have hext2 := hext1.trans hx2
    obtain ⟨rb, hrb⟩ : ∃ rb, rb = w.heap.size := ⟨_, rfl⟩
    rw [← hrb] at hrb2 hsz1 ⊢
    have hv2 : VX (rb + 1) x (.pointer (some ⟨bb, 0, none⟩)) w2 := hv.base (by omega)
    have hle2 : VP (rb + 1) left (.pointer la) w2 := hleft.base (by omega)
    have hps : p.pb < rb := by omega
    have hrw : w.heap.size ≤ rb := by omega
    have hrbb : rb < bb := by omega
    clear hv hleft hx2 hext1 hrb1 hst1 hsz1 hrb hbb
    have k0 : w2.cell? ⟨bb, 0, none⟩ = some (.int .i64 (code : Int)) := cell_blk hblk
    have k3 : w2.cell? ⟨bb, 3, none⟩ = some (.string (bs mod)) := cell_blk hblk
    by_cases hc6 : code = 6
    · have hc' : ((code : Int) == 6) = true := by simp; omega
      have HSP : Hid (Tp.sx (f + 1) 2 b r = (do let r2 ← Tp.want Tp.mSemi r1; .ok ([⟨6, at' r, [], [], x, [], []⟩], r2))) := sx2_call HK.out HR.out (by rw [hxe]; exact hc6)
      clear hc6 hxe
      go_wp2_with fail
      clear k0 k3
      by_cases hse : tx r1 = Tp.mSemi
      · refine (want_yes hst2 Tp.mSemi _ rfl hse).mono ?_
        rintro e w3 ⟨rfl, hst3, hx3⟩
        have HS : Hid (Tp.want Tp.mSemi r1 = .ok (stp r1)) := by unfold Hid Tp.want; rw [if_pos hse]
        have hrb3 := (hx3.block rb (lt_blk hrb2) (by omega)).trans hrb2
        have hv3 := VX.ext hx3 (by omega) hv2
        have hext3 := hext2.trans hx3
        clear hse hst2 hx3 hrb2 hv2 hle2 hext2 hblk
        have kr : ∀ i, w3.cell? ⟨rb, i, none⟩ = (scells 0 0 ⟨#[]⟩ (.pointer none) (.pointer none) (.slice none 0 0) (.slice none 0 0))[i]? := fun i => cell_blk hrb3
        have zr : ∀ i, w3.frozen? ⟨rb, i, none⟩ = false := fun i => frozen_blk hrb3
        simp only [scells] at kr
        go_wp2_with fail
        refine bodyPost_ret (v := .agg (scells (6 : Nat) (at' r) (bs []) (.pointer none) (.pointer (some ⟨bb, 0, none⟩)) (.slice none 0 0) (.slice none 0 0))) (by simp [results, Tryz.results75, go_sem, kr, scells, bs, at']) rfl ?_
        rw [HSP.out]
        simp only [bind, Except.bind, HS.out]
        refine ⟨_, rfl, VS.node (Or.inl ⟨rfl, rfl⟩) (Or.inr ?_) (Or.inl ⟨rfl, rfl⟩) (Or.inl ⟨rfl, rfl⟩), ?_, ?_⟩
        · exact VX.base (VX.ext (b := rb) (ext_set7 w3 rb _ _ _ _ _ _ _) (by omega) hv3) (by omega)
        · exact hst3.belowB (below_set7 w3 rb _ _ _ _ _ _ _) (by omega)
        · exact hext3.trans' ((below_set7 w3 rb _ _ _ _ _ _ _).mono hrw)
      · refine (want_no hst2 Tp.mSemi _ rfl hse).mono ?_
        rintro e w3 ⟨ht, hx3⟩
        have HS : Hid (Tp.want Tp.mSemi r1 = .error (3, at' r1)) := by unfold Hid Tp.want; rw [if_neg hse]
        clear hse
        obtain ⟨ab, h1, rfl, h2, h3⟩ := ht.out
        go_wp2_with fail
        refine ⟨rfl, ?_⟩
        rw [HSP.out]
        simp only [bind, Except.bind, HS.out]
        exact thrown_up hext2 ht hx3
    · have hc' : ((code : Int) == 6) = false := by simp; omega
      have hc7 : Tp.codeOf x ≠ 6 := by rw [hxe]; exact hc6
      by_cases hmo : mod = []
      · have hmd : (!(bs mod).toList.isEmpty) = false := by rw [bs_toList, hmo]; rfl
        have HSP : Hid (Tp.sx (f + 1) 2 b r = (do let r2 ← Tp.want Tp.mSet r1; let (y, r3) ← Tp.ex f 0 0 0 [] r2; let r4 ← Tp.want Tp.mSemi r3; .ok ([⟨1, at' r, name, left, y, [], []⟩], r4))) := by
          have q := sx2_set (b := b) HK.out HR.out hc7 (by rw [hxe]; exact hmo)
          rw [hxe] at q
          exact q
        clear hc6 hc7 hxe hmo
        go_wp2_with fail
        clear k0 k3 hmd hc'
        by_cases hse : tx r1 = Tp.mSet
        · refine (want_yes hst2 Tp.mSet _ rfl hse).mono ?_
          rintro e w3 ⟨rfl, hst3, hx3⟩
          have HS : Hid (Tp.want Tp.mSet r1 = .ok (stp r1)) := by unfold Hid Tp.want; rw [if_pos hse]
          have hrb3 := (hx3.block rb (lt_blk hrb2) (by omega)).trans hrb2
          have hblk3 := (hx3.block bb (lt_blk hblk) (by omega)).trans hblk
          have hle3 := hle2.ext hx3 (by omega)
          have hext3 := hext2.trans hx3
          clear hse hst2 hx3 hrb2 hv2 hle2 hext2 hblk
          have y1 : w3.cell? ⟨bb, 4, none⟩ = some (.string (bs name)) := cell_blk hblk3
          have y2 : w3.cell? ⟨bb, 6, none⟩ = some (.pointer la) := cell_blk hblk3
          have HS2 : Hid (St w3.drew p ts (stp r1) 0 b) := hst3.below (below_drew _)
          have HEXT : Hid (Ext p.pb w w3.drew) := hext3.trans (Ext.below (below_drew _))
          have hlb3 := lt_blk hblk3
          rcases hres2 : Tp.ex f 0 0 0 [] (stp r1) with er | ⟨y, r3⟩
          · have HR2 : Hid (Tp.ex f 0 0 0 [] (stp r1) = .error er) := hres2
            have HER : Hid (er ≠ (99, 0)) := by intro e; apply HN.out; rw [HSP.out]; simp only [bind, Except.bind, HS.out, HR2.out, e]
            clear hres2
            have HS3 : Hid (∀ ob, St (w3.alloc ob).drew p ts (stp r1) 0 b) := fun ob => hst3.below ((Below.refl _ _).alloc (Nat.le_refl _) _).drew
            have HX3 : Hid (∀ ob, Ext p.pb w (w3.alloc ob).drew) := fun ob => hext3.trans (Ext.below ((Below.refl _ _).alloc (Nat.le_refl _) _).drew)
            go_wp2_with fail
            go_region_dies
            all_goals first
              | (refine (expr_er HL HS2.out (by omega) HR2 HER).mono ?_; intro e w4 hq; obtain ⟨ab, h1, h0, h2, h3⟩ := hq.1.out; subst h0; refine ⟨rfl, ?_⟩; rw [HSP.out]; simp only [bind, Except.bind, HS.out, HR2.out]; exact thrown_up HEXT.out hq.1 hq.2)
              | (refine (expr_er HL (HS3.out _) (by omega) HR2 HER).mono ?_; intro e w4 hq; obtain ⟨ab, h1, h0, h2, h3⟩ := hq.1.out; subst h0; refine ⟨rfl, ?_⟩; rw [HSP.out]; simp only [bind, Except.bind, HS.out, HR2.out]; exact thrown_up (HX3.out _) hq.1 hq.2)
          · have HR2 : Hid (Tp.ex f 0 0 0 [] (stp r1) = .ok (y, r3)) := hres2
            have HS3 : Hid (∀ ob, St (w3.alloc ob).drew p ts (stp r1) 0 b) := fun ob => hst3.below ((Below.refl _ _).alloc (Nat.le_refl _) _).drew
            have HX3 : Hid (∀ ob, Ext p.pb w (w3.alloc ob).drew) := fun ob => hext3.trans (Ext.below ((Below.refl _ _).alloc (Nat.le_refl _) _).drew)
            clear hres2
            go_upto_region 9 with fail
            go_cut [5] (fun s5 wc => ∃ (sb vb : Nat), s5 = .pointer (some ⟨sb, 0, none⟩) ∧ rb < sb ∧ St wc p ts r3 0 b ∧ Ext p.pb w wc ∧
              wc.heap[rb]? = some (.cells (scells 0 0 ⟨#[]⟩ (.pointer none) (.pointer none) (.slice none 0 0) (.slice none 0 0)) 85 (0, 0)) ∧
              wc.heap[sb]? = some (.cells (scells 1 (at' r) (bs name) (.pointer la) (.pointer (some ⟨vb, 0, none⟩)) (.slice none 0 0) (.slice none 0 0)) 85 (0, 0)) ∧
              VPd (fun i => rb + 1 ≤ i ∧ i ≠ sb) left (.pointer la) wc ∧ VPd (fun i => rb + 1 ≤ i ∧ i ≠ sb) y (.pointer (some ⟨vb, 0, none⟩)) wc)
            case first =>
              go_region_held3 (fun w' => w'.cell? ⟨bb, 4, none⟩ = some (.string (bs name)) ∧ w'.cell? ⟨bb, 6, none⟩ = some (.pointer la)) (first | (constructor <;> simp [z1, z2, hlb4, go_sem]) | (constructor <;> simp [y1, y2, hlb3, go_sem])) ((go_at_call 85; first | (refine (expr_ok HL HS2.out (by omega) HR2).mono ?_; rintro e w4 ⟨vb, rfl, hv, hst4, hx4⟩; have z1 : w4.cell? ⟨bb, 4, none⟩ = some (.string (bs name)) := hx4.cell (by simpa using y1) (by simp; omega); have z2 : w4.cell? ⟨bb, 6, none⟩ = some (.pointer la) := hx4.cell (by simpa using y2) (by simp; omega); have hlb4 := lt_of_cell z1) | (refine (expr_ok HL (HS3.out _) (by omega) HR2).mono ?_; rintro e w4 ⟨vb, rfl, hv, hst4, hx4⟩; have z1 : w4.cell? ⟨bb, 4, none⟩ = some (.string (bs name)) := hx4.cell (cell_alloc y1 _) (by simp; omega); have z2 : w4.cell? ⟨bb, 6, none⟩ = some (.pointer la) := hx4.cell (cell_alloc y2 _) (by simp; omega); have hlb4 := lt_of_cell z1; have hz4 : w4.heap[w3.heap.size]? = some (.cells #[.int .i64 0, .int .i64 0, .string ⟨#[]⟩, .pointer none, .pointer none, .slice none 0 0, .slice none 0 0] 85 (0, 0)) := (hx4.block _ (by simp) (by omega)).trans (new_blk _ _); have kz : ∀ i, w4.cell? ⟨w3.heap.size, i, none⟩ = (#[.int .i64 0, .int .i64 0, .string ⟨#[]⟩, .pointer none, .pointer none, .slice none 0 0, .slice none 0 0] : Array Value)[i]? := fun i => cell_blk hz4; have zz : ∀ i, w4.frozen? ⟨w3.heap.size, i, none⟩ = false := fun i => frozen_blk hz4)))
              · go_wp2_with fail
                go_meet
                case rel =>
                  have hsz4 := hx4.size
                  have hsz4 : w3.heap.size ≤ w4.heap.size := hx4.size
                  have hlr := lt_blk hrb3
                  have hal : Below w4.heap.size w4 (w4.alloc (.cells #[.int .i64 1, .int .i64 ((hd r).pos : Int), .string (bs name), .pointer la, .pointer (some ⟨vb, 0, none⟩), .slice none 0 0, .slice none 0 0] 85)) := (Below.refl _ _).alloc (Nat.le_refl _) _
                  refine ⟨w4.heap.size, vb, rfl, by omega, hst4.below hal, (HEXT.out.trans hx4).trans (Ext.below hal), (hal.block rb (by omega)).trans ((hx4.block rb hlr (by omega)).trans hrb3), new_blk _ _, ?_, ?_⟩
                  · exact VPd.mono (w := w3) (D := fun i => rb + 1 ≤ i) (fun i hi hl => ⟨(hal.block i (by omega)).trans (hx4.block i hl (by omega)), hi, by omega⟩) (hle3.d rfl)
                  · refine VPd.mono (D := fun i => w3.heap.size ≤ i) (fun i hi hl => ⟨hal.block i hl, by omega, by omega⟩) (VX.d hv (fun i hi => hi))
              · go_wp2_with fail
                go_meet
                case rel =>
                  have hsz4 := hx4.size
                  simp at hsz4
                  have hlr := lt_blk hrb3
                  have hxS := ext_set7 w4 w3.heap.size (.int .i64 1) (.int .i64 ((hd r).pos : Int)) (.string (bs name)) (.pointer la) (.pointer (some ⟨vb, 0, none⟩)) (.slice none 0 0) (.slice none 0 0)
                  have hbS := below_set7 w4 w3.heap.size (.int .i64 1) (.int .i64 ((hd r).pos : Int)) (.string (bs name)) (.pointer la) (.pointer (some ⟨vb, 0, none⟩)) (.slice none 0 0) (.slice none 0 0)
                  refine ⟨w3.heap.size, vb, rfl, hlr, hst4.belowB hbS (by omega), ((HX3.out _).trans hx4).trans' (hbS.mono (by omega)), (hbS.block rb hlr).trans ((hx4.block rb (by simp; omega) (by omega)).trans ((Below.heap_alloc w3 _ rb hlr).trans hrb3)), blk_set7 hz4 _ _ _ _ _ _ _, ?_, ?_⟩
                  · exact VPd.mono (w := w3) (D := fun i => rb + 1 ≤ i) (fun i hi hl => ⟨(hbS.block i hl).trans ((hx4.block i (by simp; omega) (by omega)).trans (Below.heap_alloc w3 _ i hl)), hi, by omega⟩) (hle3.d rfl)
                  · exact VPd.mono (D := fun i => w3.heap.size + 1 ≤ i) (fun i hi hl => ⟨hxS.block i hl (by omega), by omega, by omega⟩) (VX.d hv (fun i hi => by simpa using hi))
            case rest =>
              obtain ⟨sb, vb, rfl, hrs, hst5, hext5, hrb5, hsb5, hdl, hdy⟩ := hcut
              clear y1 y2 hst3 hext3 hrb3 hblk3 hle3 HS2 HEXT HS3 HX3 hlb3
              go_wp2_with fail
              by_cases hsm : tx r3 = Tp.mSemi
              · refine (want_yes hst5 Tp.mSemi _ rfl hsm).mono ?_
                rintro e w6 ⟨rfl, hst6, hx6⟩
                have HM : Hid (Tp.want Tp.mSemi r3 = .ok (stp r3)) := by unfold Hid Tp.want; rw [if_pos hsm]
                have hsb6 := (hx6.block sb (lt_blk hsb5) (by omega)).trans hsb5
                have hrb6 := (hx6.block rb (lt_blk hrb5) (by omega)).trans hrb5
                have hext6 := hext5.trans hx6
                have hdl6 := hdl.ext hx6 (by omega)
                have hdy6 := hdy.ext hx6 (by omega)
                clear hsm hst5 hx6 hsb5 hrb5 hext5 hdl hdy
                have ks : ∀ i, w6.cell? ⟨sb, i, none⟩ = (scells 1 (at' r) (bs name) (.pointer la) (.pointer (some ⟨vb, 0, none⟩)) (.slice none 0 0) (.slice none 0 0))[i]? := fun i => cell_blk hsb6
                have kr : ∀ i, w6.cell? ⟨rb, i, none⟩ = (scells 0 0 ⟨#[]⟩ (.pointer none) (.pointer none) (.slice none 0 0) (.slice none 0 0))[i]? := fun i => cell_blk hrb6
                have zr : ∀ i, w6.frozen? ⟨rb, i, none⟩ = false := fun i => frozen_blk hrb6
                simp only [scells] at ks kr
                go_wp2_with fail
                refine bodyPost_ret (v := .agg (scells (1 : Nat) (at' r) (bs name) (.pointer la) (.pointer (some ⟨vb, 0, none⟩)) (.slice none 0 0) (.slice none 0 0))) (by simp [results, Tryz.results75, go_sem, kr, scells]) rfl ?_
                rw [HSP.out]
                simp only [bind, Except.bind, HS.out, HR2.out, HM.out]
                have hxr := ext_set7 w6 rb (.int .i64 1) (.int .i64 (at' r : Int)) (.string (bs name)) (.pointer la) (.pointer (some ⟨vb, 0, none⟩)) (.slice none 0 0) (.slice none 0 0)
                have hbr := below_set7 w6 rb (.int .i64 1) (.int .i64 (at' r : Int)) (.string (bs name)) (.pointer la) (.pointer (some ⟨vb, 0, none⟩)) (.slice none 0 0) (.slice none 0 0)
                refine ⟨_, rfl, VS.mk' ?_ ?_ (VO.nil _ _) (VO.nil _ _), ?_, ?_⟩
                · exact (hdl6.ext hxr (by omega)).p (fun i hi => by omega)
                · exact (hdy6.ext hxr (by omega)).p (fun i hi => by omega)
                · exact hst6.belowB hbr (by omega)
                · exact hext6.trans' (hbr.mono hrw)
              · refine (want_no hst5 Tp.mSemi _ rfl hsm).mono ?_
                rintro e w6 ⟨ht, hx6⟩
                have HM : Hid (Tp.want Tp.mSemi r3 = .error (3, at' r3)) := by unfold Hid Tp.want; rw [if_neg hsm]
                clear hsm
                obtain ⟨ab, h1, rfl, h2, h3⟩ := ht.out
                go_wp2_with fail
                refine ⟨rfl, ?_⟩
                rw [HSP.out]
                simp only [bind, Except.bind, HS.out, HR2.out, HM.out]
                exact thrown_up hext5 ht hx6
        · refine (want_no hst2 Tp.mSet _ rfl hse).mono ?_
          rintro e w3 ⟨ht, hx3⟩
          have HS : Hid (Tp.want Tp.mSet r1 = .error (3, at' r1)) := by unfold Hid Tp.want; rw [if_neg hse]
          clear hse
          obtain ⟨ab, h1, rfl, h2, h3⟩ := ht.out
          go_wp2_with fail
          refine ⟨rfl, ?_⟩
          rw [HSP.out]
          simp only [bind, Except.bind, HS.out]
          exact thrown_up hext2 ht hx3
      · have hmd : (!(bs mod).toList.isEmpty) = true := by rw [bs_toList]; cases mod with | nil => exact absurd rfl hmo | cons _ _ => rfl
        have HSP : Hid (Tp.sx (f + 1) 2 b r = .error (3, at' r1)) := sx2_far HK.out HR.out hc7 (by rw [hxe]; exact hmo)
        clear hc6 hc7 hxe hmo
        go_wp2_with fail
        clear k0 k3 hmd hc'
        refine (wrong_any hst2 3).mono ?_
        rintro e w3 ⟨ht, hb3⟩
        obtain ⟨ab, h1, rfl, h2, h3⟩ := ht.out
        go_wp2_with fail
        refine ⟨rfl, ?_⟩
        rw [HSP.out]
        exact thrown_up hext2 ht (Ext.below hb3)
end Go.Proofs.YtkpapioaijmidaaGreatDoor
