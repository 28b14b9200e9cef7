import Derived.Test.YtiolfelekiopdaaGreatDoorKMC
import Derived.Test.YtiolfelekiopdaaGreatDoorKKC
/- check: what is imported, and what is seen of it: imported. -/
namespace Go.Proofs.YtiolfelekiopdaaGreatDoor
open Go.RowKit Go.Maps
open Tp (Bs Th Sy Seen)

/- block sb is a map of what others see -/
def SeenM (w : World) (sb n : Nat) (S : Seen) : Prop := ∃ f, MapV w sb n f ∧ ∀ k, match S k with
  | none => f k = none
  | some l => ∃ v, f k = some v ∧ SL w 0 v l ∧ l.length ≤ 1000
theorem MapV.blk {w : World} {b n : Nat} {f : Bs → Option Value} (h : MapV w b n f) : ∃ es c, w.heap[b]? = some (.map es c) := by
  obtain ⟨D, ⟨es, clock, h1, _⟩, _⟩ := h.own
  exact ⟨es, clock, h1⟩
theorem SL.ext {w w' : World} {B b : Nat} {v : Value} {l : List Sy} (h : SL w B v l) (k : Ext b w w') (hb : ∃ es c, w.heap[b]? = some (.map es c)) : SL w' B v l := by
  rcases h with q | ⟨g, cap, q1, q2, q3⟩
  · exact Or.inl q
  · obtain ⟨cur, r1, r2, r3⟩ := q3.b
    obtain ⟨es, c, hm⟩ := hb
    have hne : g ≠ b := fun e => by rw [e, hm] at r1; cases r1
    exact Or.inr ⟨g, cap, q1, q2, ⟨⟨cur, (k.block g (lt_blk r1) hne).trans r1, r2, r3⟩, q3.n, q3.m⟩⟩
theorem SL.shape {w : World} {B : Nat} {v : Value} {l : List Sy} (h : SL w B v l) : ∃ a c, v = .slice a l.length c := h.len
theorem SeenM.on {w w' : World} {sb n : Nat} {S : Seen} (h : SeenM w sb n S) (k : Below w.heap.size w w') : SeenM w' sb n S := by
  obtain ⟨f, h1, h2⟩ := h
  refine ⟨f, h1.on (k.block _ h1.lt), fun q => ?_⟩
  have := h2 q
  cases hq : S q with
  | none => rw [hq] at this; exact this
  | some l => rw [hq] at this; obtain ⟨v, a, b, c⟩ := this; exact ⟨v, a, b.on k, c⟩
theorem SeenM.lt {w : World} {sb n : Nat} {S : Seen} (h : SeenM w sb n S) : sb < w.heap.size := by
  obtain ⟨f, h1, _⟩ := h
  exact h1.lt
theorem SeenM.ext {w w' : World} {sb n b : Nat} {S : Seen} (h : SeenM w sb n S) (k : Ext b w w') (hb : ∃ es c, w.heap[b]? = some (.map es c)) (hne : sb ≠ b) : SeenM w' sb n S := by
  obtain ⟨f, h1, h2⟩ := h
  refine ⟨f, h1.on (k.block _ h1.lt hne), fun q => ?_⟩
  have := h2 q
  cases hq : S q with
  | none => rw [hq] at this; exact this
  | some l => rw [hq] at this; obtain ⟨v, a, b, c⟩ := this; exact ⟨v, a, b.ext k hb, c⟩
/- a map, or none -/
def SeenV (w : World) (sv : Value) (S : Seen) : Prop := (sv = .map none ∧ ∀ k, S k = none) ∨ ∃ sb n, sv = .map (some sb) ∧ SeenM w sb n S
theorem SeenV.on {w w' : World} {sv : Value} {S : Seen} (h : SeenV w sv S) (k : Below w.heap.size w w') : SeenV w' sv S := by
  rcases h with q | ⟨sb, n, h1, h2⟩
  · exact Or.inl q
  · exact Or.inr ⟨sb, n, h1, h2.on k⟩
theorem SeenM.look {w : World} {sb n : Nat} {S : Seen} (h : SeenM w sb n S) (l : Bs) (hl : l.length ≤ 1000000) (c : Bool) : ∃ v, (Instr.lookup 34 (.map (some sb)) (.string (bs l)) c).run Tryz.prog w = .ok (if c then .tuple #[v, .bool (S l).isSome] else v) w ∧ (∃ a n d, v = .slice a n d) ∧ SL w 0 v ((S l).getD []) ∧ ((S l).getD []).length ≤ 1000 := by
  obtain ⟨f, h1, h2⟩ := h
  have hr := h1.look (t := 34) Tryz.underlying34 (zeroSyms w) l hl c
  have := h2 l
  cases hq : S l with
  | none =>
    rw [hq] at this
    rw [this] at hr
    exact ⟨_, hr, ⟨none, 0, 0, rfl⟩, Or.inl ⟨rfl, rfl⟩, by simp⟩
  | some ll =>
    rw [hq] at this
    obtain ⟨v, a, b, d⟩ := this
    rw [a] at hr
    obtain ⟨a1, c1, hv⟩ := b.shape
    exact ⟨_, hr, ⟨_, _, _, hv⟩, b, d⟩
theorem SeenV.look {w : World} {sv : Value} {S : Seen} (h : SeenV w sv S) (l : Bs) (hl : l.length ≤ 1000000) (c : Bool) : ∃ v, (Instr.lookup 34 sv (.string (bs l)) c).run Tryz.prog w = .ok (if c then .tuple #[v, .bool (S l).isSome] else v) w ∧ (∃ a n d, v = .slice a n d) ∧ SL w 0 v ((S l).getD []) ∧ ((S l).getD []).length ≤ 1000 := by
  rcases h with ⟨rfl, hn⟩ | ⟨sb, n, rfl, h1⟩
  · have hr := nilmap_look w (t := 34) Tryz.underlying34 (zeroSyms w) l hl c
    rw [hn l]
    exact ⟨_, hr, ⟨none, 0, 0, rfl⟩, Or.inl ⟨rfl, rfl⟩, by simp⟩
  · exact h1.look l hl c
theorem SeenM.store {w w' : World} {sb n : Nat} {S : Seen} {f : Bs → Option Value} (hf : MapV w sb n f) (h : ∀ k, match S k with
  | none => f k = none
  | some l => ∃ v, f k = some v ∧ SL w 0 v l ∧ l.length ≤ 1000) {x : Bs} {v : Value} {l : List Sy} (hv : SL w 0 v l) (hl : l.length ≤ 1000) (h1 : MapV w' sb (n + 1) (updV f x v)) (h2 : Ext sb w w') : SeenM w' sb (n + 1) (fun k => if k = x then some l else S k) := by
  refine ⟨_, h1, fun k => ?_⟩
  by_cases hk : k = x
  · simp only [if_pos hk, updV]
    exact ⟨v, rfl, hv.ext h2 hf.blk, hl⟩
  · simp only [if_neg hk, updV]
    have := h k
    cases hq : S k with
    | none => rw [hq] at this; exact this
    | some ll => rw [hq] at this; obtain ⟨u, a, b, c⟩ := this; exact ⟨u, a, b.ext h2 hf.blk, c⟩
theorem wpList_mapUpdate_s (w : World) {ops : Array Oper} {rest : List Oper} {o : Oper} {a : Act} {Q : Exit → Act → World → Prop}
    (hg : o.guard = none) (m x v : Operand) (hop : o.op = Op.mapUpdate 34 m x v)
    (b n : Nat) (S : Seen) (hown : SeenM w b n S) (hn : n < 1000000) (l : Bs) (hl : l.length ≤ 1000000) (val : Value) (ll : List Sy) (hsl : SL w 0 val ll) (hll : ll.length ≤ 1000) (hm : a.eval m = .map (some b)) (hx : a.eval x = .string (bs l)) (hv : a.eval v = val)
    (hK : ∀ w', SeenM w' b (n + 1) (fun k => if k = l then some ll else S k) → Ext b w w' → w'.heap.size = w.heap.size → wpList Tryz.prog ops Q rest (a.put o.dst undef) w') :
    wpList Tryz.prog ops Q (o :: rest) a w := by
  obtain ⟨f, h1, h2⟩ := hown
  exact wpList_mapUpdate_v w hg m x v _ hop _ Tryz.underlying34 b n f h1 hn l hl val hm hx hv (fun w' q1 q2 q3 => hK w' (SeenM.store h1 h2 hsl hll q1 q2) q2 q3)
end Go.Proofs.YtiolfelekiopdaaGreatDoor
/- check: imported, walked. -/
namespace Go.Proofs.YtiolfelekiopdaaGreatDoor
open Go.RowKit Go.Maps
open Tp (Bs Th Sy Seen)

def impsAt (own : Bs) (S : Seen) (l : List Bs) (i : Nat) : Tp.Ck := Tp.imps own S (l.take i).reverse (l.drop i)
theorem impsAt_zero (own : Bs) (S : Seen) (l : List Bs) : impsAt own S l 0 = Tp.imps own S [] l := by simp [impsAt]
theorem impsAt_all (own : Bs) (S : Seen) (l : List Bs) : impsAt own S l l.length = none := by simp [impsAt, Tp.imps]
theorem impsAt_step (own : Bs) (S : Seen) {l : List Bs} {i : Nat} {x : Bs} (h : l[i]? = some x) : impsAt own S l i = if x = own ∨ x ∈ l.take i then some (10, none) else if S x = none then some (8, none) else impsAt own S l (i + 1) := by
  obtain ⟨hi, e⟩ := List.getElem?_eq_some_iff.1 h
  unfold impsAt
  rw [List.drop_eq_getElem_cons hi, e, Tp.imps, List.take_succ_eq_append_getElem hi, List.reverse_append, e]
  simp
/- what is seen of the first i -/
def upTo (S : Seen) (l : List Bs) (i : Nat) : Seen := fun k => if k ∈ l.take i then S k else none
theorem upTo_succ {S : Seen} {l : List Bs} {i : Nat} {x : Bs} {ll : List Sy} (h : l[i]? = some x) (hs : S x = some ll) : upTo S l (i + 1) = fun k => if k = x then some ll else upTo S l i k := by
  obtain ⟨hi, e⟩ := List.getElem?_eq_some_iff.1 h
  funext k
  unfold upTo
  rw [List.take_succ_eq_append_getElem hi, e]
  by_cases hk : k = x
  · rw [if_pos (by simp [hk]), if_pos hk, hk, hs]
  · rw [if_neg hk]
    have : k ∈ l.take i ++ [x] ↔ k ∈ l.take i := by simp [hk]
    by_cases hm : k ∈ l.take i
    · rw [if_pos (this.2 hm), if_pos hm]
    · rw [if_neg (fun q => hm (this.1 q)), if_neg hm]
def thrownE (en : Nat) : Ending := .panicked [{ v := .iface 58 (.int .i64 (en : Int)), recovered := false }]
def ImpP (w : World) (own : Bs) (is : List Bs) (S : Seen) (e : Ending) (w' : World) : Prop := Below w.heap.size w w' ∧ match Tp.imps own S [] is with
  | none => ∃ ob n, e = .returned (.map (some ob)) ∧ w.heap.size ≤ ob ∧ SeenM w' ob n (fun k => if k ∈ is then S k else none)
  | some er => e = thrownE er.1
def AskI (w : World) (inn : Nat) (ia : Option Addr) (is : List Bs) : Prop :=
  ∀ i, i < inn → ∃ (g : Nat) (x : Bs), ia = some ⟨g, 0, none⟩ ∧ g < w.heap.size ∧ w.cell? ⟨g, i, none⟩ = some (.string (bs x)) ∧ x.length ≤ 1000000 ∧ is[i]? = some x
theorem beq_bs (a b : Bs) : ((bs a).toList == (bs b).toList) = decide (a = b) := by rw [Bool.eq_iff_iff, decide_eq_true_iff, beq_iff_eq, bs_toList, bs_toList]
set_option maxRecDepth 100000 in
set_option maxHeartbeats 2000000 in
theorem imported_walk {w : World} {nm : Bs} {inn gn pn bn ic gc pc bc : Nat} {ia ga pa ba : Option Addr} {is : List Bs} {S : Seen} {sv : Value} (hI : AskI w inn ia is) (hl : is.length = inn) (hin : inn ≤ 1000) (hS : SeenV w sv S) :
    Calls Tryz.prog 31 #[.agg #[.string (bs nm), .slice ia inn ic, .slice ga gn gc, .slice pa pn pc, .slice ba bn bc], sv] w (ImpP w nm is S) := by
  obtain ⟨wm, hwm⟩ : ∃ wm, wm = w.alloc (.cells #[.string (bs nm), .slice ia inn ic, .slice ga gn gc, .slice pa pn pc, .slice ba bn bc] 29) := ⟨_, rfl⟩
  have hblk0 : wm.heap[w.heap.size]? = some (.cells #[.string (bs nm), .slice ia inn ic, .slice ga gn gc, .slice pa pn pc, .slice ba bn bc] 29 (0, 0)) := by rw [hwm]; exact new_blk _ _
  have hszm : wm.heap.size = w.heap.size + 1 := by rw [hwm]; simp
  have hbe : Below w.heap.size w (wm.alloc (.map #[] 0)) := by rw [hwm]; exact ((Below.refl _ _).alloc (Nat.le_refl _) _).alloc (by simp) _
  have hmv := MapV.made wm
  rw [hszm] at hmv
  have hsm : SeenM (wm.alloc (.map #[] 0)) (w.heap.size + 1) 0 (upTo S is 0) := ⟨_, hmv, fun k => by simp [upTo]⟩
  have hblk : (wm.alloc (.map #[] 0)).heap[w.heap.size]? = some (.cells #[.string (bs nm), .slice ia inn ic, .slice ga gn gc, .slice pa pn pc, .slice ba bn bc] 29 (0, 0)) := (Below.heap_alloc _ _ _ (by omega)).trans hblk0
  obtain ⟨k0, k1, k2, k3, k4⟩ := cell_box5' hblk
  have hmm := @run_makeMap Tryz.prog
  have HI := Lib.hid hI
  have HL := Lib.hid hl
  have HK := Lib.hid hblk
  have HSM := Lib.hid hsm
  have HMB := Lib.hid hmv.blk
  have HBE := Lib.hid hbe
  have HS : Hid (SeenV (wm.alloc (.map #[] 0)) sv S) := hS.on hbe
  have HSB : Hid (∀ sb, sv = .map (some sb) → sb < w.heap.size) := by
    rcases hS with ⟨rfl, _⟩ | ⟨sb, n, rfl, q⟩
    · intro sb e; cases e
    · intro sb' e; cases e; exact q.lt
  have hin' : (inn : Int) ≤ 1000 := by omega
  clear hI hl hblk hsm hmv hbe hS k0 k2 k3 k4 hblk0
  go_enter Tryz.func31, Tryz.ntmps31
  go_wp2_with fail
  rw [← hwm]
  have hsz0 : w.heap.size + 2 ≤ (wm.alloc (.map #[] 0)).heap.size := by simp; omega
  generalize wm.alloc (.map #[] 0) = w0 at *
  clear hwm hszm wm hmm
  go_loopg [16] inn (fun k vi wr => ∃ i : Nat, i ≤ inn ∧ k = inn - i ∧ vi = .int .i64 (i : Int) ∧ Hid (SeenM wr (w.heap.size + 1) i (upTo S is i)) ∧ Hid (Ext (w.heap.size + 1) w0 wr) ∧ Hid (Tp.imps nm S [] is = impsAt nm S is i ∧ ∀ k ∈ is.take i, S k ≠ none))
  case atStart => exact ⟨0, by omega, by omega, rfl, HSM, Ext.refl _ _, (impsAt_zero _ _ _).symm, by simp⟩
  case round =>
    obtain ⟨i, hid, hk, rfl, HTM, HE, HIM⟩ := hrel
    have hsz := HE.out.size
    by_cases hlt : i < inn
    · have hlt' : (i : Int) < (inn : Int) := by omega
      obtain ⟨g, x, hga, hgB, c0, hxl, hx⟩ := HI.out i hlt
      subst hga
      have kc0 : wr.cell? ⟨g, i, none⟩ = some (.string (bs x)) := HE.out.cell ((HBE.out.cell (p := ⟨g, i, none⟩) hgB).trans c0) (by simp; omega)
      have kn0 : wr.cell? ⟨w.heap.size, 0, none⟩ = some (.string (bs nm)) := HE.out.cell (cell_box5' HK.out).1 (by simp)
      have hlgr : g < wr.heap.size := by omega
      have hlwr : w.heap.size < wr.heap.size := by omega
      have HX := Lib.hid hx
      have HST := Lib.hid (impsAt_step nm S hx)
      obtain ⟨v1, hlook1, ⟨a1, n1, d1, hv1⟩, _, _⟩ := HTM.out.look x hxl true
      subst hv1
      have HB3 : Hid (Below w.heap.size w wr) := HBE.out.trans (ext_below HE.out (by omega) (by omega))
      have hah : (upTo S is i x).isSome = decide (x ∈ is.take i) := by
        unfold upTo
        by_cases hm : x ∈ is.take i
        · rw [if_pos hm, decide_eq_true hm]
          exact Option.isSome_iff_ne_none.2 (HIM.out.2 x hm)
        · rw [if_neg hm, decide_eq_false hm]; rfl
      rw [hah] at hlook1
      clear c0 hx hah
      by_cases hm : x ∈ is.take i
      · rw [decide_eq_true hm] at hlook1
        simp only [if_true] at hlook1
        have HD : Hid (Tp.imps nm S [] is = some (10, none)) := by unfold Hid; rw [HIM.out.1, HST.out, if_pos (Or.inr hm)]
        clear hm
        go_wp2_with fail
        refine ⟨rfl, HB3.out, ?_⟩
        rw [HD.out]
        rfl
      · rw [decide_eq_false hm] at hlook1
        simp only [if_true] at hlook1
        have heqb := beq_bs x nm
        by_cases hq : x = nm
        · rw [decide_eq_true hq] at heqb
          have HD : Hid (Tp.imps nm S [] is = some (10, none)) := by unfold Hid; rw [HIM.out.1, HST.out, if_pos (Or.inl hq)]
          clear hm hq
          go_wp2_with fail
          refine ⟨rfl, HB3.out, ?_⟩
          rw [HD.out]
          rfl
        · rw [decide_eq_false hq] at heqb
          have HS1 : Hid (SeenV wr sv S) := by
            have hs0 := HS.out
            rcases hs0 with q | ⟨sb, n, h1, h2⟩
            · exact Or.inl q
            · exact Or.inr ⟨sb, n, h1, h2.ext HE.out HMB.out (by have := HSB.out sb h1; omega)⟩
          obtain ⟨v2, hlook2, ⟨a2, n2, d2, hv2⟩, hsl2, hll2⟩ := HS1.out.look x hxl true
          subst hv2
          have HSL := Lib.hid hsl2
          have HLL := Lib.hid hll2
          have HNO : Hid (¬ (x = nm ∨ x ∈ is.take i)) := fun e => e.elim hq hm
          clear hsl2 hll2 hm hq
          cases hsx : S x with
          | none =>
            rw [hsx] at hlook2
            simp only [Option.isSome_none, if_true] at hlook2
            have HD : Hid (Tp.imps nm S [] is = some (8, none)) := by unfold Hid; rw [HIM.out.1, HST.out, if_neg HNO.out, if_pos hsx]
            clear hsx
            go_wp2_with fail
            refine ⟨rfl, HB3.out, ?_⟩
            rw [HD.out]
            rfl
          | some ll =>
            rw [hsx] at hlook2 HSL HLL
            simp only [Option.isSome_some, if_true] at hlook2
            have HSX := Lib.hid hsx
            clear hsx
            go_wp2_with (at_mapUpdate; refine wpList_mapUpdate_s _ rfl _ _ _ rfl (w.heap.size + 1) i (upTo S is i) HTM.out (by omega) x hxl (.slice a2 n2 d2) ll HSL.out HLL.out rfl rfl rfl ?_; intro w3 q1 q2 q3)
            have HT3 : Hid (SeenM w3 (w.heap.size + 1) (i + 1) (upTo S is (i + 1))) := by unfold Hid; rw [upTo_succ HX.out HSX.out]; exact q1
            have HE3 := Lib.hid (HE.out.trans q2)
            have HIM3 : Hid (Tp.imps nm S [] is = impsAt nm S is (i + 1) ∧ ∀ k ∈ is.take (i + 1), S k ≠ none) := by
              refine ⟨by rw [HIM.out.1, HST.out, if_neg HNO.out, if_neg (by rw [HSX.out]; simp)], fun k hk => ?_⟩
              obtain ⟨hi, e⟩ := List.getElem?_eq_some_iff.1 HX.out
              rw [List.take_succ_eq_append_getElem hi, e, List.mem_append] at hk
              rcases hk with hk | hk
              · exact HIM.out.2 k hk
              · rw [List.mem_singleton.1 hk, HSX.out]; simp
            clear q1 q2 q3
            go_wp2_with fail
            go_roundg (inn - (i + 1))
            case measure => omega
            case rel => exact ⟨i + 1, by omega, rfl, by go_num, HT3, HE3, HIM3⟩
    · have hlt' : ¬ (i : Int) < (inn : Int) := by omega
      have hei : i = is.length := by have := HL.out; omega
      have HF1 : Hid (Tp.imps nm S [] is = none) := by unfold Hid; rw [HIM.out.1, hei, impsAt_all]
      have HF2 : Hid (SeenM wr (w.heap.size + 1) i (fun k => if k ∈ is then S k else none)) := by
        have := HTM.out
        rw [hei] at this ⊢
        unfold upTo at this
        rw [List.take_length] at this
        exact this
      have HB3 : Hid (Below w.heap.size w wr) := HBE.out.trans (ext_below HE.out (by omega) (by omega))
      clear HTM HE HIM hei
      go_wp2_with fail
      go_ret
      refine ⟨HB3.out, ?_⟩
      rw [HF1.out]
      exact ⟨_, _, rfl, by omega, HF2.out⟩
end Go.Proofs.YtiolfelekiopdaaGreatDoor
