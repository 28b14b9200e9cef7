import Derived.Test.YtkpapioaijmidaaGreatDoorKEE
import Derived.Test.YtkpapioaijmidaaGreatDoorKEC
import Derived.Test.YtkpapioaijmidaaGreatDoorKGb
import Derived.Test.YtkpapioaijmidaaGreatDoorKWi
import Derived.Deep.CutBlock
/- The document's reader: a MODULE is read. -/
namespace Go.Proofs.YtkpapioaijmidaaGreatDoor
open Go.RowKit
open Tp (Tok hd tx at' stp X S G Pr)
open Nr (Fl fine Sx tk tkS fl mu nm nu nms nimp ngl ngs nps npr nbody nend nmod NP flt)
theorem rtoks_of {w : World} {base tb n cap : Nat} {ts : List Tok} (h : w.ownsRow base 57 3 (.slice (some ⟨tb, 0, none⟩) n cap) ts.length (rtsC ts)) : n = ts.length ∧ base ≤ tb ∧ tb < w.heap.size ∧ ts.length ≤ cap ∧ ∀ i t, ts[i]? = some t → RTok w tb i t := by
  rcases h.2 with ⟨q, _⟩ | ⟨g, c, cur, q0, q1, q2, q3, q4, q5, q6⟩
  · cases q
  · cases q0
    refine ⟨rfl, q1, lt_blk q2, q3, fun i t hi => ?_⟩
    have hil : i < ts.length := by rw [List.getElem?_eq_some_iff] at hi; exact hi.1
    have hcell : ∀ j, j < 3 → w.cell? ⟨tb, i * 3 + j, none⟩ = (rtsC ts)[i * 3 + j]? := by
      intro j hj
      rw [cell_blk q2, ← Array.getElem?_toList, ← q6, List.getElem?_take_of_lt (by omega)]
    have hget : ∀ (l : List Tok) (i j : Nat) (t : Tok), l[i]? = some t → j < 3 → (rtsC l)[i * 3 + j]? = (rtC t)[j]? := by
      intro l
      induction l with
      | nil => intro i j t h; cases h
      | cons u l ih =>
        intro i j t h hj
        have e : rtsC (u :: l) = rtC u ++ rtsC l := by simp [rtsC]
        have hl : (rtC u).length = 3 := by simp [rtC]
        rw [e]
        cases i with
        | zero => simp at h; subst h; rw [List.getElem?_append_left (by omega)]; simp
        | succ i =>
          rw [List.getElem?_append_right (by omega), hl, show (i + 1) * 3 + j - 3 = i * 3 + j by omega]
          exact ih i j t (by simpa using h) hj
    refine ⟨?_, ?_, ?_⟩
    · have := hcell 0 (by omega); rw [hget ts i 0 t hi (by omega)] at this; simpa [rtC] using this
    · have := hcell 1 (by omega); rw [hget ts i 1 t hi (by omega)] at this; simpa [rtC] using this
    · have := hcell 2 (by omega); rw [hget ts i 2 t hi (by omega)] at this; simpa [rtC] using this
theorem rs_first {w w1 : World} {base tb n cap rb : Nat} {l : List UInt8} {ts : List Tok} (hs : Tp.scan (l.length + 1) 0 0 l = .ok ts) (hl : l.length ≤ 100000) (hown : w.ownsRow base 57 3 (.slice (some ⟨tb, 0, none⟩) n cap) ts.length (rtsC ts))
    (hb : Below w.heap.size w w1) (hk : w1.heap[rb]? = some (.cells #[.slice (some ⟨tb, 0, none⟩) n cap, .int .i64 0, .int .i64 (-1)] 49 (0, 0))) (hrb : w.heap.size ≤ rb) (hg : Gl w) : RS w1 ⟨rb, tb, cap⟩ ts ts fine := by
  obtain ⟨tk1, tk2, tk3, tt, tz, tk4, tk5⟩ := Tp.scan_tks _ _ _ _ _ hs
  have hlen := tk3 (by omega)
  obtain ⟨h0, h1, h2, h3, h4⟩ := rtoks_of hown
  subst h0
  have hgl := hgl_below hg hb
  refine ⟨(cell_blk hk).trans (by simp), (cell_blk hk).trans rfl, (cell_blk hk).trans rfl, fun j => frozen_blk hk, fun i t hi => ?_, by simp, by rw [tk4]; simp, by omega, h3, fun t ht => (by rw [tk4, List.getLast?_concat] at ht; cases ht; exact tk5), Nat.lt_of_lt_of_le h2 hrb, fun t ht => ?_, fun t ht => (tk1 t ht).k0, fun t ht => (tk1 t ht).k2, hgl, fun i hi => ?_⟩
  · have := h4 i t hi
    exact ⟨(hb.cell (p := ⟨tb, _, none⟩) h2).trans this.c0, (hb.cell (p := ⟨tb, _, none⟩) h2).trans this.c1, (hb.cell (p := ⟨tb, _, none⟩) h2).trans this.c2⟩
  · have := Tp.scan_tl _ _ _ _ _ hs t ht
    have hk := (tk1 t ht).kk
    exact ⟨by omega, by omega, hk⟩
  · have : i < w.heap.size := by
      simp only [glb, List.mem_cons, List.not_mem_nil, or_false] at hi
      rcases hi with rfl | rfl | rfl | rfl
      · exact lt_of_cell hg.f0
      · obtain ⟨m, hm⟩ := hg.ml; exact lt_of_cell hm
      · exact lt_of_cell (hg.lv 0 (by omega))
      · obtain ⟨ev, he, _⟩ := hg.er; exact lt_of_cell he
    exact Nat.lt_of_lt_of_le this hrb
theorem below_ext {B b : Nat} {w1 w w' : World} (h : Below B w1 w) (hx : Ext b w w') (hb : B ≤ b) (h1 : B ≤ w1.heap.size) : Below B w1 w' := h.trans (hx.toBelow hb (Nat.le_trans h1 h.size))
theorem below_step {B : Nat} {w1 w w' : World} (h : Below B w1 w) (k : Below w.heap.size w w') (h1 : B ≤ w1.heap.size) : Below B w1 w' := h.trans (k.mono (Nat.le_trans h1 h.size))
/- what the document's Parse leaves -/
def RParseP (w : World) (l : List UInt8) (e : Ending) (w' : World) : Prop :=
  match Tp.parse l with
  | .ok m => ∃ v, e = .returned (.tuple #[v, .agg #[.int .i64 0, .int .i64 (-1)]]) ∧ VM w.heap.size m v w'
  | .error er => e = .returned (.tuple #[.agg m0, .agg #[.int .i64 (er.1 : Int), .int .i64 (er.2 : Int)]])
theorem MS.setN {w : World} {rb : Nat} {nm nm' : List UInt8} (h : MS w rb nm [] [] [] (.slice none 0 0) (.slice none 0 0) (.slice none 0 0) []) : MS (w.setCell ⟨rb, 0, none⟩ (.string (bs nm'))) rb nm' [] [] [] (.slice none 0 0) (.slice none 0 0) (.slice none 0 0) [] :=
  ⟨set_blk 0 (.string (bs nm')) h.blk, Or.inl ⟨rfl, rfl, rfl⟩, World.ownsRow_nil _ _ _ _, World.ownsRow_nil _ _ _ _, fun b hb e => (by cases e), rfl⟩
theorem MS.newPr {w w' : World} {mb : Nat} {nm : List UInt8} {is : List (List UInt8)} {gs : List G} {ps : List Pr} {iv gv pv : Value} {pcs : List Value} {c : Pr} {name : ByteArray} {pos : Int} {seen : Bool} {pa va ba : Option Addr} {pn pc vn vc bn bc : Nat} (h : MS w mb nm is gs ps iv gv pv pcs)
    (hv : VPr w.heap.size c (.agg (pcells name pos seen (.slice pa pn pc) (.slice va vn vc) (.slice ba bn bc))) w') :
    RepP w' (fun b => mb < b ∧ gv.ownBlock ≠ some b ∧ pv.ownBlock ≠ some b) [c] [.string name, .int .i64 pos, .bool seen, .slice pa pn pc, .slice va vn vc, .slice ba bn bc] := by
  obtain ⟨pa', va', ba', pc', vc', bc', he, h1, h2, h3⟩ := hv
  have he := congrArg (fun v => match v with | Value.agg a => a.toList | _ => []) he
  simp only [pcells] at he
  simp at he
  obtain ⟨rfl, rfl, rfl, ⟨rfl, rfl, rfl⟩, ⟨rfl, rfl, rfl⟩, rfl, rfl, rfl⟩ := he
  exact MS.newP h rfl ⟨h1, h2, h3⟩
theorem rproc_lit {q : Rp} {ts : List Tok} {g : Nat} {w : World} {r : List Tok} {y : Pr × Sx} (h : RS w q ts r fine) (hy : npr g (r, fine) = some y) :
    Calls Tryz.prog 18 #[.pointer (some ⟨q.rb, 0, none⟩)] w fun e w' => ∃ (name : ByteArray) (pos : Int) (seen : Bool) (pa va ba : Option Addr) (pn pc vn vc bn bc : Nat), e = .returned (.agg #[.string name, .int .i64 pos, .bool seen, .slice pa pn pc, .slice va vn vc, .slice ba bn bc]) ∧
      (y.2.2 = fine → VPr w.heap.size y.1 (.agg (pcells name pos seen (.slice pa pn pc) (.slice va vn vc) (.slice ba bn bc))) w') ∧ RX w' q ts y.2 ∧ Ext q.rb w w' := rproc_post h hy
theorem lt_blk' {w : World} {k : Nat} {o : Obj} (h : w.heap[k]? = some o) : k < w.heap.size := by
  rw [Array.getElem?_eq_some_iff] at h; exact h.1
theorem drewH (w : World) (k : Nat) : w.drew.heap[k]? = w.heap[k]? := rfl
theorem allocH {w : World} {ob : Obj} {k : Nat} {o : Obj} (h : w.heap[k]? = some o) : (w.alloc ob).drew.heap[k]? = some o := (drewH _ _).trans ((Below.heap_alloc _ _ _ (lt_blk' h)).trans h)
def retW (w : World) (ra : Nat) (v0 v1 v2 v3 v4 a b : Value) : World := ((((((w.setCell ⟨ra, 0, none⟩ v0).setCell ⟨ra, 1, none⟩ v1).setCell ⟨ra, 2, none⟩ v2).setCell ⟨ra, 3, none⟩ v3).setCell ⟨ra, 4, none⟩ v4).setCell ⟨ra + 1, 0, none⟩ a).setCell ⟨ra + 1, 1, none⟩ b
theorem retW_facts {w : World} {ra : Nat} (h1 : w.heap[ra]? = some (.cells m0 31 (0, 0))) (h2 : w.heap[ra + 1]? = some (.cells #[.int .i64 0, .int .i64 0] 34 (0, 0))) (v0 v1 v2 v3 v4 a b : Value) :
    Below ra w (retW w ra v0 v1 v2 v3 v4 a b) ∧ (retW w ra v0 v1 v2 v3 v4 a b).heap[ra]? = some (.cells #[v0, v1, v2, v3, v4] 31 (0, 0)) ∧ (retW w ra v0 v1 v2 v3 v4 a b).heap[ra + 1]? = some (.cells #[a, b] 34 (0, 0)) ∧ (retW w ra v0 v1 v2 v3 v4 a b).heap.size = w.heap.size ∧ ∀ k, k ≠ ra → k ≠ ra + 1 → (retW w ra v0 v1 v2 v3 v4 a b).heap[k]? = w.heap[k]? := by
  have a1 := set_blk 4 v4 (set_blk 3 v3 (set_blk 2 v2 (set_blk 1 v1 (set_blk 0 v0 h1))))
  have e1 : ∀ k, k ≠ ra → (((((w.setCell ⟨ra, 0, none⟩ v0).setCell ⟨ra, 1, none⟩ v1).setCell ⟨ra, 2, none⟩ v2).setCell ⟨ra, 3, none⟩ v3).setCell ⟨ra, 4, none⟩ v4).heap[k]? = w.heap[k]? := fun k hk => by
    rw [Below.heap_setCell _ _ _ _ (by simpa using hk), Below.heap_setCell _ _ _ _ (by simpa using hk), Below.heap_setCell _ _ _ _ (by simpa using hk), Below.heap_setCell _ _ _ _ (by simpa using hk), Below.heap_setCell _ _ _ _ (by simpa using hk)]
  have a2 := set_blk 1 b (set_blk 0 a ((e1 (ra + 1) (by omega)).trans h2))
  refine ⟨below_set (below_set (below_set5 w ra v0 v1 v2 v3 v4) (by simp) 0 a) (by simp) 1 b, ?_, a2, by simp [retW], fun k hk hk2 => ?_⟩
  · unfold retW
    rw [Below.heap_setCell _ _ _ _ (by simp), Below.heap_setCell _ _ _ _ (by simp)]
    exact a1
  · unfold retW
    rw [Below.heap_setCell _ _ _ _ (by simpa using hk2), Below.heap_setCell _ _ _ _ (by simpa using hk2)]
    exact e1 k hk
end Go.Proofs.YtkpapioaijmidaaGreatDoor
