import Derived.Test.YtkpapioaijmidaaGreatDoorKEc
import Derived.Lib.QuietBelow
import Derived.Deep.CutRange
import Derived.Deep.DeepCutAuto
/- The law's own: the same statements. -/
namespace Go.Proofs.YtkpapioaijmidaaGreatDoor
open Go.RowKit Go.Sort
open Tp (Tok hd tx at' stp X S G Pr)
theorem RepS.step' {w w' : World} {D : Nat → Prop} {l : List S} {cs : List Value} (h : RepS w D l cs) (k : Below w.heap.size w w') : RepS w' D l cs := h.mono' (fun b hb hl => ⟨k.block b hl, hb⟩)
theorem OwnS.step' {w w' : World} {D : Nat → Prop} {v : Value} {n : Nat} {cs : List Value} (h : OwnS w D v n cs) (k : Below w.heap.size w w') : OwnS w' D v n cs := h.mono (fun b hb hl => ⟨k.block b hl, hb⟩)
theorem RepS.nth {w : World} {D : Nat → Prop} : ∀ (l : List S) (cs : List Value), RepS w D l cs → ∀ i (h : i < l.length), ∃ (tv ev : Value) (ls vs tcs ecs : List Value),
    (∀ j, j < 7 → cs[i * 7 + j]? = [.int .i64 (l[i].code : Int), .int .i64 (l[i].pos : Int), .string (bs l[i].name), ls.headD (.pointer none), vs.headD (.pointer none), tv, ev][j]?) ∧ RepL w D l[i].index ls ∧ ls.length ≤ 1 ∧ RepL w D l[i].value vs ∧ vs.length ≤ 1 ∧ RepS w D l[i].thn tcs ∧ OwnS w D tv l[i].thn.length tcs ∧ RepS w D l[i].els ecs ∧ OwnS w D ev l[i].els.length ecs := by
  intro l
  induction l with
  | nil => intro cs _ i h; simp at h
  | cons x l ih =>
    intro cs h i hi
    obtain ⟨code', pos', nm', ix', vl', th', el'⟩ := x
    rw [RepS] at h
    obtain ⟨tv, ev, ls, vs, tcs, ecs, cs', h1, h2, h3, h4, h5, h6, h7, h8, h9, h10⟩ := h
    subst h1
    cases i with
    | zero =>
      refine ⟨tv, ev, ls, vs, tcs, ecs, fun j hj => ?_, h2, h3, h4, h5, h6, h7, h8, h9⟩
      rw [Nat.zero_mul, Nat.zero_add, List.getElem?_append_left (by simpa using hj)]
      rfl
    | succ i =>
      obtain ⟨tv', ev', ls', vs', tcs', ecs', q1, q2⟩ := ih cs' h10 i (by simpa using hi)
      refine ⟨tv', ev', ls', vs', tcs', ecs', fun j hj => ?_, q2⟩
      rw [List.getElem?_append_right (by simp; omega)]
      have : (i + 1) * 7 + j - [Value.int .i64 (code' : Int), .int .i64 (pos' : Int), .string (bs nm'), ls.headD (.pointer none), vs.headD (.pointer none), tv, ev].length = i * 7 + j := by simp; omega
      rw [this]
      exact q1 j hj
theorem OwnS.at' {w : World} {D : Nat → Prop} {a : Option Addr} {n c : Nat} {cs : List Value} (h : OwnS w D (.slice a n c) n cs) (i : Nat) (hi : i < n) :
    ∃ g : Nat, a = some ⟨g, 0, none⟩ ∧ g < w.heap.size ∧ ∀ j, j < 7 → w.cell? ⟨g, i * 7 + j, none⟩ = cs[i * 7 + j]? := by
  rcases h with ⟨q, q'⟩ | ⟨g, cap, cur, q0, q1, q2, q3, q4, q5, q6⟩
  · omega
  · cases q0
    refine ⟨g, rfl, lt_blk q2, fun j hj => ?_⟩
    rw [cell_blk q2, ← Array.getElem?_toList, ← q6, List.getElem?_take_of_lt (by omega)]
theorem OwnS.long {w : World} {D : Nat → Prop} {v : Value} {n : Nat} {cs : List Value} (h : OwnS w D v n cs) : n ≤ 9223372036854775807 ∧ ∃ a c, v = .slice a n c := by
  rcases h with ⟨rfl, rfl⟩ | ⟨g, cap, cur, rfl, q1, q2, q3, q4, q5, q6⟩
  · exact ⟨by omega, none, 0, rfl⟩
  · exact ⟨by unfold maxLen at q4; omega, _, _, rfl⟩
theorem two_new (w : World) (c1 c2 : Array Value) (t : Nat) : ((w.alloc (.cells c1 t)).alloc (.cells c2 t)).drew.heap[w.heap.size]? = some (.cells c1 t (0, 0)) ∧ ((w.alloc (.cells c1 t)).alloc (.cells c2 t)).drew.heap[w.heap.size + 1]? = some (.cells c2 t (0, 0)) ∧ Below w.heap.size w ((w.alloc (.cells c1 t)).alloc (.cells c2 t)).drew := by
  refine ⟨?_, ?_, ((((Below.refl _ _).alloc (Nat.le_refl _) _).alloc (by simp) _)).drew⟩
  · exact (Below.heap_alloc (w.alloc (.cells c1 t)) (.cells c2 t) w.heap.size (by simp)).trans (new_blk w (.cells c1 t))
  · show ((w.alloc (.cells c1 t)).alloc (.cells c2 t)).heap[w.heap.size + 1]? = _
    have := new_blk (w.alloc (.cells c1 t)) (.cells c2 t)
    simpa using this
/- what a round asks of two statements -/
def Pair (w : World) (aa a2 : Option Addr) (i : Nat) : Prop := ∃ (g g2 : Nat) (code pos : Int) (nm : ByteArray) (ia va ta ea ia2 va2 ta2 ea2 : Option Addr) (tn tc en ec tc2 ec2 : Nat), aa = some ⟨g, 0, none⟩ ∧ a2 = some ⟨g2, 0, none⟩ ∧ g < w.heap.size ∧ g2 < w.heap.size ∧
  (∀ j, j < 7 → w.cell? ⟨g, i * 7 + j, none⟩ = [.int .i64 code, .int .i64 pos, .string nm, .pointer ia, .pointer va, .slice ta tn tc, .slice ea en ec][j]?) ∧ (∀ j, j < 7 → w.cell? ⟨g2, i * 7 + j, none⟩ = [.int .i64 code, .int .i64 pos, .string nm, .pointer ia2, .pointer va2, .slice ta2 tn tc2, .slice ea2 en ec2][j]?) ∧
  ∀ W, Below w.heap.size w W → Calls Tryz.prog 49 #[.pointer ia, .pointer ia2] W (fun e w' => e = .returned (.bool true) ∧ Below W.heap.size W w') ∧ Calls Tryz.prog 49 #[.pointer va, .pointer va2] W (fun e w' => e = .returned (.bool true) ∧ Below W.heap.size W w') ∧
    Calls Tryz.prog 28 #[.slice ta tn tc, .slice ta2 tn tc2] W (fun e w' => e = .returned (.bool true) ∧ Below W.heap.size W w') ∧ Calls Tryz.prog 28 #[.slice ea en ec, .slice ea2 en ec2] W (fun e w' => e = .returned (.bool true) ∧ Below W.heap.size W w')
set_option maxRecDepth 100000 in
set_option maxHeartbeats 4000000 in
theorem sameStmts_row {w : World} {aa a2 : Option Addr} {an ac c2 : Nat} (han : an ≤ 9223372036854775807) (hP : ∀ i, i < an → Pair w aa a2 i) :
    Calls Tryz.prog 28 #[.slice aa an ac, .slice a2 an c2] w fun e w' => e = .returned (.bool true) ∧ Below w.heap.size w w' := by
  have hn' : (an : Int) ≤ 9223372036854775807 := by omega
  have HP := Lib.hid hP
  clear hP
  go_enter Tryz.func28, Tryz.ntmps28
  go_wp2_with fail
  go_loopg [5] an (fun k vi wr => ∃ i : Nat, i ≤ an ∧ k = an - i ∧ vi = .int .i64 (i : Int) ∧ Hid (Below w.heap.size w wr))
  case atStart => exact ⟨0, by omega, by omega, rfl, Below.refl _ _⟩
  case round =>
    obtain ⟨i, hid, hk, rfl, HB⟩ := hrel
    by_cases hlt : i < an
    · have hlt' : (i : Int) < (an : Int) := by omega
      obtain ⟨g, g2, code, pos, nm, ia, va, ta, ea, ia2, va2, ta2, ea2, tn, tc, en, ec, tc2, ec2, rfl, rfl, hgl, hgl2, hx, hy, hC⟩ := HP.out i hlt
      have x0 : wr.cell? ⟨g, i * 7, none⟩ = some (.int .i64 code) := (HB.out.cell (p := ⟨g, i * 7 + 0, none⟩) hgl).trans (hx 0 (by omega))
      have x1 : wr.cell? ⟨g, i * 7 + 1, none⟩ = some (.int .i64 pos) := (HB.out.cell (p := ⟨g, i * 7 + 1, none⟩) hgl).trans (hx 1 (by omega))
      have x2 : wr.cell? ⟨g, i * 7 + 2, none⟩ = some (.string nm) := (HB.out.cell (p := ⟨g, i * 7 + 2, none⟩) hgl).trans (hx 2 (by omega))
      have x3 : wr.cell? ⟨g, i * 7 + 3, none⟩ = some (.pointer ia) := (HB.out.cell (p := ⟨g, i * 7 + 3, none⟩) hgl).trans (hx 3 (by omega))
      have x4 : wr.cell? ⟨g, i * 7 + 4, none⟩ = some (.pointer va) := (HB.out.cell (p := ⟨g, i * 7 + 4, none⟩) hgl).trans (hx 4 (by omega))
      have x5 : wr.cell? ⟨g, i * 7 + 5, none⟩ = some (.slice ta tn tc) := (HB.out.cell (p := ⟨g, i * 7 + 5, none⟩) hgl).trans (hx 5 (by omega))
      have x6 : wr.cell? ⟨g, i * 7 + 6, none⟩ = some (.slice ea en ec) := (HB.out.cell (p := ⟨g, i * 7 + 6, none⟩) hgl).trans (hx 6 (by omega))
      have y0 : wr.cell? ⟨g2, i * 7, none⟩ = some (.int .i64 code) := (HB.out.cell (p := ⟨g2, i * 7 + 0, none⟩) hgl2).trans (hy 0 (by omega))
      have y1 : wr.cell? ⟨g2, i * 7 + 1, none⟩ = some (.int .i64 pos) := (HB.out.cell (p := ⟨g2, i * 7 + 1, none⟩) hgl2).trans (hy 1 (by omega))
      have y2 : wr.cell? ⟨g2, i * 7 + 2, none⟩ = some (.string nm) := (HB.out.cell (p := ⟨g2, i * 7 + 2, none⟩) hgl2).trans (hy 2 (by omega))
      have y3 : wr.cell? ⟨g2, i * 7 + 3, none⟩ = some (.pointer ia2) := (HB.out.cell (p := ⟨g2, i * 7 + 3, none⟩) hgl2).trans (hy 3 (by omega))
      have y4 : wr.cell? ⟨g2, i * 7 + 4, none⟩ = some (.pointer va2) := (HB.out.cell (p := ⟨g2, i * 7 + 4, none⟩) hgl2).trans (hy 4 (by omega))
      have y5 : wr.cell? ⟨g2, i * 7 + 5, none⟩ = some (.slice ta2 tn tc2) := (HB.out.cell (p := ⟨g2, i * 7 + 5, none⟩) hgl2).trans (hy 5 (by omega))
      have y6 : wr.cell? ⟨g2, i * 7 + 6, none⟩ = some (.slice ea2 en ec2) := (HB.out.cell (p := ⟨g2, i * 7 + 6, none⟩) hgl2).trans (hy 6 (by omega))
      have HC := Lib.hid hC
      have hwl1 : g < wr.heap.size := lt_of_cell x0
      have hwl2 : g2 < wr.heap.size := lt_of_cell y0
      clear hx hy hC hgl hgl2
      go_upto_region 6 with fail
      go_cut [6, 7] from 13 to 77 (fun v6 v7 wc => ∃ bx by' : Nat, v6 = .pointer (some ⟨bx, 0, none⟩) ∧ v7 = .pointer (some ⟨by', 0, none⟩) ∧ Hid (wc.heap[bx]? = some (.cells #[.int .i64 code, .int .i64 pos, .string nm, .pointer ia, .pointer va, .slice ta tn tc, .slice ea en ec] 85 (0, 0))) ∧ Hid (wc.heap[by']? = some (.cells #[.int .i64 code, .int .i64 pos, .string nm, .pointer ia2, .pointer va2, .slice ta2 tn tc2, .slice ea2 en ec2] 85 (0, 0))) ∧ Hid (Below wr.heap.size wr wc))
      case first =>
        have HT1 := Lib.hid (two_new wr #[.int .i64 code, .int .i64 pos, .string nm, .pointer ia, .pointer va, .slice ta tn tc, .slice ea en ec] #[.int .i64 code, .int .i64 pos, .string nm, .pointer ia2, .pointer va2, .slice ta2 tn tc2, .slice ea2 en ec2] 85)
        have HT2 := Lib.hid (two_new wr #[.int .i64 code, .int .i64 pos, .string nm, .pointer ia2, .pointer va2, .slice ta2 tn tc2, .slice ea2 en ec2] #[.int .i64 code, .int .i64 pos, .string nm, .pointer ia, .pointer va, .slice ta tn tc, .slice ea en ec] 85)
        go_region
        all_goals
          go_wp2_with fail
          go_meet
          case rel =>
            first
            | exact ⟨wr.heap.size, wr.heap.size + 1, rfl, rfl, HT1.out.1, HT1.out.2.1, HT1.out.2.2⟩
            | exact ⟨wr.heap.size + 1, wr.heap.size, rfl, rfl, HT2.out.2.1, HT2.out.1, HT2.out.2.2⟩
      case rest =>
        obtain ⟨bx, by', rfl, rfl, HX, HY, HBc⟩ := hcut
        rename_i wc
        have HBw := Lib.hid (HB.out.trans (HBc.out.mono HB.out.size))
        have hx := HX.out
        have hy := HY.out
        clear x0 x1 x2 x3 x4 x5 x6 y0 y1 y2 y3 y4 y5 y6 hwl1 hwl2 HX HY HB HBc
        have x0 : wc.cell? ⟨bx, 0, none⟩ = some (.int .i64 code) := cell_blk hx
        have y0 : wc.cell? ⟨by', 0, none⟩ = some (.int .i64 code) := cell_blk hy
        have x1 : wc.cell? ⟨bx, 1, none⟩ = some (.int .i64 pos) := cell_blk hx
        have y1 : wc.cell? ⟨by', 1, none⟩ = some (.int .i64 pos) := cell_blk hy
        have x2 : wc.cell? ⟨bx, 2, none⟩ = some (.string nm) := cell_blk hx
        have y2 : wc.cell? ⟨by', 2, none⟩ = some (.string nm) := cell_blk hy
        have x3 : wc.cell? ⟨bx, 3, none⟩ = some (.pointer ia) := cell_blk hx
        have y3 : wc.cell? ⟨by', 3, none⟩ = some (.pointer ia2) := cell_blk hy
        have hlx := lt_blk hx
        have hly := lt_blk hy
        have HD0 := Lib.hid (HC.out wc HBw.out).1
        go_wp2_with fail
        refine HD0.out.mono ?_
        rintro e wd0 ⟨rfl, hbb⟩
        replace hx := (hbb.block bx (lt_blk hx)).trans hx
        replace hy := (hbb.block by' (lt_blk hy)).trans hy
        replace HBw := Lib.hid (HBw.out.trans (hbb.mono HBw.out.size))
        clear hbb HD0 hlx hly x0 y0 x1 y1 x2 y2 x3 y3
        have x4 : wd0.cell? ⟨bx, 4, none⟩ = some (.pointer va) := cell_blk hx
        have y4 : wd0.cell? ⟨by', 4, none⟩ = some (.pointer va2) := cell_blk hy
        have hlx := lt_blk hx
        have hly := lt_blk hy
        have HD1 := Lib.hid (HC.out wd0 HBw.out).2.1
        go_wp2_with fail
        refine HD1.out.mono ?_
        rintro e wd1 ⟨rfl, hbb⟩
        replace hx := (hbb.block bx (lt_blk hx)).trans hx
        replace hy := (hbb.block by' (lt_blk hy)).trans hy
        replace HBw := Lib.hid (HBw.out.trans (hbb.mono HBw.out.size))
        clear hbb HD1 hlx hly x4 y4
        have x5 : wd1.cell? ⟨bx, 5, none⟩ = some (.slice ta tn tc) := cell_blk hx
        have y5 : wd1.cell? ⟨by', 5, none⟩ = some (.slice ta2 tn tc2) := cell_blk hy
        have hlx := lt_blk hx
        have hly := lt_blk hy
        have HD2 := Lib.hid (HC.out wd1 HBw.out).2.2.1
        go_wp2_with fail
        refine HD2.out.mono ?_
        rintro e wd2 ⟨rfl, hbb⟩
        replace hx := (hbb.block bx (lt_blk hx)).trans hx
        replace hy := (hbb.block by' (lt_blk hy)).trans hy
        replace HBw := Lib.hid (HBw.out.trans (hbb.mono HBw.out.size))
        clear hbb HD2 hlx hly x5 y5
        have x6 : wd2.cell? ⟨bx, 6, none⟩ = some (.slice ea en ec) := cell_blk hx
        have y6 : wd2.cell? ⟨by', 6, none⟩ = some (.slice ea2 en ec2) := cell_blk hy
        have hlx := lt_blk hx
        have hly := lt_blk hy
        have HD3 := Lib.hid (HC.out wd2 HBw.out).2.2.2
        go_wp2_with fail
        refine HD3.out.mono ?_
        rintro e wd3 ⟨rfl, hbb⟩
        replace hx := (hbb.block bx (lt_blk hx)).trans hx
        replace hy := (hbb.block by' (lt_blk hy)).trans hy
        replace HBw := Lib.hid (HBw.out.trans (hbb.mono HBw.out.size))
        clear hbb HD3 hlx hly x6 y6
        go_wp2_with fail
        go_roundg (an - (i + 1))
        case measure => omega
        case rel => exact ⟨i + 1, by omega, rfl, by go_num, HBw⟩
    · have hlt' : ¬ (i : Int) < (an : Int) := by omega
      go_wp2_with fail
      go_ret
      exact ⟨rfl, HB.out⟩
theorem sizeS : ∀ (x : S), SizeOf.sizeOf x.thn < SizeOf.sizeOf x ∧ SizeOf.sizeOf x.els < SizeOf.sizeOf x := by
  intro x
  cases x
  simp only [S.mk.sizeOf_spec]
  omega
theorem sameStmts_all : ∀ (N : Nat) (l : List S) (w : World) (D D2 : Nat → Prop) (v u : Value) (cs us : List Value), SizeOf.sizeOf l ≤ N → RepS w D l cs → OwnS w D v l.length cs → RepS w D2 l us → OwnS w D2 u l.length us →
    Calls Tryz.prog 28 #[v, u] w fun e w' => e = .returned (.bool true) ∧ Below w.heap.size w w' := by
  intro N
  induction N with
  | zero => intro l w D D2 v u cs us hl; cases l <;> simp at hl <;> omega
  | succ N ih =>
    intro l w D D2 v u cs us hl h1 h2 k1 k2
    obtain ⟨hlen, a, c, rfl⟩ := h2.long
    obtain ⟨_, a2, c2, rfl⟩ := k2.long
    refine sameStmts_row hlen fun i hi => ?_
    obtain ⟨tv, ev, ls, vs, tcs, ecs, p1, p2, _, p4, _, p6, p7, p8, p9⟩ := RepS.nth _ _ h1 i hi
    obtain ⟨tv2, ev2, ls2, vs2, tcs2, ecs2, q1, q2, _, q4, _, q6, q7, q8, q9⟩ := RepS.nth _ _ k1 i hi
    obtain ⟨g, rfl, hg, hc⟩ := h2.at' i hi
    obtain ⟨g2, rfl, hg2, hc2⟩ := k2.at' i hi
    obtain ⟨ia, eia⟩ := RepL.headP p2
    obtain ⟨va, eva⟩ := RepL.headP p4
    obtain ⟨ia2, eia2⟩ := RepL.headP q2
    obtain ⟨va2, eva2⟩ := RepL.headP q4
    obtain ⟨_, ta, tc, rfl⟩ := p7.long
    obtain ⟨_, ea, ec, rfl⟩ := p9.long
    obtain ⟨_, ta2, tc2, rfl⟩ := q7.long
    obtain ⟨_, ea2, ec2, rfl⟩ := q9.long
    rw [eia, eva] at p1
    rw [eia2, eva2] at q1
    have hs1 : SizeOf.sizeOf l[i] < SizeOf.sizeOf l := List.sizeOf_lt_of_mem (List.getElem_mem hi)
    obtain ⟨hs2, hs3⟩ := sizeS l[i]
    refine ⟨g, g2, _, _, _, ia, va, ta, ea, ia2, va2, ta2, ea2, _, tc, _, ec, tc2, ec2, rfl, rfl, hg, hg2, fun j hj => (hc j hj).trans (p1 j hj), fun j hj => (hc2 j hj).trans (q1 j hj), fun W hW => ⟨?_, ?_, ?_, ?_⟩⟩
    · have := sameExpr_all _ l[i].index W D D2 ls ls2 (Nat.le_refl _) (p2.step' hW) (q2.step' hW)
      rw [eia, eia2] at this
      exact this.mono fun e w' ⟨h1, m, h2⟩ => ⟨h1, by rw [h2]; exact below_drewN (Below.refl _ W) m⟩
    · have := sameExpr_all _ l[i].value W D D2 vs vs2 (Nat.le_refl _) (p4.step' hW) (q4.step' hW)
      rw [eva, eva2] at this
      exact this.mono fun e w' ⟨h1, m, h2⟩ => ⟨h1, by rw [h2]; exact below_drewN (Below.refl _ W) m⟩
    · exact ih l[i].thn W D D2 _ _ tcs tcs2 (by omega) (p6.step' hW) (p7.step' hW) (q6.step' hW) (q7.step' hW)
    · exact ih l[i].els W D D2 _ _ ecs ecs2 (by omega) (p8.step' hW) (p9.step' hW) (q8.step' hW) (q9.step' hW)
end Go.Proofs.YtkpapioaijmidaaGreatDoor
