import Derived.Test.YtkpapioaijmidaaGreatDoorKEd
import Derived.Test.YtkpapioaijmidaaGreatDoorKWi
/- The law's own: the same modules. -/
namespace Go.Proofs.YtkpapioaijmidaaGreatDoor
open Go.RowKit
open Tp (Tok hd tx at' stp X S G Pr)
theorem RepP.nth {w : World} {D : Nat → Prop} : ∀ (l : List Pr) (cs : List Value), RepP w D l cs → ∀ i (h : i < l.length), ∃ (pv vv bv : Value) (bcs : List Value),
    (∀ j, j < 6 → cs[i * 6 + j]? = [.string (bs l[i].name), .int .i64 (l[i].pos : Int), .bool l[i].seen, pv, vv, bv][j]?) ∧ Row w D 9 1 pv l[i].params.length (strs l[i].params) ∧ Row w D 9 1 vv l[i].vars.length (strs l[i].vars) ∧ RepS w D l[i].body bcs ∧ OwnS w D bv l[i].body.length bcs := by
  intro l
  induction l with
  | nil => intro cs _ i h; simp at h
  | cons x l ih =>
    intro cs h i hi
    obtain ⟨pv, vv, bv, bcs, cs', h1, h2, h3, h4, h5, h6⟩ := h
    subst h1
    cases i with
    | zero =>
      refine ⟨pv, vv, bv, bcs, fun j hj => ?_, h2, h3, h4, h5⟩
      rw [Nat.zero_mul, Nat.zero_add, List.getElem?_append_left (by simpa [pcells] using hj)]
      rfl
    | succ i =>
      obtain ⟨pv', vv', bv', bcs', q1, q2⟩ := ih cs' h6 i (by simpa using hi)
      refine ⟨pv', vv', bv', bcs', fun j hj => ?_, q2⟩
      rw [List.getElem?_append_right (by simp [pcells]; omega)]
      have : (i + 1) * 6 + j - (pcells (bs x.name) (x.pos : Int) x.seen pv vv bv).toList.length = i * 6 + j := by simp [pcells]; omega
      rw [this]
      exact q1 j hj
def PairP (w : World) (aa a2 : Option Addr) (i : Nat) : Prop := ∃ (g g2 : Nat) (nm : ByteArray) (pos : Int) (sn : Bool) (pa va ba pa2 va2 ba2 : Option Addr) (pn pc vn vc bn bc pc2 vc2 bc2 : Nat), aa = some ⟨g, 0, none⟩ ∧ a2 = some ⟨g2, 0, none⟩ ∧ g < w.heap.size ∧ g2 < w.heap.size ∧
  (∀ j, j < 6 → w.cell? ⟨g, i * 6 + j, none⟩ = [.string nm, .int .i64 pos, .bool sn, .slice pa pn pc, .slice va vn vc, .slice ba bn bc][j]?) ∧ (∀ j, j < 6 → w.cell? ⟨g2, i * 6 + j, none⟩ = [.string nm, .int .i64 pos, .bool sn, .slice pa2 pn pc2, .slice va2 vn vc2, .slice ba2 bn bc2][j]?) ∧
  ∀ W, Below w.heap.size w W → Calls Tryz.prog 26 #[.slice pa pn pc, .slice pa2 pn pc2] W (fun e w' => e = .returned (.bool true) ∧ Below W.heap.size W w') ∧ Calls Tryz.prog 26 #[.slice va vn vc, .slice va2 vn vc2] W (fun e w' => e = .returned (.bool true) ∧ Below W.heap.size W w') ∧ Calls Tryz.prog 28 #[.slice ba bn bc, .slice ba2 bn bc2] W (fun e w' => e = .returned (.bool true) ∧ Below W.heap.size W w')
set_option maxRecDepth 100000 in
set_option maxHeartbeats 4000000 in
theorem sameModule_row {w : World} {mn : ByteArray} {ia ga qa sa ia2 ga2 qa2 sa2 : Option Addr} {il ic gl gc ql qc sl sc ic2 gc2 qc2 sc2 : Nat} (hql : ql ≤ 9223372036854775807)
    (hC : ∀ W, Below w.heap.size w W → Calls Tryz.prog 26 #[.slice ia il ic, .slice ia2 il ic2] W (fun e w' => e = .returned (.bool true) ∧ Below W.heap.size W w') ∧ Calls Tryz.prog 27 #[.slice ga gl gc, .slice ga2 gl gc2] W (fun e w' => e = .returned (.bool true) ∧ Below W.heap.size W w') ∧ Calls Tryz.prog 28 #[.slice sa sl sc, .slice sa2 sl sc2] W (fun e w' => e = .returned (.bool true) ∧ Below W.heap.size W w'))
    (hP : ∀ i, i < ql → PairP w qa qa2 i) :
    Calls Tryz.prog 8 #[.agg #[.string mn, .slice ia il ic, .slice ga gl gc, .slice qa ql qc, .slice sa sl sc], .agg #[.string mn, .slice ia2 il ic2, .slice ga2 gl gc2, .slice qa2 ql qc2, .slice sa2 sl sc2]] w fun e w' => e = .returned (.bool true) ∧ Below w.heap.size w w' := by
  have hn' : (ql : Int) ≤ 9223372036854775807 := by omega
  have HP := Lib.hid hP
  have HC := Lib.hid hC
  obtain ⟨mx, hmx⟩ : ∃ mx, mx = w.heap.size := ⟨_, rfl⟩
  obtain ⟨my, hmy⟩ : ∃ my, my = w.heap.size + 1 := ⟨_, rfl⟩
  have hb0 : Below w.heap.size w ((w.alloc (.cells #[.string mn, .slice ia il ic, .slice ga gl gc, .slice qa ql qc, .slice sa sl sc] 31)).alloc (.cells #[.string mn, .slice ia2 il ic2, .slice ga2 gl gc2, .slice qa2 ql qc2, .slice sa2 sl sc2] 31)) := ((Below.refl _ _).alloc (Nat.le_refl _) _).alloc (by simp) _
  have k0 : ((w.alloc (.cells #[.string mn, .slice ia il ic, .slice ga gl gc, .slice qa ql qc, .slice sa sl sc] 31)).alloc (.cells #[.string mn, .slice ia2 il ic2, .slice ga2 gl gc2, .slice qa2 ql qc2, .slice sa2 sl sc2] 31)).heap[w.heap.size]? = some (.cells #[.string mn, .slice ia il ic, .slice ga gl gc, .slice qa ql qc, .slice sa sl sc] 31 (0, 0)) := (Below.heap_alloc _ _ _ (by simp)).trans (new_blk _ _)
  have k1 : ((w.alloc (.cells #[.string mn, .slice ia il ic, .slice ga gl gc, .slice qa ql qc, .slice sa sl sc] 31)).alloc (.cells #[.string mn, .slice ia2 il ic2, .slice ga2 gl gc2, .slice qa2 ql qc2, .slice sa2 sl sc2] 31)).heap[w.heap.size + 1]? = some (.cells #[.string mn, .slice ia2 il ic2, .slice ga2 gl gc2, .slice qa2 ql qc2, .slice sa2 sl sc2] 31 (0, 0)) := by
    have := new_blk (w.alloc (.cells #[.string mn, .slice ia il ic, .slice ga gl gc, .slice qa ql qc, .slice sa sl sc] 31)) (.cells #[.string mn, .slice ia2 il ic2, .slice ga2 gl gc2, .slice qa2 ql qc2, .slice sa2 sl sc2] 31)
    simpa using this
  clear hP hC
  go_enter Tryz.func8, Tryz.ntmps8
  go_upto_region 1 with fail
  generalize (w.alloc (.cells #[.string mn, .slice ia il ic, .slice ga gl gc, .slice qa ql qc, .slice sa sl sc] 31)).alloc (.cells #[.string mn, .slice ia2 il ic2, .slice ga2 gl gc2, .slice qa2 ql qc2, .slice sa2 sl sc2] 31) = w0 at hb0 k0 k1 ⊢
  rw [← hmy] at k1 ⊢
  rw [← hmx] at k0 ⊢
  clear hmx hmy
  have hx := k0
  have hy := k1
  have HB := Lib.hid hb0
  clear k0 k1 hb0
  have x0 : w0.cell? ⟨mx, 0, none⟩ = some (.string mn) := cell_blk hx
  have y0 : w0.cell? ⟨my, 0, none⟩ = some (.string mn) := cell_blk hy
  have x1 : w0.cell? ⟨mx, 1, none⟩ = some (.slice ia il ic) := cell_blk hx
  have y1 : w0.cell? ⟨my, 1, none⟩ = some (.slice ia2 il ic2) := cell_blk hy
  have hlx := lt_blk hx
  have hly := lt_blk hy
  have HD0 := Lib.hid (HC.out w0 HB.out).1
  go_wp2_with fail
  refine HD0.out.mono ?_
  rintro e v0 ⟨rfl, hbb⟩
  replace hx := (hbb.block mx (lt_blk hx)).trans hx
  replace hy := (hbb.block my (lt_blk hy)).trans hy
  replace HB := Lib.hid (HB.out.trans (hbb.mono HB.out.size))
  clear hbb HD0 hlx hly x0 y0 x1 y1
  have x2 : v0.cell? ⟨mx, 2, none⟩ = some (.slice ga gl gc) := cell_blk hx
  have y2 : v0.cell? ⟨my, 2, none⟩ = some (.slice ga2 gl gc2) := cell_blk hy
  have hlx := lt_blk hx
  have hly := lt_blk hy
  have HD1 := Lib.hid (HC.out v0 HB.out).2.1
  go_wp2_with fail
  refine HD1.out.mono ?_
  rintro e v1 ⟨rfl, hbb⟩
  replace hx := (hbb.block mx (lt_blk hx)).trans hx
  replace hy := (hbb.block my (lt_blk hy)).trans hy
  replace HB := Lib.hid (HB.out.trans (hbb.mono HB.out.size))
  clear hbb HD1 hlx hly x2 y2
  have x3 : v1.cell? ⟨mx, 3, none⟩ = some (.slice qa ql qc) := cell_blk hx
  have y3 : v1.cell? ⟨my, 3, none⟩ = some (.slice qa2 ql qc2) := cell_blk hy
  have x4 : v1.cell? ⟨mx, 4, none⟩ = some (.slice sa sl sc) := cell_blk hx
  have y4 : v1.cell? ⟨my, 4, none⟩ = some (.slice sa2 sl sc2) := cell_blk hy
  have hlx := lt_blk hx
  have hly := lt_blk hy
  have HD2 := Lib.hid (HC.out v1 HB.out).2.2
  go_wp2_with fail
  refine HD2.out.mono ?_
  rintro e v2 ⟨rfl, hbb⟩
  replace hx := (hbb.block mx (lt_blk hx)).trans hx
  replace hy := (hbb.block my (lt_blk hy)).trans hy
  replace HB := Lib.hid (HB.out.trans (hbb.mono HB.out.size))
  clear hbb HD2 hlx hly x3 y3 x4 y4
  have hlx := lt_blk hx
  have hly := lt_blk hy
  clear hlx hly
  have HX := Lib.hid hx
  have HY := Lib.hid hy
  clear hx hy
  go_wp2_with fail
  go_loopg [5] ql (fun k vi wr => ∃ i : Nat, i ≤ ql ∧ k = ql - i ∧ vi = .int .i64 (i : Int) ∧ Hid (wr.heap[mx]? = some (.cells #[.string mn, .slice ia il ic, .slice ga gl gc, .slice qa ql qc, .slice sa sl sc] 31 (0, 0))) ∧ Hid (wr.heap[my]? = some (.cells #[.string mn, .slice ia2 il ic2, .slice ga2 gl gc2, .slice qa2 ql qc2, .slice sa2 sl sc2] 31 (0, 0))) ∧ Hid (Below w.heap.size w wr))
  case atStart => exact ⟨0, by omega, by omega, rfl, HX, HY, HB⟩
  case round =>
    clear HX HY HB
    obtain ⟨i, hid, hk, rfl, HX, HY, HB⟩ := hrel
    have m3 : wr.cell? ⟨mx, 3, none⟩ = some (.slice qa ql qc) := cell_blk HX.out
    have n3 : wr.cell? ⟨my, 3, none⟩ = some (.slice qa2 ql qc2) := cell_blk HY.out
    have hlx := lt_blk HX.out
    have hly := lt_blk HY.out
    by_cases hlt : i < ql
    · have hlt' : (i : Int) < (ql : Int) := by omega
      obtain ⟨g, g2, nm, pos, sn, pa, va, ba, pa2, va2, ba2, pn, pc, vn, vc, bn, bc, pc2, vc2, bc2, rfl, rfl, hgl, hgl2, hx, hy, hC⟩ := HP.out i hlt
      have x0 : wr.cell? ⟨g, i * 6, none⟩ = some (.string nm) := (HB.out.cell (p := ⟨g, i * 6 + 0, none⟩) hgl).trans (hx 0 (by omega))
      have x1 : wr.cell? ⟨g, i * 6 + 1, none⟩ = some (.int .i64 pos) := (HB.out.cell (p := ⟨g, i * 6 + 1, none⟩) hgl).trans (hx 1 (by omega))
      have x2 : wr.cell? ⟨g, i * 6 + 2, none⟩ = some (.bool sn) := (HB.out.cell (p := ⟨g, i * 6 + 2, none⟩) hgl).trans (hx 2 (by omega))
      have x3 : wr.cell? ⟨g, i * 6 + 3, none⟩ = some (.slice pa pn pc) := (HB.out.cell (p := ⟨g, i * 6 + 3, none⟩) hgl).trans (hx 3 (by omega))
      have x4 : wr.cell? ⟨g, i * 6 + 4, none⟩ = some (.slice va vn vc) := (HB.out.cell (p := ⟨g, i * 6 + 4, none⟩) hgl).trans (hx 4 (by omega))
      have x5 : wr.cell? ⟨g, i * 6 + 5, none⟩ = some (.slice ba bn bc) := (HB.out.cell (p := ⟨g, i * 6 + 5, none⟩) hgl).trans (hx 5 (by omega))
      have y0 : wr.cell? ⟨g2, i * 6, none⟩ = some (.string nm) := (HB.out.cell (p := ⟨g2, i * 6 + 0, none⟩) hgl2).trans (hy 0 (by omega))
      have y1 : wr.cell? ⟨g2, i * 6 + 1, none⟩ = some (.int .i64 pos) := (HB.out.cell (p := ⟨g2, i * 6 + 1, none⟩) hgl2).trans (hy 1 (by omega))
      have y2 : wr.cell? ⟨g2, i * 6 + 2, none⟩ = some (.bool sn) := (HB.out.cell (p := ⟨g2, i * 6 + 2, none⟩) hgl2).trans (hy 2 (by omega))
      have y3 : wr.cell? ⟨g2, i * 6 + 3, none⟩ = some (.slice pa2 pn pc2) := (HB.out.cell (p := ⟨g2, i * 6 + 3, none⟩) hgl2).trans (hy 3 (by omega))
      have y4 : wr.cell? ⟨g2, i * 6 + 4, none⟩ = some (.slice va2 vn vc2) := (HB.out.cell (p := ⟨g2, i * 6 + 4, none⟩) hgl2).trans (hy 4 (by omega))
      have y5 : wr.cell? ⟨g2, i * 6 + 5, none⟩ = some (.slice ba2 bn bc2) := (HB.out.cell (p := ⟨g2, i * 6 + 5, none⟩) hgl2).trans (hy 5 (by omega))
      have HCP := Lib.hid hC
      have hwl1 : g < wr.heap.size := lt_of_cell x0
      have hwl2 : g2 < wr.heap.size := lt_of_cell y0
      clear hx hy hC hgl hgl2
      go_upto_region 6 with fail
      go_cut [6, 7] from 46 to 105 (fun v6 v7 wc => ∃ bx by' : Nat, v6 = .pointer (some ⟨bx, 0, none⟩) ∧ v7 = .pointer (some ⟨by', 0, none⟩) ∧ Hid (wc.heap[bx]? = some (.cells #[.string nm, .int .i64 pos, .bool sn, .slice pa pn pc, .slice va vn vc, .slice ba bn bc] 62 (0, 0))) ∧ Hid (wc.heap[by']? = some (.cells #[.string nm, .int .i64 pos, .bool sn, .slice pa2 pn pc2, .slice va2 vn vc2, .slice ba2 bn bc2] 62 (0, 0))) ∧ Hid (Below wr.heap.size wr wc))
      case first =>
        have HT1 := Lib.hid (two_new wr #[.string nm, .int .i64 pos, .bool sn, .slice pa pn pc, .slice va vn vc, .slice ba bn bc] #[.string nm, .int .i64 pos, .bool sn, .slice pa2 pn pc2, .slice va2 vn vc2, .slice ba2 bn bc2] 62)
        have HT2 := Lib.hid (two_new wr #[.string nm, .int .i64 pos, .bool sn, .slice pa2 pn pc2, .slice va2 vn vc2, .slice ba2 bn bc2] #[.string nm, .int .i64 pos, .bool sn, .slice pa pn pc, .slice va vn vc, .slice ba bn bc] 62)
        go_region
        all_goals
          go_wp2_with fail
          go_meet
          case rel =>
            first
            | exact ⟨wr.heap.size, wr.heap.size + 1, rfl, rfl, HT1.out.1, HT1.out.2.1, HT1.out.2.2⟩
            | exact ⟨wr.heap.size + 1, wr.heap.size, rfl, rfl, HT2.out.2.1, HT2.out.1, HT2.out.2.2⟩
      case rest =>
        obtain ⟨bx, by', rfl, rfl, HX2, HY2, HBc⟩ := hcut
        rename_i wc
        have HBw := Lib.hid (HB.out.trans (HBc.out.mono HB.out.size))
        have hx := HX2.out
        have hy := HY2.out
        have HX3 := Lib.hid ((HBc.out.block mx (lt_blk HX.out)).trans HX.out)
        have HY3 := Lib.hid ((HBc.out.block my (lt_blk HY.out)).trans HY.out)
        clear x0 x1 x2 x3 x4 x5 y0 y1 y2 y3 y4 y5 hwl1 hwl2 HX2 HY2 HB HBc HX HY m3 n3 hlx hly
        have x0 : wc.cell? ⟨bx, 0, none⟩ = some (.string nm) := cell_blk hx
        have y0 : wc.cell? ⟨by', 0, none⟩ = some (.string nm) := cell_blk hy
        have x1 : wc.cell? ⟨bx, 1, none⟩ = some (.int .i64 pos) := cell_blk hx
        have y1 : wc.cell? ⟨by', 1, none⟩ = some (.int .i64 pos) := cell_blk hy
        have x2 : wc.cell? ⟨bx, 2, none⟩ = some (.bool sn) := cell_blk hx
        have y2 : wc.cell? ⟨by', 2, none⟩ = some (.bool sn) := cell_blk hy
        have x3 : wc.cell? ⟨bx, 3, none⟩ = some (.slice pa pn pc) := cell_blk hx
        have y3 : wc.cell? ⟨by', 3, none⟩ = some (.slice pa2 pn pc2) := cell_blk hy
        have hlx := lt_blk hx
        have hly := lt_blk hy
        have HD0 := Lib.hid (HCP.out wc HBw.out).1
        go_wp2_with fail
        refine HD0.out.mono ?_
        rintro e wd0 ⟨rfl, hbb⟩
        replace hx := (hbb.block bx (lt_blk hx)).trans hx
        replace hy := (hbb.block by' (lt_blk hy)).trans hy
        replace HBw := Lib.hid (HBw.out.trans (hbb.mono HBw.out.size))
        replace HX3 := Lib.hid ((hbb.block mx (lt_blk HX3.out)).trans HX3.out)
        replace HY3 := Lib.hid ((hbb.block my (lt_blk HY3.out)).trans HY3.out)
        clear hbb HD0 hlx hly x0 y0 x1 y1 x2 y2 x3 y3
        have x4 : wd0.cell? ⟨bx, 4, none⟩ = some (.slice va vn vc) := cell_blk hx
        have y4 : wd0.cell? ⟨by', 4, none⟩ = some (.slice va2 vn vc2) := cell_blk hy
        have hlx := lt_blk hx
        have hly := lt_blk hy
        have HD1 := Lib.hid (HCP.out wd0 HBw.out).2.1
        go_wp2_with fail
        refine HD1.out.mono ?_
        rintro e wd1 ⟨rfl, hbb⟩
        replace hx := (hbb.block bx (lt_blk hx)).trans hx
        replace hy := (hbb.block by' (lt_blk hy)).trans hy
        replace HBw := Lib.hid (HBw.out.trans (hbb.mono HBw.out.size))
        replace HX3 := Lib.hid ((hbb.block mx (lt_blk HX3.out)).trans HX3.out)
        replace HY3 := Lib.hid ((hbb.block my (lt_blk HY3.out)).trans HY3.out)
        clear hbb HD1 hlx hly x4 y4
        have x5 : wd1.cell? ⟨bx, 5, none⟩ = some (.slice ba bn bc) := cell_blk hx
        have y5 : wd1.cell? ⟨by', 5, none⟩ = some (.slice ba2 bn bc2) := cell_blk hy
        have hlx := lt_blk hx
        have hly := lt_blk hy
        have HD2 := Lib.hid (HCP.out wd1 HBw.out).2.2
        go_wp2_with fail
        refine HD2.out.mono ?_
        rintro e wd2 ⟨rfl, hbb⟩
        replace hx := (hbb.block bx (lt_blk hx)).trans hx
        replace hy := (hbb.block by' (lt_blk hy)).trans hy
        replace HBw := Lib.hid (HBw.out.trans (hbb.mono HBw.out.size))
        replace HX3 := Lib.hid ((hbb.block mx (lt_blk HX3.out)).trans HX3.out)
        replace HY3 := Lib.hid ((hbb.block my (lt_blk HY3.out)).trans HY3.out)
        clear hbb HD2 hlx hly x5 y5
        have hlx := lt_blk hx
        have hly := lt_blk hy
        go_wp2_with fail
        go_roundg (ql - (i + 1))
        case measure => omega
        case rel => exact ⟨i + 1, by omega, rfl, by go_num, HX3, HY3, HBw⟩
    · have hlt' : ¬ (i : Int) < (ql : Int) := by omega
      go_wp2_with fail
      go_ret
      exact ⟨rfl, HB.out⟩
theorem drewN_post {f : Nat} {args : Array Value} {W : World} (h : Calls Tryz.prog f args W fun e w' => e = .returned (.bool true) ∧ ∃ m, w' = W.drewN m) : Calls Tryz.prog f args W fun e w' => e = .returned (.bool true) ∧ Below W.heap.size W w' :=
  h.mono fun e w' ⟨h1, m, h2⟩ => ⟨h1, by rw [h2]; exact below_drewN (Below.refl _ W) m⟩
theorem sameModule_eq {w : World} {B1 B2 : Nat} {m : Tp.M} {u v : Value} (h : VM B1 m u w) (k : VM B2 m v w) : Calls Tryz.prog 8 #[u, v] w fun e w' => e = .returned (.bool true) ∧ Below w.heap.size w w' := by
  obtain ⟨ia, ga, pa, ba, ic, gc, pc, bc, pcs, bcs, rfl, h1, h2, h3, h4, h5, h6⟩ := h
  obtain ⟨ia2, ga2, pa2, ba2, ic2, gc2, pc2, bc2, pcs2, bcs2, rfl, k1, k2, k3, k4, k5, k6⟩ := k
  refine sameModule_row h4.long (fun W hW => ⟨?_, ?_, ?_⟩) (fun i hi => ?_)
  · exact drewN_post (sameTexts_eq ((h1.step hW).mono (D' := fun _ => True) fun b _ _ => ⟨rfl, trivial⟩) ((k1.step hW).mono (D' := fun _ => True) fun b _ _ => ⟨rfl, trivial⟩))
  · exact drewN_post (sameVars_eq ((h2.step hW).mono (D' := fun _ => True) fun b _ _ => ⟨rfl, trivial⟩) ((k2.step hW).mono (D' := fun _ => True) fun b _ _ => ⟨rfl, trivial⟩))
  · exact sameStmts_all _ m.body W _ _ _ _ bcs bcs2 (Nat.le_refl _) (h5.step' hW) (h6.step' hW) (k5.step' hW) (k6.step' hW)
  · obtain ⟨pv, vv, bv, cs, p1, p2, p3, p4, p5⟩ := RepP.nth _ _ h3 i hi
    obtain ⟨pv2, vv2, bv2, cs2, q1, q2, q3, q4, q5⟩ := RepP.nth _ _ k3 i hi
    obtain ⟨g, rfl, hg, _, hc⟩ := h4.at' i hi
    obtain ⟨g2, rfl, hg2, _, hc2⟩ := k4.at' i hi
    obtain ⟨a1, c1, rfl⟩ := p2.shape
    obtain ⟨a2, c2, rfl⟩ := p3.shape
    obtain ⟨a3, c3, rfl⟩ := p5.shape
    obtain ⟨b1, d1, rfl⟩ := q2.shape
    obtain ⟨b2, d2, rfl⟩ := q3.shape
    obtain ⟨b3, d3, rfl⟩ := q5.shape
    exact ⟨g, g2, _, _, _, a1, a2, a3, b1, b2, b3, _, c1, _, c2, _, c3, d1, d2, d3, rfl, rfl, hg, hg2, fun j hj => (hc j hj).trans (p1 j hj), fun j hj => (hc2 j hj).trans (q1 j hj), fun W hW =>
      ⟨drewN_post (sameTexts_eq ((p2.step hW).mono (D' := fun _ => True) fun b _ _ => ⟨rfl, trivial⟩) ((q2.step hW).mono (D' := fun _ => True) fun b _ _ => ⟨rfl, trivial⟩)), drewN_post (sameTexts_eq ((p3.step hW).mono (D' := fun _ => True) fun b _ _ => ⟨rfl, trivial⟩) ((q3.step hW).mono (D' := fun _ => True) fun b _ _ => ⟨rfl, trivial⟩)),
      sameStmts_all _ _ W _ _ _ _ cs cs2 (Nat.le_refl _) (p4.step' hW) (p5.step' hW) (q4.step' hW) (q5.step' hW)⟩⟩
end Go.Proofs.YtkpapioaijmidaaGreatDoor
