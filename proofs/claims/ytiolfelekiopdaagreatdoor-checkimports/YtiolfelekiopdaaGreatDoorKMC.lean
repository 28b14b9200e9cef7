import Derived.Test.YtiolfelekiopdaaGreatDoorKMB
import Derived.Deep.RegionHeld3
/- check: a procedure's own names: locals. -/
namespace Go.Proofs.YtiolfelekiopdaaGreatDoor
open Go.RowKit Go.Maps
open Tp (Bs Th)

theorem calls_dies {P : Program} {f : FuncId} {args : Array Value} {w : World} {R T : Ending → World → Prop} (h : Calls P f args w T) (hT : ∀ e w', T e w' → R e w') (_ : Hid False → R (.returned (.tuple #[])) w) : Calls P f args w R := h.mono hT
def AskTN (w : World) (o pn : Nat) (pa : Option Addr) (pl : Nat) (l : List Th) : Prop :=
  ∀ i, i < pn → ∃ (g : Nat) (x0 : Bs), pa = some ⟨g, 0, none⟩ ∧ g < w.heap.size ∧ w.cell? ⟨g, i, none⟩ = some (.string (bs x0)) ∧ x0.length ≤ 1000000 ∧ l[o + i]? = some (x0, pl, 0, -1)
theorem cell_box6 {w : World} {b : Nat} {v0 v1 v2 v3 v4 v5 : Value} {t : TypeId} (h : w.heap[b]? = some (.cells #[v0, v1, v2, v3, v4, v5] t (0, 0))) : w.cell? ⟨b, 0, none⟩ = some v0 ∧ w.cell? ⟨b, 1, none⟩ = some v1 ∧ w.cell? ⟨b, 2, none⟩ = some v2 ∧ w.cell? ⟨b, 3, none⟩ = some v3 ∧ w.cell? ⟨b, 4, none⟩ = some v4 ∧ w.cell? ⟨b, 5, none⟩ = some v5 :=
  ⟨(cell_blk h).trans rfl, (cell_blk h).trans rfl, (cell_blk h).trans rfl, (cell_blk h).trans rfl, (cell_blk h).trans rfl, (cell_blk h).trans rfl⟩
set_option maxRecDepth 100000 in
set_option maxHeartbeats 2000000 in
theorem locals_walk {w : World} {nm : Bs} {pl : Nat} {sn : Bool} {pn vn bn pc vc bc : Nat} {pa va ba : Option Addr} {l : List Th} (hG : AskTN w 0 pn pa pl l) (hP : AskTN w pn vn va pl l) (hl : l.length = pn + vn) (hgn : pn ≤ 1000) (hpn : vn ≤ 1000) :
    Calls Tryz.prog 35 #[.agg #[.string (bs nm), .int .i64 (pl : Int), .bool sn, .slice pa pn pc, .slice va vn vc, .slice ba bn bc]] w (MapP w l) := by
  obtain ⟨wm, hwm⟩ : ∃ wm, wm = w.alloc (.cells #[.string (bs nm), .int .i64 (pl : Int), .bool sn, .slice pa pn pc, .slice va vn vc, .slice ba bn bc] 39) := ⟨_, rfl⟩
  have hblk0 : wm.heap[w.heap.size]? = some (.cells #[.string (bs nm), .int .i64 (pl : Int), .bool sn, .slice pa pn pc, .slice va vn vc, .slice ba bn bc] 39 (0, 0)) := by rw [hwm]; exact new_blk _ _
  have hszm : wm.heap.size = w.heap.size + 1 := by rw [hwm]; simp
  have hbe : Below w.heap.size w (wm.alloc (.map #[] 0)) := by rw [hwm]; exact ((Below.refl _ _).alloc (Nat.le_refl _) _).alloc (by simp) _
  have htm := TM.zero wm l
  have hblk : (wm.alloc (.map #[] 0)).heap[w.heap.size]? = some (.cells #[.string (bs nm), .int .i64 (pl : Int), .bool sn, .slice pa pn pc, .slice va vn vc, .slice ba bn bc] 39 (0, 0)) := (Below.heap_alloc _ _ _ (by omega)).trans hblk0
  rw [hszm] at htm
  obtain ⟨k0, k1, k2, k3, k4, k5⟩ := cell_box6 hblk
  have hmm := @run_makeMap Tryz.prog
  have HG := Lib.hid hG
  have HP := Lib.hid hP
  have HL := Lib.hid hl
  have HK := Lib.hid hblk
  have HT := Lib.hid htm
  have HBE := Lib.hid hbe
  have HSM := Lib.hid hszm
  have hgn' : (pn : Int) ≤ 1000 := by omega
  have hpn' : (vn : Int) ≤ 1000 := by omega
  clear hG hP hl hblk htm hbe k0 k1 k2 k4 k5 hblk0
  go_enter Tryz.func35, Tryz.ntmps35
  go_wp2_with fail
  rw [← hwm]
  have hsz0 : w.heap.size + 2 ≤ (wm.alloc (.map #[] 0)).heap.size := by simp; omega
  generalize wm.alloc (.map #[] 0) = w0 at *
  clear hwm HSM hszm wm hmm
  go_loopg [12] pn (fun k vi wr => ∃ i : Nat, i ≤ pn ∧ k = pn - i ∧ vi = .int .i64 (i : Int) ∧ Hid (TM wr (w.heap.size + 1) l i) ∧ Hid (Ext (w.heap.size + 1) w0 wr))
  case atStart => exact ⟨0, by omega, by omega, rfl, HT, Ext.refl _ _⟩
  case round =>
    obtain ⟨i, hid, hk, rfl, HTM, HE⟩ := hrel
    have hsz := HE.out.size
    by_cases hlt : i < pn
    · have hlt' : (i : Int) < (pn : Int) := by omega
      obtain ⟨g, x0, hga, hgB, c0, hxl, hx⟩ := HG.out i hlt
      rw [Nat.zero_add] at hx
      subst hga
      have kc0 : wr.cell? ⟨g, i, none⟩ = some (.string (bs x0)) := HE.out.cell ((HBE.out.cell (p := ⟨g, i, none⟩) hgB).trans c0) (by simp; omega)
      have hlgr : g < wr.heap.size := by omega
      have HX := Lib.hid hx
      have HC1 : Hid (wr.drew.cell? ⟨w.heap.size, 1, none⟩ = some (.int .i64 (pl : Int))) := HE.out.cell (cell_box6 HK.out).2.1 (by simp)
      clear c0 hx
      by_cases hm : x0 ∈ (l.take i).map (·.1)
      · have HM := Lib.hid hm
        clear hm
        go_wp2_with fail
        go_region_held (fun w' => w'.cell? ⟨w.heap.size, 1, none⟩ = some (.int .i64 (pl : Int))) (with_reducible (first | exact hF.out.elim | exact HC2.out | exact HC1.out)) (first | (go_at_call 67; refine (number_any _).mono ?_; rintro e w2 ⟨rfl, hb2⟩; have HB2 : Hid (Below wr.heap.size wr w2) := ((Below.refl wr.heap.size wr).drew).trans hb2; have HC2 : Hid (w2.cell? ⟨w.heap.size, 1, none⟩ = some (.int .i64 (pl : Int))) := (hb2.cell (p := ⟨w.heap.size, 1, none⟩) (lt_of_cell HC1.out)).trans HC1.out; clear hb2) | (go_at_call 62; refine calls_dies (add_dup (x2 := 0) (x3 := -1) (HTM.out.on (HB2.out.block _ (by omega))) HM.out hxl) ?hT ?_; (case hT => (rintro e w3 ⟨ht, hb3⟩; have HD := Lib.hid (HTM.out.dup HX.out HM.out); have HB3 : Hid (Below w.heap.size w w3) := ((HBE.out.trans (ext_below HE.out (by omega) (by omega))).trans (HB2.out.mono (by omega))).trans (hb3.mono (by have := HB2.out.size; omega)); have HT3 := Lib.hid (ht.mono (B' := w.heap.size) (by have := HB2.out.size; omega)); obtain ⟨ab, q1, rfl, q2, q3⟩ := ht.out; refine ⟨rfl, HB3.out, ?_⟩; rw [HD.out]; exact HT3.out)); intro hF))
        exact hF.out.elim
      · have HM := Lib.hid hm
        clear hm
        go_wp2_with fail
        go_region_held3 (fun w' => w'.cell? ⟨w.heap.size, 1, none⟩ = some (.int .i64 (pl : Int))) (with_reducible (first | exact HC3.out | exact HC2.out | exact HC1.out)) (first | (go_at_call 67; refine (number_any _).mono ?_; rintro e w2 ⟨rfl, hb2⟩; have HB2 : Hid (Below wr.heap.size wr w2) := ((Below.refl wr.heap.size wr).drew).trans hb2; have HC2 : Hid (w2.cell? ⟨w.heap.size, 1, none⟩ = some (.int .i64 (pl : Int))) := (hb2.cell (p := ⟨w.heap.size, 1, none⟩) (lt_of_cell HC1.out)).trans HC1.out; clear hb2) | (go_at_call 62; refine (add_new (x2 := 0) (x3 := -1) (HTM.out.on (HB2.out.block _ (by omega))) HX.out (by omega) HM.out hxl).mono ?_; rintro e w3 ⟨rfl, ht, hb3⟩; have HT3 := Lib.hid ht; have HE3 : Hid (Ext (w.heap.size + 1) w0 w3) := (HE.out.trans (Ext.below HB2.out)).trans hb3; have HC3 : Hid (w3.cell? ⟨w.heap.size, 1, none⟩ = some (.int .i64 (pl : Int))) := hb3.cell HC2.out (by simp); clear ht hb3))
        go_wp2_with fail
        go_roundg (pn - (i + 1))
        case measure => omega
        case rel => exact ⟨i + 1, by omega, rfl, by go_num, HT3, HE3⟩
    · have hlt' : ¬ (i : Int) < (pn : Int) := by omega
      have hei : i = pn := by omega
      subst hei
      have k4 : wr.cell? ⟨w.heap.size, 4, none⟩ = some (.slice va vn vc) := HE.out.cell (cell_box6 HK.out).2.2.2.2.1 (by simp)
      have hltb : w.heap.size < wr.heap.size := by omega
      have HTM1 : Hid (TM wr (w.heap.size + 1) l (i + 0)) := HTM
      have HE1 := HE
      clear HTM HE HG k3 hsz HT
      go_wp2_with fail
      go_loopg [26] vn (fun k vi wr => ∃ j : Nat, j ≤ vn ∧ k = vn - j ∧ vi = .int .i64 (j : Int) ∧ Hid (TM wr (w.heap.size + 1) l (i + j)) ∧ Hid (Ext (w.heap.size + 1) w0 wr))
      case atStart => exact ⟨0, by omega, by omega, rfl, HTM1, HE1⟩
      case round =>
        obtain ⟨j, hjd, hk2, rfl, HTM, HE⟩ := hrel
        have hsz := HE.out.size
        clear HTM1 HE1 k4 hltb
        by_cases hlt2 : j < vn
        · have hlt2' : (j : Int) < (vn : Int) := by omega
          obtain ⟨g, x0, hga, hgB, c0, hxl, hx⟩ := HP.out j hlt2
          subst hga
          have kc0 : wr.cell? ⟨g, j, none⟩ = some (.string (bs x0)) := HE.out.cell ((HBE.out.cell (p := ⟨g, j, none⟩) hgB).trans c0) (by simp; omega)
          have hlgr : g < wr.heap.size := by omega
          have HX := Lib.hid hx
          have HC1 : Hid (wr.drew.cell? ⟨w.heap.size, 1, none⟩ = some (.int .i64 (pl : Int))) := HE.out.cell (cell_box6 HK.out).2.1 (by simp)
          clear c0 hx
          by_cases hm : x0 ∈ (l.take (i + j)).map (·.1)
          · have HM := Lib.hid hm
            clear hm
            go_wp2_with fail
            go_region_held (fun w' => w'.cell? ⟨w.heap.size, 1, none⟩ = some (.int .i64 (pl : Int))) (with_reducible (first | exact hF.out.elim | exact HC2.out | exact HC1.out)) (first | (go_at_call 67; refine (number_any _).mono ?_; rintro e w2 ⟨rfl, hb2⟩; have HB2 : Hid (Below wr.heap.size wr w2) := ((Below.refl wr.heap.size wr).drew).trans hb2; have HC2 : Hid (w2.cell? ⟨w.heap.size, 1, none⟩ = some (.int .i64 (pl : Int))) := (hb2.cell (p := ⟨w.heap.size, 1, none⟩) (lt_of_cell HC1.out)).trans HC1.out; clear hb2) | (go_at_call 62; refine calls_dies (add_dup (x2 := 0) (x3 := -1) (HTM.out.on (HB2.out.block _ (by omega))) HM.out hxl) ?hT ?_; (case hT => (rintro e w3 ⟨ht, hb3⟩; have HD := Lib.hid (HTM.out.dup HX.out HM.out); have HB3 : Hid (Below w.heap.size w w3) := ((HBE.out.trans (ext_below HE.out (by omega) (by omega))).trans (HB2.out.mono (by omega))).trans (hb3.mono (by have := HB2.out.size; omega)); have HT3 := Lib.hid (ht.mono (B' := w.heap.size) (by have := HB2.out.size; omega)); obtain ⟨ab, q1, rfl, q2, q3⟩ := ht.out; refine ⟨rfl, HB3.out, ?_⟩; rw [HD.out]; exact HT3.out)); intro hF))
            exact hF.out.elim
          · have HM := Lib.hid hm
            clear hm
            go_wp2_with fail
            go_region_held3 (fun w' => w'.cell? ⟨w.heap.size, 1, none⟩ = some (.int .i64 (pl : Int))) (with_reducible (first | exact HC3.out | exact HC2.out | exact HC1.out)) (first | (go_at_call 67; refine (number_any _).mono ?_; rintro e w2 ⟨rfl, hb2⟩; have HB2 : Hid (Below wr.heap.size wr w2) := ((Below.refl wr.heap.size wr).drew).trans hb2; have HC2 : Hid (w2.cell? ⟨w.heap.size, 1, none⟩ = some (.int .i64 (pl : Int))) := (hb2.cell (p := ⟨w.heap.size, 1, none⟩) (lt_of_cell HC1.out)).trans HC1.out; clear hb2) | (go_at_call 62; refine (add_new (x2 := 0) (x3 := -1) (HTM.out.on (HB2.out.block _ (by omega))) HX.out (by omega) HM.out hxl).mono ?_; rintro e w3 ⟨rfl, ht, hb3⟩; have HT3 : Hid (TM w3 (w.heap.size + 1) l (i + (j + 1))) := ht; have HE3 : Hid (Ext (w.heap.size + 1) w0 w3) := (HE.out.trans (Ext.below HB2.out)).trans hb3; have HC3 : Hid (w3.cell? ⟨w.heap.size, 1, none⟩ = some (.int .i64 (pl : Int))) := hb3.cell HC2.out (by simp); clear ht hb3))
            go_wp2_with fail
            go_roundg (vn - (j + 1))
            case measure => omega
            case rel => exact ⟨j + 1, by omega, rfl, by go_num, HT3, HE3⟩
        · have hlt2' : ¬ (j : Int) < (vn : Int) := by omega
          have hej : j = vn := by omega
          subst hej
          obtain ⟨f1, f2⟩ := HTM.out.fin (by have := HL.out; omega)
          have HF1 := Lib.hid f1
          have HF2 := Lib.hid f2
          have HB3 : Hid (Below w.heap.size w wr) := HBE.out.trans (ext_below HE.out (by omega) (by omega))
          clear f1 f2 HTM HE
          go_wp2_with fail
          go_ret
          refine ⟨HB3.out, ?_⟩
          rw [HF1.out]
          exact ⟨_, _, rfl, by omega, by omega, HF2.out⟩
end Go.Proofs.YtiolfelekiopdaaGreatDoor
