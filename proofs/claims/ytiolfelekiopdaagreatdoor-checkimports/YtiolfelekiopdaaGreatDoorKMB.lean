import Derived.Test.YtiolfelekiopdaaGreatDoorKMA
/- check: a module's own names: globals. -/
namespace Go.Proofs.YtiolfelekiopdaaGreatDoor
open Go.RowKit Go.Maps
open Tp (Bs Th)

/- the first i of these lie in the map gb, none of them twice -/
structure TM (w : World) (gb : Nat) (l : List Th) (i : Nat) : Prop where
  mp : MapV w gb i (fun k => (Tp.lkT (l.take i) k).map thV)
  tw : Tp.twP l 0 = Tp.twP l i
theorem TM.on {w w' : World} {gb i : Nat} {l : List Th} (h : TM w gb l i) (k : w'.heap[gb]? = w.heap[gb]?) : TM w' gb l i := ⟨h.mp.on k, h.tw⟩
theorem TM.zero (w : World) (l : List Th) : TM (w.alloc (.map #[] 0)) w.heap.size l 0 := by
  refine ⟨?_, rfl⟩
  have := MapV.made w
  have e : (fun k => (Tp.lkT (l.take 0) k).map thV) = fun _ => none := by funext k; simp [Tp.lkT]
  rw [e]
  exact this
theorem TM.dup {w : World} {gb i : Nat} {l : List Th} {x : Th} (h : TM w gb l i) (hx : l[i]? = some x) (hm : x.1 ∈ (l.take i).map (·.1)) : Tp.twP l 0 = some (9, x.2.1) := by
  rw [h.tw, Tp.twP]
  obtain ⟨hi, e⟩ := List.getElem?_eq_some_iff.1 hx
  rw [dif_pos hi, e, if_pos hm]
theorem TM.fin {w : World} {gb i : Nat} {l : List Th} (h : TM w gb l i) (hi : l.length ≤ i) : Tp.twP l 0 = none ∧ MapV w gb i (fun k => (Tp.lkT l k).map thV) := by
  refine ⟨by rw [h.tw, Tp.twP, dif_neg (by omega)], ?_⟩
  have := h.mp
  rw [List.take_of_length_le hi] at this
  exact this
theorem add_dup {w : World} {gb i : Nat} {l : List Th} {x0 : Bs} {x1 x2 : Nat} {x3 : Int} (h : TM w gb l i) (hm : x0 ∈ (l.take i).map (·.1)) (hl : x0.length ≤ 1000000) :
    Calls Tryz.prog 62 #[.map (some gb), .string (bs x0), .agg #[.int .i64 (x2 : Int), .int .i64 x3], .int .i64 (x1 : Int)] w fun e w' => Thrown w.heap.size (9, x1) e w' ∧ Below w.heap.size w w' := by
  have hs := Tp.lkT_some.2 hm
  obtain ⟨u, hu⟩ := Option.isSome_iff_exists.1 hs
  exact add_no h.mp x0 hl x2 x3 x1 (u := thV u) (by simp [hu]) ⟨_, _, rfl⟩
theorem add_new {w : World} {gb i : Nat} {l : List Th} {x0 : Bs} {x1 x2 : Nat} {x3 : Int} (h : TM w gb l i) (hx : l[i]? = some (x0, x1, x2, x3)) (hi : i < 1000000) (hm : ¬ x0 ∈ (l.take i).map (·.1)) (hl : x0.length ≤ 1000000) :
    Calls Tryz.prog 62 #[.map (some gb), .string (bs x0), .agg #[.int .i64 (x2 : Int), .int .i64 x3], .int .i64 (x1 : Int)] w fun e w' => e = .returned (.tuple #[]) ∧ TM w' gb l (i + 1) ∧ Ext gb w w' := by
  have hn : Tp.lkT (l.take i) x0 = none := by
    cases hq : Tp.lkT (l.take i) x0 with
    | none => rfl
    | some u => exact absurd (Tp.lkT_some.1 (by rw [hq]; rfl)) hm
  refine (add_ok h.mp hi x0 hl x2 x3 x1 (by simp [hn])).mono ?_
  rintro e w' ⟨h1, h2, h3⟩
  obtain ⟨hil, e1⟩ := List.getElem?_eq_some_iff.1 hx
  refine ⟨h1, ⟨?_, ?_⟩, h3⟩
  · have e2 : (fun k => (Tp.lkT (l.take (i + 1)) k).map thV) = updV (fun k => (Tp.lkT (l.take i) k).map thV) x0 (thV (x2, x3)) := by
      funext k
      rw [List.take_succ_eq_append_getElem hil, e1, Tp.lkT_snoc hm]
      unfold updV
      by_cases hk : k = x0
      · rw [if_pos hk, if_pos hk]; rfl
      · rw [if_neg hk, if_neg hk]
    rw [e2]
    exact h2
  · rw [h.tw, Tp.twP, dif_pos hil, e1, if_neg hm]
/- what a call leaves that lays names into a new map -/
def MapP (w : World) (l : List Th) (e : Ending) (w' : World) : Prop := Below w.heap.size w w' ∧ match Tp.twP l 0 with
  | none => ∃ gb n, e = .returned (.map (some gb)) ∧ w.heap.size ≤ gb ∧ n ≤ 1000000 ∧ MapV w' gb n (fun k => (Tp.lkT l k).map thV)
  | some er => Thrown w.heap.size er e w'
def AskTG (w : World) (gn : Nat) (ga : Option Addr) (l : List Th) : Prop :=
  ∀ i, i < gn → ∃ (g : Nat) (x0 : Bs) (x1 x2 : Nat) (x3 : Bool), ga = some ⟨g, 0, none⟩ ∧ g < w.heap.size ∧ w.cell? ⟨g, i * 4, none⟩ = some (.string (bs x0)) ∧ w.cell? ⟨g, i * 4 + 1, none⟩ = some (.int .i64 (x1 : Int)) ∧ w.cell? ⟨g, i * 4 + 2, none⟩ = some (.int .i64 (x2 : Int)) ∧ w.cell? ⟨g, i * 4 + 3, none⟩ = some (.bool x3) ∧ x0.length ≤ 1000000 ∧ l[i]? = some (x0, x1, x2, -1)
def AskTP (w : World) (gn pn : Nat) (pa : Option Addr) (l : List Th) : Prop :=
  ∀ i, i < pn → ∃ (g : Nat) (x0 : Bs) (x1 : Nat) (x2 : Bool) (y3 y4 y5 : Option Addr) (n3 n4 n5 c3 c4 c5 : Nat), pa = some ⟨g, 0, none⟩ ∧ g < w.heap.size ∧ w.cell? ⟨g, i * 6, none⟩ = some (.string (bs x0)) ∧ w.cell? ⟨g, i * 6 + 1, none⟩ = some (.int .i64 (x1 : Int)) ∧ w.cell? ⟨g, i * 6 + 2, none⟩ = some (.bool x2) ∧ w.cell? ⟨g, i * 6 + 3, none⟩ = some (.slice y3 n3 c3) ∧ w.cell? ⟨g, i * 6 + 4, none⟩ = some (.slice y4 n4 c4) ∧ w.cell? ⟨g, i * 6 + 5, none⟩ = some (.slice y5 n5 c5) ∧ x0.length ≤ 1000000 ∧ l[gn + i]? = some (x0, x1, 0, (n3 : Int))
theorem cell_box5' {w : World} {b : Nat} {v0 v1 v2 v3 v4 : Value} {t : TypeId} (h : w.heap[b]? = some (.cells #[v0, v1, v2, v3, v4] t (0, 0))) : w.cell? ⟨b, 0, none⟩ = some v0 ∧ w.cell? ⟨b, 1, none⟩ = some v1 ∧ w.cell? ⟨b, 2, none⟩ = some v2 ∧ w.cell? ⟨b, 3, none⟩ = some v3 ∧ w.cell? ⟨b, 4, none⟩ = some v4 :=
  ⟨(cell_blk h).trans rfl, (cell_blk h).trans rfl, (cell_blk h).trans rfl, (cell_blk h).trans rfl, (cell_blk h).trans rfl⟩
theorem ext_below {b B : Nat} {w w' : World} (h : Ext b w w') (hb : B ≤ b) (hs : B ≤ w.heap.size) : Below B w w' :=
  ⟨h.os, h.tape, h.output, h.size, fun k hk => h.block k (by omega) (by omega)⟩
theorem cell_alloc' {w : World} {a : Addr} {v : Value} (h : w.cell? a = some v) (ob : Obj) : (w.alloc ob).cell? a = some v := by
  rw [World.cell?_alloc_lt _ _ _ (World.block_lt_of_cell? _ _ h)]; exact h
set_option maxRecDepth 100000 in
set_option maxHeartbeats 2000000 in
theorem globals_walk {w : World} {nm : Bs} {inn gn pn bn ic gc pc bc : Nat} {ia ga pa ba : Option Addr} {l : List Th} (hG : AskTG w gn ga l) (hP : AskTP w gn pn pa l) (hl : l.length = gn + pn) (hgn : gn ≤ 1000) (hpn : pn ≤ 1000) :
    Calls Tryz.prog 32 #[.agg #[.string (bs nm), .slice ia inn ic, .slice ga gn gc, .slice pa pn pc, .slice ba bn bc]] w (MapP w l) := by
  obtain ⟨wm, hwm⟩ : ∃ wm, wm = w.alloc (.cells #[.string (bs nm), .slice ia inn ic, .slice ga gn gc, .slice pa pn pc, .slice ba bn bc] 29) := ⟨_, rfl⟩
  have hblk0 : wm.heap[w.heap.size]? = some (.cells #[.string (bs nm), .slice ia inn ic, .slice ga gn gc, .slice pa pn pc, .slice ba bn bc] 29 (0, 0)) := by rw [hwm]; exact new_blk _ _
  have hszm : wm.heap.size = w.heap.size + 1 := by rw [hwm]; simp
  have hbe : Below w.heap.size w (wm.alloc (.map #[] 0)) := by rw [hwm]; exact ((Below.refl _ _).alloc (Nat.le_refl _) _).alloc (by simp) _
  have htm := TM.zero wm l
  have hblk : (wm.alloc (.map #[] 0)).heap[w.heap.size]? = some (.cells #[.string (bs nm), .slice ia inn ic, .slice ga gn gc, .slice pa pn pc, .slice ba bn bc] 29 (0, 0)) := (Below.heap_alloc _ _ _ (by omega)).trans hblk0
  rw [hszm] at htm
  obtain ⟨k0, k1, k2, k3, k4⟩ := cell_box5' hblk
  have hmm := @run_makeMap Tryz.prog
  have HG := Lib.hid hG
  have HP := Lib.hid hP
  have HL := Lib.hid hl
  have HK := Lib.hid hblk
  have HT := Lib.hid htm
  have HBE := Lib.hid hbe
  have HSM := Lib.hid hszm
  have hgn' : (gn : Int) ≤ 1000 := by omega
  have hpn' : (pn : Int) ≤ 1000 := by omega
  clear hG hP hl hblk htm hbe k0 k1 k3 k4 hblk0
  go_enter Tryz.func32, Tryz.ntmps32
  go_wp2_with fail
  rw [← hwm]
  have hsz0 : w.heap.size + 2 ≤ (wm.alloc (.map #[] 0)).heap.size := by simp; omega
  have hs1 : (w.alloc (.cells #[.string (bs nm), .slice ia inn ic, .slice ga gn gc, .slice pa pn pc, .slice ba bn bc] 29)).heap.size = w.heap.size + 1 := by simp
  generalize wm.alloc (.map #[] 0) = w0 at *
  clear hwm HSM hszm wm hmm
  go_loopg [12] gn (fun k vi wr => ∃ i : Nat, i ≤ gn ∧ k = gn - i ∧ vi = .int .i64 (i : Int) ∧ Hid (TM wr (w.heap.size + 1) l i) ∧ Hid (Ext (w.heap.size + 1) w0 wr))
  case atStart => exact ⟨0, by omega, by omega, rfl, HT, Ext.refl _ _⟩
  case round =>
    obtain ⟨i, hid, hk, rfl, HTM, HE⟩ := hrel
    have hsz := HE.out.size
    by_cases hlt : i < gn
    · have hlt' : (i : Int) < (gn : Int) := by omega
      obtain ⟨g, x0, x1, x2, x3, hga, hgB, c0, c1', c2, c3, hxl, hx⟩ := HG.out i hlt
      subst hga
      have hcell : ∀ (o : Nat) (u : Value), w.cell? ⟨g, o, none⟩ = some u → wr.cell? ⟨g, o, none⟩ = some u := fun o u h => HE.out.cell ((HBE.out.cell (p := ⟨g, o, none⟩) hgB).trans h) (by simp; omega)
      have kc0 := hcell _ _ c0
      have kc1 := hcell _ _ c1'
      have kc2 := hcell _ _ c2
      have kc3 := hcell _ _ c3
      have hlgr : g < wr.heap.size := by omega
      have HX := Lib.hid hx
      have HTA : Hid (∀ ob, TM (wr.alloc ob) (w.heap.size + 1) l i) := fun ob => HTM.out.on (Below.heap_alloc _ _ _ (by omega))
      have HEA : Hid (∀ ob, Ext (w.heap.size + 1) w0 (wr.alloc ob)) := fun ob => HE.out.trans (Ext.below ((Below.refl _ _).alloc (Nat.le_refl _) _))
      clear c0 c1' c2 c3 hcell hx
      by_cases hm : x0 ∈ (l.take i).map (·.1)
      · have HM := Lib.hid hm
        clear hm
        go_wp2_with fail
        refine (add_dup (HTA.out _) HM.out hxl).mono ?_
        rintro e w3 ⟨ht, hb3⟩
        have HD := Lib.hid (HTM.out.dup HX.out HM.out)
        have HB3 : Hid (Below w.heap.size w w3) := (HBE.out.trans (ext_below (HEA.out _) (by omega) (by omega))).trans (hb3.mono (by simp; omega))
        have HT3 := Lib.hid (ht.mono (B' := w.heap.size) (by simp; omega))
        obtain ⟨ab, q1, rfl, q2, q3⟩ := ht.out
        clear ht hb3 q1 q2 q3
        go_wp2_with fail
        refine ⟨rfl, HB3.out, ?_⟩
        rw [HD.out]
        exact HT3.out
      · have HM := Lib.hid hm
        clear hm
        go_wp2_with fail
        refine (add_new (HTA.out _) HX.out (by omega) HM.out hxl).mono ?_
        rintro e w3 ⟨rfl, ht, hb3⟩
        have HT3 := Lib.hid ht
        have HE3 := Lib.hid ((HEA.out _).trans hb3)
        clear ht hb3
        go_wp2_with fail
        go_roundg (gn - (i + 1))
        case measure => omega
        case rel => exact ⟨i + 1, by omega, rfl, by go_num, HT3, HE3⟩
    · have hlt' : ¬ (i : Int) < (gn : Int) := by omega
      have hei : i = gn := by omega
      subst hei
      have k3 : wr.cell? ⟨w.heap.size, 3, none⟩ = some (.slice pa pn pc) := HE.out.cell (cell_box5' HK.out).2.2.2.1 (by simp)
      have hltb : w.heap.size < wr.heap.size := by omega
      have HTM1 : Hid (TM wr (w.heap.size + 1) l (i + 0)) := HTM
      have HE1 := HE
      clear HTM HE HG k2 hsz HT
      go_wp2_with fail
      go_loopg [29] pn (fun k vi wr => ∃ j : Nat, j ≤ pn ∧ k = pn - j ∧ vi = .int .i64 (j : Int) ∧ Hid (TM wr (w.heap.size + 1) l (i + j)) ∧ Hid (Ext (w.heap.size + 1) w0 wr))
      case atStart => exact ⟨0, by omega, by omega, rfl, HTM1, HE1⟩
      case round =>
        obtain ⟨j, hjd, hk2, rfl, HTM, HE⟩ := hrel
        have hsz := HE.out.size
        clear HTM1 HE1 k3 hltb
        by_cases hlt2 : j < pn
        · have hlt2' : (j : Int) < (pn : Int) := by omega
          obtain ⟨g, x0, x1, x2, y3, y4, y5, n3, n4, n5, d3, d4, d5, hpa, hgB, c0, c1', c2, c3, c4, c5, hxl, hx⟩ := HP.out j hlt2
          subst hpa
          have hcell : ∀ (o : Nat) (u : Value), w.cell? ⟨g, o, none⟩ = some u → wr.cell? ⟨g, o, none⟩ = some u := fun o u h => HE.out.cell ((HBE.out.cell (p := ⟨g, o, none⟩) hgB).trans h) (by simp; omega)
          have kc0 := hcell _ _ c0
          have kc1 := hcell _ _ c1'
          have kc2 := hcell _ _ c2
          have kc3 := hcell _ _ c3
          have kc4 := hcell _ _ c4
          have kc5 := hcell _ _ c5
          have hlgr : g < wr.heap.size := by omega
          have HX := Lib.hid hx
          have HTA : Hid (∀ ob, TM (wr.alloc ob) (w.heap.size + 1) l (i + j)) := fun ob => HTM.out.on (Below.heap_alloc _ _ _ (by omega))
          have HEA : Hid (∀ ob, Ext (w.heap.size + 1) w0 (wr.alloc ob)) := fun ob => HE.out.trans (Ext.below ((Below.refl _ _).alloc (Nat.le_refl _) _))
          clear c0 c1' c2 c3 c4 c5 hcell hx
          by_cases hm : x0 ∈ (l.take (i + j)).map (·.1)
          · have HM := Lib.hid hm
            clear hm
            go_wp2_with fail
            refine (add_dup (x2 := 0) (x3 := (n3 : Int)) (HTA.out _) HM.out hxl).mono ?_
            rintro e w3 ⟨ht, hb3⟩
            have HD := Lib.hid (HTM.out.dup HX.out HM.out)
            have HB3 : Hid (Below w.heap.size w w3) := (HBE.out.trans (ext_below (HEA.out _) (by omega) (by omega))).trans (hb3.mono (by simp; omega))
            have HT3 := Lib.hid (ht.mono (B' := w.heap.size) (by simp; omega))
            obtain ⟨ab, q1, rfl, q2, q3⟩ := ht.out
            clear ht hb3 q1 q2 q3
            go_wp2_with fail
            refine ⟨rfl, HB3.out, ?_⟩
            rw [HD.out]
            exact HT3.out
          · have HM := Lib.hid hm
            clear hm
            go_wp2_with fail
            refine (add_new (x2 := 0) (x3 := (n3 : Int)) (HTA.out _) HX.out (by omega) HM.out hxl).mono ?_
            rintro e w3 ⟨rfl, ht, hb3⟩
            have HT3 : Hid (TM w3 (w.heap.size + 1) l (i + (j + 1))) := ht
            have HE3 := Lib.hid ((HEA.out _).trans hb3)
            clear ht hb3
            go_wp2_with fail
            go_roundg (pn - (j + 1))
            case measure => omega
            case rel => exact ⟨j + 1, by omega, rfl, by go_num, HT3, HE3⟩
        · have hlt2' : ¬ (j : Int) < (pn : Int) := by omega
          have hej : j = pn := by omega
          subst hej
          obtain ⟨f1, f2⟩ := HTM.out.fin (by have := HL.out; omega)
          have HF1 := Lib.hid f1
          have HF2 := Lib.hid f2
          have HB3 : Hid (Below w.heap.size w wr) := HBE.out.trans (ext_below HE.out (by omega) (by omega))
          clear f1 f2 HTM HE
          go_wp2_with fail
          go_ret
          refine ⟨HB3.out, ?_⟩
          rw [HF1.out]
          exact ⟨_, _, rfl, by omega, by omega, HF2.out⟩
end Go.Proofs.YtiolfelekiopdaaGreatDoor
