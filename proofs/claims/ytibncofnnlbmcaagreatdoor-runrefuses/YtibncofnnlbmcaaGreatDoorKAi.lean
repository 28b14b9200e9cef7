import Derived.Test.YtibncofnnlbmcaaGreatDoorKAf
import Derived.Test.YtibncofnnlbmcaaGreatDoorKQk
import Derived.Test.YtibncofnnlbmcaaGreatDoorKAh
/- Chapter 4: Call, refused: nothing is changed; Call, whatever is there. -/
namespace Go.Proofs.YtibncofnnlbmcaaGreatDoor
open Go.RowKit Go.Maps
open Tp (Bs X S G Pr Pt Rs Rr Own)

def ErrC (w : World) (er : Int) (e : Ending) (w' : World) : Prop := Below w.heap.size w w' ∧ e = .returned (.tuple #[no2, .int .i64 0, .iface 44 (.int .i64 er)])
set_option maxRecDepth 100000 in
set_option maxHeartbeats 4000000 in
theorem call_noM {X : Nat → Prop} {w : World} {wb fuel an ac : Nat} {aa : Option Addr} {L : List Lo} {P : List Pt} {nv : Value} {tv : Option Nat} {md nm : Bs} (h : WX X w wb L P nv tv) (hmdl : md.length ≤ 1000000) (_ : an ≤ 1000000) (hptr : ptrV L md = none) :
    Calls Tryz.prog 27 #[.pointer (some ⟨wb, 0, none⟩), .string (bs md), .string (bs nm), .slice aa an ac, .int .i64 (fuel : Int)] w (ErrC w 7) := by
  obtain ⟨W4, hW4⟩ : ∃ W4, W4 = (((w.alloc (.cells #[.string (bs nm)] 9)).alloc (.cells #[.slice aa an ac] 29)).alloc (.cells #[.int .i64 0, .slice none 0 0] 43)).alloc (.cells #[.int .i64 0] 2) := ⟨_, rfl⟩
  obtain ⟨W5, hW5⟩ : ∃ W5, W5 = W4.alloc (.cells #[.pointer none] 88) := ⟨_, rfl⟩
  have hs4 : W4.heap.size = w.heap.size + 4 := by rw [hW4]; simp
  have hb4 : Below w.heap.size w W4 := by rw [hW4]; exact ((((Below.refl _ _).alloc (Nat.le_refl _) _).alloc (by simp) _).alloc (by simp; omega) _).alloc (by simp; omega) _
  have hb45 : Below W4.heap.size W4 W5 := by rw [hW5]; exact (Below.refl _ _).alloc (Nat.le_refl _) _
  have hb5 : Below w.heap.size w W5 := hb4.trans (hb45.mono (by omega))
  have hs5 : W5.heap.size = w.heap.size + 5 := by rw [hW5]; simp [hs4]
  have q0 : W4.heap[w.heap.size]? = some (.cells #[.string (bs nm)] 9 (0, 0)) := by rw [hW4]; exact (((Below.heap_alloc _ _ _ (by simp; omega)).trans (Below.heap_alloc _ _ _ (by simp; omega))).trans (Below.heap_alloc _ _ _ (by simp))).trans (new_blk _ _)
  have q1 : W4.heap[w.heap.size + 1]? = some (.cells #[.slice aa an ac] 29 (0, 0)) := by
    have := new_blk (w.alloc (.cells #[.string (bs nm)] 9)) (.cells #[.slice aa an ac] 29)
    rw [hW4]; exact ((Below.heap_alloc _ _ _ (by simp)).trans (Below.heap_alloc _ _ _ (by simp))).trans (by simpa using this)
  have q2 : W4.heap[w.heap.size + 2]? = some (.cells #[.int .i64 0, .slice none 0 0] 43 (0, 0)) := by
    have := new_blk ((w.alloc (.cells #[.string (bs nm)] 9)).alloc (.cells #[.slice aa an ac] 29)) (.cells #[.int .i64 0, .slice none 0 0] 43)
    rw [hW4]; exact (Below.heap_alloc _ _ _ (by simp)).trans (by simpa using this)
  have q3 : W4.heap[w.heap.size + 3]? = some (.cells #[.int .i64 0] 2 (0, 0)) := by
    have := new_blk (((w.alloc (.cells #[.string (bs nm)] 9)).alloc (.cells #[.slice aa an ac] 29)).alloc (.cells #[.int .i64 0, .slice none 0 0] 43)) (.cells #[.int .i64 0] 2)
    rw [hW4]; simpa using this
  have q4 : W5.heap[w.heap.size + 4]? = some (.cells #[.pointer none] 88 (0, 0)) := by
    have := new_blk W4 (.cells #[.pointer none] 88)
    rw [hs4] at this
    rw [hW5]; exact this
  have p0 := (hb45.block _ (lt_blk q0)).trans q0
  have p1 := (hb45.block _ (lt_blk q1)).trans q1
  have p2 := (hb45.block _ (lt_blk q2)).trans q2
  have p3 := (hb45.block _ (lt_blk q3)).trans q3
  have hwl := lt_blk h.blk
  have k1 : W4.cell? ⟨wb, 1, none⟩ = some (.map tv) := (cell_blk ((hb4.block _ hwl).trans h.blk)).trans rfl
  have hlk : (Instr.lookup 26 (.map tv) (.string (bs md)) false).run Tryz.prog W4 = .ok (.pointer none) W4 := by
    have := (h.on hb4).look md hmdl
    rw [hptr] at this
    exact this
  have k5 : W5.cell? ⟨w.heap.size + 4, 0, none⟩ = some (.pointer none) := (cell_blk q4).trans rfl
  have k6 : W5.cell? ⟨w.heap.size, 0, none⟩ = some (.string (bs nm)) := (cell_blk p0).trans rfl
  have hl4 : w.heap.size + 4 < W5.heap.size := by omega
  have hl0 : w.heap.size < W5.heap.size := by omega
  have hwl4 : wb < W4.heap.size := by omega
  have HK1 := Lib.hid p1
  have HK2 := Lib.hid p2
  have HK3 := Lib.hid p3
  have HB5 := Lib.hid hb5
  have HS5 := Lib.hid hs5
  clear q0 q1 q2 q3 q4 p0 p1 p2 p3 hb4 hb45 hb5 hptr h HK1 k6
  generalize bs md = lmn at *
  generalize bs nm = pnm at *
  go_enter Tryz.func27, Tryz.ntmps27
  go_upto_region 1 with fail
  rw [← hW4]
  clear hW4
  go_upto_region 2 with fail
  rw [← hW5, show w.heap.size + 1 + 1 + 1 = w.heap.size + 3 from rfl, show w.heap.size + 1 + 1 = w.heap.size + 2 from rfl]
  clear hW5 hlk k1
  have hE := ((Below.refl W5.heap.size W5).block _ (lt_blk HK2.out)).trans HK2.out
  have hN := ((Below.refl W5.heap.size W5).block _ (lt_blk HK3.out)).trans HK3.out
  have e0 : W5.cell? ⟨w.heap.size + 2, 0, none⟩ = some (.int .i64 0) := (cell_blk hE).trans rfl
  have e1 : W5.cell? ⟨w.heap.size + 2, 1, none⟩ = some (.slice none 0 0) := (cell_blk hE).trans rfl
  have ez : ∀ j, W5.frozen? ⟨w.heap.size + 2, j, none⟩ = false := fun j => frozen_blk hE
  have nz : ∀ j, W5.frozen? ⟨w.heap.size + 3, j, none⟩ = false := fun j => frozen_blk hN
  have n0 : W5.cell? ⟨w.heap.size + 3, 0, none⟩ = some (.int .i64 0) := (cell_blk hN).trans rfl
  have hel := lt_blk hE
  have hnl := lt_blk hN
  obtain ⟨w11, hw11⟩ : ∃ w11, w11 = ((W5.setCell ⟨w.heap.size + 2, 0, none⟩ (.int .i64 0)).setCell ⟨w.heap.size + 2, 1, none⟩ (.slice none 0 0)).setCell ⟨w.heap.size + 3, 0, none⟩ (.int .i64 0) := ⟨_, rfl⟩
  have hEb : w11.heap[w.heap.size + 2]? = some (.cells #[.int .i64 0, .slice none 0 0] 43 (0, 0)) := by
    rw [hw11]
    exact (set_frame _ (by omega)).trans (set_blk 1 (.slice none 0 0) (set_blk 0 (.int .i64 0) hE))
  have hNb : w11.heap[w.heap.size + 3]? = some (.cells #[.int .i64 0] 2 (0, 0)) := by
    rw [hw11]
    exact set_blk 0 (.int .i64 0) ((set_frame _ (by omega)).trans ((set_frame _ (by omega)).trans hN))
  have g0 : w11.cell? ⟨w.heap.size + 2, 0, none⟩ = some (.int .i64 0) := (cell_blk hEb).trans rfl
  have g1 : w11.cell? ⟨w.heap.size + 2, 1, none⟩ = some (.slice none 0 0) := (cell_blk hEb).trans rfl
  have g2 : w11.cell? ⟨w.heap.size + 3, 0, none⟩ = some (.int .i64 0) := (cell_blk hNb).trans rfl
  have HR : Hid (ErrC w 7 (.returned (.tuple #[no2, .int .i64 0, .iface 44 (.int .i64 7)])) w11) := by
    refine ⟨?_, rfl⟩
    rw [hw11]
    exact below_set (below_set (below_set (HB5.out.trans ((Below.refl W5.heap.size W5).mono (by have := HS5.out; omega))) (by omega) 0 _) (by omega) 1 _) (by omega) 0 _
  clear hE hN hEb hNb
  go_wp2_with fail
  rw [← hw11]
  exact bodyPost_ret (v := .tuple #[no2, .int .i64 0, .iface 44 (.int .i64 7)]) (by simp [results, Tryz.results27, go_sem, no2, g0, g1, g2]) rfl HR.out
set_option maxRecDepth 100000 in
set_option maxHeartbeats 4000000 in
theorem call_noP {X : Nat → Prop} {w : World} {wb fuel an ac : Nat} {aa : Option Addr} {L : List Lo} {P : List Pt} {nv : Value} {tv : Option Nat} {md nm : Bs} (h : WX X w wb L P nv tv) (hmdl : md.length ≤ 1000000) (_ : an ≤ 1000000) {lo : Lo} (hlo : lo ∈ L) (hptr : ptrV L md = some ⟨lo.lb, 0, none⟩) (hp : Tp.procIn lo.m nm = none) :
    Calls Tryz.prog 27 #[.pointer (some ⟨wb, 0, none⟩), .string (bs md), .string (bs nm), .slice aa an ac, .int .i64 (fuel : Int)] w (ErrC w 7) := by
  obtain ⟨W4, hW4⟩ : ∃ W4, W4 = (((w.alloc (.cells #[.string (bs nm)] 9)).alloc (.cells #[.slice aa an ac] 29)).alloc (.cells #[.int .i64 0, .slice none 0 0] 43)).alloc (.cells #[.int .i64 0] 2) := ⟨_, rfl⟩
  obtain ⟨W5, hW5⟩ : ∃ W5, W5 = W4.alloc (.cells #[.pointer (some ⟨lo.lb, 0, none⟩)] 88) := ⟨_, rfl⟩
  have hs4 : W4.heap.size = w.heap.size + 4 := by rw [hW4]; simp
  have hb4 : Below w.heap.size w W4 := by rw [hW4]; exact ((((Below.refl _ _).alloc (Nat.le_refl _) _).alloc (by simp) _).alloc (by simp; omega) _).alloc (by simp; omega) _
  have hb45 : Below W4.heap.size W4 W5 := by rw [hW5]; exact (Below.refl _ _).alloc (Nat.le_refl _) _
  have hb5 : Below w.heap.size w W5 := hb4.trans (hb45.mono (by omega))
  have hs5 : W5.heap.size = w.heap.size + 5 := by rw [hW5]; simp [hs4]
  have q0 : W4.heap[w.heap.size]? = some (.cells #[.string (bs nm)] 9 (0, 0)) := by rw [hW4]; exact (((Below.heap_alloc _ _ _ (by simp; omega)).trans (Below.heap_alloc _ _ _ (by simp; omega))).trans (Below.heap_alloc _ _ _ (by simp))).trans (new_blk _ _)
  have q1 : W4.heap[w.heap.size + 1]? = some (.cells #[.slice aa an ac] 29 (0, 0)) := by
    have := new_blk (w.alloc (.cells #[.string (bs nm)] 9)) (.cells #[.slice aa an ac] 29)
    rw [hW4]; exact ((Below.heap_alloc _ _ _ (by simp)).trans (Below.heap_alloc _ _ _ (by simp))).trans (by simpa using this)
  have q2 : W4.heap[w.heap.size + 2]? = some (.cells #[.int .i64 0, .slice none 0 0] 43 (0, 0)) := by
    have := new_blk ((w.alloc (.cells #[.string (bs nm)] 9)).alloc (.cells #[.slice aa an ac] 29)) (.cells #[.int .i64 0, .slice none 0 0] 43)
    rw [hW4]; exact (Below.heap_alloc _ _ _ (by simp)).trans (by simpa using this)
  have q3 : W4.heap[w.heap.size + 3]? = some (.cells #[.int .i64 0] 2 (0, 0)) := by
    have := new_blk (((w.alloc (.cells #[.string (bs nm)] 9)).alloc (.cells #[.slice aa an ac] 29)).alloc (.cells #[.int .i64 0, .slice none 0 0] 43)) (.cells #[.int .i64 0] 2)
    rw [hW4]; simpa using this
  have q4 : W5.heap[w.heap.size + 4]? = some (.cells #[.pointer (some ⟨lo.lb, 0, none⟩)] 88 (0, 0)) := by
    have := new_blk W4 (.cells #[.pointer (some ⟨lo.lb, 0, none⟩)] 88)
    rw [hs4] at this
    rw [hW5]; exact this
  have p0 := (hb45.block _ (lt_blk q0)).trans q0
  have p1 := (hb45.block _ (lt_blk q1)).trans q1
  have p2 := (hb45.block _ (lt_blk q2)).trans q2
  have p3 := (hb45.block _ (lt_blk q3)).trans q3
  have hwl := lt_blk h.blk
  have k1 : W4.cell? ⟨wb, 1, none⟩ = some (.map tv) := (cell_blk ((hb4.block _ hwl).trans h.blk)).trans rfl
  have hlk : (Instr.lookup 26 (.map tv) (.string (bs md)) false).run Tryz.prog W4 = .ok (.pointer (some ⟨lo.lb, 0, none⟩)) W4 := by
    have := (h.on hb4).look md hmdl
    rw [hptr] at this
    exact this
  have k5 : W5.cell? ⟨w.heap.size + 4, 0, none⟩ = some (.pointer (some ⟨lo.lb, 0, none⟩)) := (cell_blk q4).trans rfl
  have k6 : W5.cell? ⟨w.heap.size, 0, none⟩ = some (.string (bs nm)) := (cell_blk p0).trans rfl
  have hl4 : w.heap.size + 4 < W5.heap.size := by omega
  have hl0 : w.heap.size < W5.heap.size := by omega
  have hwl4 : wb < W4.heap.size := by omega
  have HK1 := Lib.hid p1
  have HK2 := Lib.hid p2
  have HK3 := Lib.hid p3
  have HB5 := Lib.hid hb5
  have HS5 := Lib.hid hs5
  obtain ⟨tb, htv, hww⟩ := h.ww hlo
  have hww5 := hww.more hb5
  obtain ⟨⟨ia, ga, pa, ba, ic, gc, pc, bc, m1, m2⟩, _, _, _, hfit⟩ := hww5.lo lo hlo
  have HPR := Lib.hid (rprocD m1 m2 (by have := hfit.wm.pc; omega) nm)
  have HPP : Hid (∀ v, ProcP (cwF W5) lo.m nm v → v = none) := fun v hv => by
    unfold ProcP at hv
    rw [hp] at hv
    exact hv
  clear q0 q1 q2 q3 q4 p0 p1 p2 p3 hb4 hb45 hb5 hptr htv h hlo hww hww5 m1 m2 hfit hp HK1
  generalize bs md = lmn at *
  generalize bs nm = pnm at *
  go_enter Tryz.func27, Tryz.ntmps27
  go_upto_region 1 with fail
  rw [← hW4]
  clear hW4
  go_upto_region 2 with fail
  rw [← hW5, show w.heap.size + 1 + 1 + 1 = w.heap.size + 3 from rfl, show w.heap.size + 1 + 1 = w.heap.size + 2 from rfl]
  clear hW5 hlk k1
  go_wp2_with fail
  refine HPR.out.mono ?_
  rintro e w6 ⟨v, rfl, hv, hb6⟩
  have hv' := HPP.out v hv
  subst hv'
  have HB6 := Lib.hid hb6
  clear hv hb6 k5 k6 HPR HPP
  have hE := (HB6.out.block _ (lt_blk HK2.out)).trans HK2.out
  have hN := (HB6.out.block _ (lt_blk HK3.out)).trans HK3.out
  have e0 : w6.cell? ⟨w.heap.size + 2, 0, none⟩ = some (.int .i64 0) := (cell_blk hE).trans rfl
  have e1 : w6.cell? ⟨w.heap.size + 2, 1, none⟩ = some (.slice none 0 0) := (cell_blk hE).trans rfl
  have ez : ∀ j, w6.frozen? ⟨w.heap.size + 2, j, none⟩ = false := fun j => frozen_blk hE
  have nz : ∀ j, w6.frozen? ⟨w.heap.size + 3, j, none⟩ = false := fun j => frozen_blk hN
  have n0 : w6.cell? ⟨w.heap.size + 3, 0, none⟩ = some (.int .i64 0) := (cell_blk hN).trans rfl
  have hel := lt_blk hE
  have hnl := lt_blk hN
  obtain ⟨w11, hw11⟩ : ∃ w11, w11 = ((w6.setCell ⟨w.heap.size + 2, 0, none⟩ (.int .i64 0)).setCell ⟨w.heap.size + 2, 1, none⟩ (.slice none 0 0)).setCell ⟨w.heap.size + 3, 0, none⟩ (.int .i64 0) := ⟨_, rfl⟩
  have hEb : w11.heap[w.heap.size + 2]? = some (.cells #[.int .i64 0, .slice none 0 0] 43 (0, 0)) := by
    rw [hw11]
    exact (set_frame _ (by omega)).trans (set_blk 1 (.slice none 0 0) (set_blk 0 (.int .i64 0) hE))
  have hNb : w11.heap[w.heap.size + 3]? = some (.cells #[.int .i64 0] 2 (0, 0)) := by
    rw [hw11]
    exact set_blk 0 (.int .i64 0) ((set_frame _ (by omega)).trans ((set_frame _ (by omega)).trans hN))
  have g0 : w11.cell? ⟨w.heap.size + 2, 0, none⟩ = some (.int .i64 0) := (cell_blk hEb).trans rfl
  have g1 : w11.cell? ⟨w.heap.size + 2, 1, none⟩ = some (.slice none 0 0) := (cell_blk hEb).trans rfl
  have g2 : w11.cell? ⟨w.heap.size + 3, 0, none⟩ = some (.int .i64 0) := (cell_blk hNb).trans rfl
  have HR : Hid (ErrC w 7 (.returned (.tuple #[no2, .int .i64 0, .iface 44 (.int .i64 7)])) w11) := by
    refine ⟨?_, rfl⟩
    rw [hw11]
    exact below_set (below_set (below_set (HB5.out.trans (HB6.out.mono (by have := HS5.out; omega))) (by omega) 0 _) (by omega) 1 _) (by omega) 0 _
  clear hE hN hEb hNb
  go_wp2_with fail
  rw [← hw11]
  exact bodyPost_ret (v := .tuple #[no2, .int .i64 0, .iface 44 (.int .i64 7)]) (by simp [results, Tryz.results27, go_sem, no2, g0, g1, g2]) rfl HR.out
set_option maxRecDepth 100000 in
set_option maxHeartbeats 4000000 in
theorem call_noS {X : Nat → Prop} {w : World} {wb fuel an ac : Nat} {aa : Option Addr} {L : List Lo} {P : List Pt} {nv : Value} {tv : Option Nat} {md nm : Bs} (h : WX X w wb L P nv tv) (hmdl : md.length ≤ 1000000) (_ : an ≤ 1000000) {lo : Lo} (hlo : lo ∈ L) (hptr : ptrV L md = some ⟨lo.lb, 0, none⟩) {p : Pr} (hp : Tp.procIn lo.m nm = some p) (hsn : p.seen = false) :
    Calls Tryz.prog 27 #[.pointer (some ⟨wb, 0, none⟩), .string (bs md), .string (bs nm), .slice aa an ac, .int .i64 (fuel : Int)] w (ErrC w 7) := by
  obtain ⟨W4, hW4⟩ : ∃ W4, W4 = (((w.alloc (.cells #[.string (bs nm)] 9)).alloc (.cells #[.slice aa an ac] 29)).alloc (.cells #[.int .i64 0, .slice none 0 0] 43)).alloc (.cells #[.int .i64 0] 2) := ⟨_, rfl⟩
  obtain ⟨W5, hW5⟩ : ∃ W5, W5 = W4.alloc (.cells #[.pointer (some ⟨lo.lb, 0, none⟩)] 88) := ⟨_, rfl⟩
  have hs4 : W4.heap.size = w.heap.size + 4 := by rw [hW4]; simp
  have hb4 : Below w.heap.size w W4 := by rw [hW4]; exact ((((Below.refl _ _).alloc (Nat.le_refl _) _).alloc (by simp) _).alloc (by simp; omega) _).alloc (by simp; omega) _
  have hb45 : Below W4.heap.size W4 W5 := by rw [hW5]; exact (Below.refl _ _).alloc (Nat.le_refl _) _
  have hb5 : Below w.heap.size w W5 := hb4.trans (hb45.mono (by omega))
  have hs5 : W5.heap.size = w.heap.size + 5 := by rw [hW5]; simp [hs4]
  have q0 : W4.heap[w.heap.size]? = some (.cells #[.string (bs nm)] 9 (0, 0)) := by rw [hW4]; exact (((Below.heap_alloc _ _ _ (by simp; omega)).trans (Below.heap_alloc _ _ _ (by simp; omega))).trans (Below.heap_alloc _ _ _ (by simp))).trans (new_blk _ _)
  have q1 : W4.heap[w.heap.size + 1]? = some (.cells #[.slice aa an ac] 29 (0, 0)) := by
    have := new_blk (w.alloc (.cells #[.string (bs nm)] 9)) (.cells #[.slice aa an ac] 29)
    rw [hW4]; exact ((Below.heap_alloc _ _ _ (by simp)).trans (Below.heap_alloc _ _ _ (by simp))).trans (by simpa using this)
  have q2 : W4.heap[w.heap.size + 2]? = some (.cells #[.int .i64 0, .slice none 0 0] 43 (0, 0)) := by
    have := new_blk ((w.alloc (.cells #[.string (bs nm)] 9)).alloc (.cells #[.slice aa an ac] 29)) (.cells #[.int .i64 0, .slice none 0 0] 43)
    rw [hW4]; exact (Below.heap_alloc _ _ _ (by simp)).trans (by simpa using this)
  have q3 : W4.heap[w.heap.size + 3]? = some (.cells #[.int .i64 0] 2 (0, 0)) := by
    have := new_blk (((w.alloc (.cells #[.string (bs nm)] 9)).alloc (.cells #[.slice aa an ac] 29)).alloc (.cells #[.int .i64 0, .slice none 0 0] 43)) (.cells #[.int .i64 0] 2)
    rw [hW4]; simpa using this
  have q4 : W5.heap[w.heap.size + 4]? = some (.cells #[.pointer (some ⟨lo.lb, 0, none⟩)] 88 (0, 0)) := by
    have := new_blk W4 (.cells #[.pointer (some ⟨lo.lb, 0, none⟩)] 88)
    rw [hs4] at this
    rw [hW5]; exact this
  have p0 := (hb45.block _ (lt_blk q0)).trans q0
  have p1 := (hb45.block _ (lt_blk q1)).trans q1
  have p2 := (hb45.block _ (lt_blk q2)).trans q2
  have p3 := (hb45.block _ (lt_blk q3)).trans q3
  have hwl := lt_blk h.blk
  have k1 : W4.cell? ⟨wb, 1, none⟩ = some (.map tv) := (cell_blk ((hb4.block _ hwl).trans h.blk)).trans rfl
  have hlk : (Instr.lookup 26 (.map tv) (.string (bs md)) false).run Tryz.prog W4 = .ok (.pointer (some ⟨lo.lb, 0, none⟩)) W4 := by
    have := (h.on hb4).look md hmdl
    rw [hptr] at this
    exact this
  have k5 : W5.cell? ⟨w.heap.size + 4, 0, none⟩ = some (.pointer (some ⟨lo.lb, 0, none⟩)) := (cell_blk q4).trans rfl
  have k6 : W5.cell? ⟨w.heap.size, 0, none⟩ = some (.string (bs nm)) := (cell_blk p0).trans rfl
  have hl4 : w.heap.size + 4 < W5.heap.size := by omega
  have hl0 : w.heap.size < W5.heap.size := by omega
  have hwl4 : wb < W4.heap.size := by omega
  have HK1 := Lib.hid p1
  have HK2 := Lib.hid p2
  have HK3 := Lib.hid p3
  have HB5 := Lib.hid hb5
  have HS5 := Lib.hid hs5
  obtain ⟨tb, htv, hww⟩ := h.ww hlo
  have hww5 := hww.more hb5
  obtain ⟨⟨ia, ga, pa, ba, ic, gc, pc, bc, m1, m2⟩, _, _, _, hfit⟩ := hww5.lo lo hlo
  have HPR := Lib.hid (rprocD m1 m2 (by have := hfit.wm.pc; omega) nm)
  have HPP : Hid (∀ v, ProcP (cwF W5) lo.m nm v → ∃ pb o ya yc, v = some ⟨pb, o, none⟩ ∧ W5.cell? ⟨pb, o + 2, none⟩ = some (.bool false) ∧ W5.cell? ⟨pb, o + 3, none⟩ = some (.slice ya p.params.length yc)) := by
    intro v hv
    unfold ProcP at hv
    rw [hp] at hv
    obtain ⟨pb, o, e, q⟩ := hv
    obtain ⟨pv, vv, bv, bcs, r1, r2, r3, r4, _⟩ := q.r
    obtain ⟨ya, yc, rfl⟩ := r4.shape
    exact ⟨pb, o, ya, yc, e, by have := q.sn; rw [hsn] at this; exact this, r1⟩
  clear q0 q1 q2 q3 q4 p0 p1 p2 p3 hb4 hb45 hb5 hptr htv h hlo hww hww5 m1 m2 hfit hp hsn HK1
  generalize bs md = lmn at *
  generalize bs nm = pnm at *
  generalize p.params.length = pn at *
  go_enter Tryz.func27, Tryz.ntmps27
  go_upto_region 1 with fail
  rw [← hW4]
  clear hW4
  go_upto_region 2 with fail
  rw [← hW5, show w.heap.size + 1 + 1 + 1 = w.heap.size + 3 from rfl, show w.heap.size + 1 + 1 = w.heap.size + 2 from rfl]
  clear hW5 hlk k1
  go_wp2_with fail
  refine HPR.out.mono ?_
  rintro e w6 ⟨v, rfl, hv, hb6⟩
  obtain ⟨pb, o, ya, yc, rfl, c2, c3⟩ := HPP.out v hv
  have c2' : w6.cell? ⟨pb, o + 2, none⟩ = some (.bool false) := (hb6.cell (p := ⟨pb, o + 2, none⟩) (lt_of_cell c2)).trans c2
  have c3' : w6.cell? ⟨pb, o + 3, none⟩ = some (.slice ya pn yc) := (hb6.cell (p := ⟨pb, o + 3, none⟩) (lt_of_cell c3)).trans c3
  have hpl : pb < w6.heap.size := lt_of_cell c2'
  have HB6 := Lib.hid hb6
  clear hv hb6 c2 c3 k5 k6 HPR HPP
  have hE := (HB6.out.block _ (lt_blk HK2.out)).trans HK2.out
  have hN := (HB6.out.block _ (lt_blk HK3.out)).trans HK3.out
  have e0 : w6.cell? ⟨w.heap.size + 2, 0, none⟩ = some (.int .i64 0) := (cell_blk hE).trans rfl
  have e1 : w6.cell? ⟨w.heap.size + 2, 1, none⟩ = some (.slice none 0 0) := (cell_blk hE).trans rfl
  have ez : ∀ j, w6.frozen? ⟨w.heap.size + 2, j, none⟩ = false := fun j => frozen_blk hE
  have nz : ∀ j, w6.frozen? ⟨w.heap.size + 3, j, none⟩ = false := fun j => frozen_blk hN
  have n0 : w6.cell? ⟨w.heap.size + 3, 0, none⟩ = some (.int .i64 0) := (cell_blk hN).trans rfl
  have hel := lt_blk hE
  have hnl := lt_blk hN
  obtain ⟨w11, hw11⟩ : ∃ w11, w11 = ((w6.setCell ⟨w.heap.size + 2, 0, none⟩ (.int .i64 0)).setCell ⟨w.heap.size + 2, 1, none⟩ (.slice none 0 0)).setCell ⟨w.heap.size + 3, 0, none⟩ (.int .i64 0) := ⟨_, rfl⟩
  have hEb : w11.heap[w.heap.size + 2]? = some (.cells #[.int .i64 0, .slice none 0 0] 43 (0, 0)) := by
    rw [hw11]
    exact (set_frame _ (by omega)).trans (set_blk 1 (.slice none 0 0) (set_blk 0 (.int .i64 0) hE))
  have hNb : w11.heap[w.heap.size + 3]? = some (.cells #[.int .i64 0] 2 (0, 0)) := by
    rw [hw11]
    exact set_blk 0 (.int .i64 0) ((set_frame _ (by omega)).trans ((set_frame _ (by omega)).trans hN))
  have g0 : w11.cell? ⟨w.heap.size + 2, 0, none⟩ = some (.int .i64 0) := (cell_blk hEb).trans rfl
  have g1 : w11.cell? ⟨w.heap.size + 2, 1, none⟩ = some (.slice none 0 0) := (cell_blk hEb).trans rfl
  have g2 : w11.cell? ⟨w.heap.size + 3, 0, none⟩ = some (.int .i64 0) := (cell_blk hNb).trans rfl
  have HR : Hid (ErrC w 7 (.returned (.tuple #[no2, .int .i64 0, .iface 44 (.int .i64 7)])) w11) := by
    refine ⟨?_, rfl⟩
    rw [hw11]
    exact below_set (below_set (below_set (HB5.out.trans (HB6.out.mono (by have := HS5.out; omega))) (by omega) 0 _) (by omega) 1 _) (by omega) 0 _
  clear hE hN hEb hNb
  go_wp2_with fail
  rw [← hw11]
  exact bodyPost_ret (v := .tuple #[no2, .int .i64 0, .iface 44 (.int .i64 7)]) (by simp [results, Tryz.results27, go_sem, no2, g0, g1, g2]) rfl HR.out
set_option maxRecDepth 100000 in
set_option maxHeartbeats 4000000 in
theorem call_noN {X : Nat → Prop} {w : World} {wb fuel an ac : Nat} {aa : Option Addr} {L : List Lo} {P : List Pt} {nv : Value} {tv : Option Nat} {md nm : Bs} (h : WX X w wb L P nv tv) (hmdl : md.length ≤ 1000000) (_ : an ≤ 1000000) {lo : Lo} (hlo : lo ∈ L) (hptr : ptrV L md = some ⟨lo.lb, 0, none⟩) {p : Pr} (hp : Tp.procIn lo.m nm = some p) (hsn : p.seen = true) (_ : p.params.length ≤ 1000) (hne : an ≠ p.params.length) :
    Calls Tryz.prog 27 #[.pointer (some ⟨wb, 0, none⟩), .string (bs md), .string (bs nm), .slice aa an ac, .int .i64 (fuel : Int)] w (ErrC w 2) := by
  obtain ⟨W4, hW4⟩ : ∃ W4, W4 = (((w.alloc (.cells #[.string (bs nm)] 9)).alloc (.cells #[.slice aa an ac] 29)).alloc (.cells #[.int .i64 0, .slice none 0 0] 43)).alloc (.cells #[.int .i64 0] 2) := ⟨_, rfl⟩
  obtain ⟨W5, hW5⟩ : ∃ W5, W5 = W4.alloc (.cells #[.pointer (some ⟨lo.lb, 0, none⟩)] 88) := ⟨_, rfl⟩
  have hs4 : W4.heap.size = w.heap.size + 4 := by rw [hW4]; simp
  have hb4 : Below w.heap.size w W4 := by rw [hW4]; exact ((((Below.refl _ _).alloc (Nat.le_refl _) _).alloc (by simp) _).alloc (by simp; omega) _).alloc (by simp; omega) _
  have hb45 : Below W4.heap.size W4 W5 := by rw [hW5]; exact (Below.refl _ _).alloc (Nat.le_refl _) _
  have hb5 : Below w.heap.size w W5 := hb4.trans (hb45.mono (by omega))
  have hs5 : W5.heap.size = w.heap.size + 5 := by rw [hW5]; simp [hs4]
  have q0 : W4.heap[w.heap.size]? = some (.cells #[.string (bs nm)] 9 (0, 0)) := by rw [hW4]; exact (((Below.heap_alloc _ _ _ (by simp; omega)).trans (Below.heap_alloc _ _ _ (by simp; omega))).trans (Below.heap_alloc _ _ _ (by simp))).trans (new_blk _ _)
  have q1 : W4.heap[w.heap.size + 1]? = some (.cells #[.slice aa an ac] 29 (0, 0)) := by
    have := new_blk (w.alloc (.cells #[.string (bs nm)] 9)) (.cells #[.slice aa an ac] 29)
    rw [hW4]; exact ((Below.heap_alloc _ _ _ (by simp)).trans (Below.heap_alloc _ _ _ (by simp))).trans (by simpa using this)
  have q2 : W4.heap[w.heap.size + 2]? = some (.cells #[.int .i64 0, .slice none 0 0] 43 (0, 0)) := by
    have := new_blk ((w.alloc (.cells #[.string (bs nm)] 9)).alloc (.cells #[.slice aa an ac] 29)) (.cells #[.int .i64 0, .slice none 0 0] 43)
    rw [hW4]; exact (Below.heap_alloc _ _ _ (by simp)).trans (by simpa using this)
  have q3 : W4.heap[w.heap.size + 3]? = some (.cells #[.int .i64 0] 2 (0, 0)) := by
    have := new_blk (((w.alloc (.cells #[.string (bs nm)] 9)).alloc (.cells #[.slice aa an ac] 29)).alloc (.cells #[.int .i64 0, .slice none 0 0] 43)) (.cells #[.int .i64 0] 2)
    rw [hW4]; simpa using this
  have q4 : W5.heap[w.heap.size + 4]? = some (.cells #[.pointer (some ⟨lo.lb, 0, none⟩)] 88 (0, 0)) := by
    have := new_blk W4 (.cells #[.pointer (some ⟨lo.lb, 0, none⟩)] 88)
    rw [hs4] at this
    rw [hW5]; exact this
  have p0 := (hb45.block _ (lt_blk q0)).trans q0
  have p1 := (hb45.block _ (lt_blk q1)).trans q1
  have p2 := (hb45.block _ (lt_blk q2)).trans q2
  have p3 := (hb45.block _ (lt_blk q3)).trans q3
  have hwl := lt_blk h.blk
  have k1 : W4.cell? ⟨wb, 1, none⟩ = some (.map tv) := (cell_blk ((hb4.block _ hwl).trans h.blk)).trans rfl
  have hlk : (Instr.lookup 26 (.map tv) (.string (bs md)) false).run Tryz.prog W4 = .ok (.pointer (some ⟨lo.lb, 0, none⟩)) W4 := by
    have := (h.on hb4).look md hmdl
    rw [hptr] at this
    exact this
  have k5 : W5.cell? ⟨w.heap.size + 4, 0, none⟩ = some (.pointer (some ⟨lo.lb, 0, none⟩)) := (cell_blk q4).trans rfl
  have k6 : W5.cell? ⟨w.heap.size, 0, none⟩ = some (.string (bs nm)) := (cell_blk p0).trans rfl
  have hl4 : w.heap.size + 4 < W5.heap.size := by omega
  have hl0 : w.heap.size < W5.heap.size := by omega
  have hwl4 : wb < W4.heap.size := by omega
  have HK1 := Lib.hid p1
  have HK2 := Lib.hid p2
  have HK3 := Lib.hid p3
  have HB5 := Lib.hid hb5
  have HS5 := Lib.hid hs5
  obtain ⟨tb, htv, hww⟩ := h.ww hlo
  have hww5 := hww.more hb5
  obtain ⟨⟨ia, ga, pa, ba, ic, gc, pc, bc, m1, m2⟩, _, _, _, hfit⟩ := hww5.lo lo hlo
  have HPR := Lib.hid (rprocD m1 m2 (by have := hfit.wm.pc; omega) nm)
  have HPP : Hid (∀ v, ProcP (cwF W5) lo.m nm v → ∃ pb o ya yc, v = some ⟨pb, o, none⟩ ∧ W5.cell? ⟨pb, o + 2, none⟩ = some (.bool true) ∧ W5.cell? ⟨pb, o + 3, none⟩ = some (.slice ya p.params.length yc)) := by
    intro v hv
    unfold ProcP at hv
    rw [hp] at hv
    obtain ⟨pb, o, e, q⟩ := hv
    obtain ⟨pv, vv, bv, bcs, r1, r2, r3, r4, _⟩ := q.r
    obtain ⟨ya, yc, rfl⟩ := r4.shape
    exact ⟨pb, o, ya, yc, e, by have := q.sn; rw [hsn] at this; exact this, r1⟩
  have hne' : ¬ (an : Int) = (p.params.length : Int) := by omega
  clear q0 q1 q2 q3 q4 p0 p1 p2 p3 hb4 hb45 hb5 hptr htv h hlo hww hww5 m1 m2 hfit hp hsn
  generalize bs md = lmn at *
  generalize bs nm = pnm at *
  generalize p.params.length = pn at *
  go_enter Tryz.func27, Tryz.ntmps27
  go_upto_region 1 with fail
  rw [← hW4]
  clear hW4
  go_upto_region 2 with fail
  rw [← hW5, show w.heap.size + 1 + 1 + 1 = w.heap.size + 3 from rfl, show w.heap.size + 1 + 1 = w.heap.size + 2 from rfl]
  clear hW5 hlk k1
  go_wp2_with fail
  refine HPR.out.mono ?_
  rintro e w6 ⟨v, rfl, hv, hb6⟩
  obtain ⟨pb, o, ya, yc, rfl, c2, c3⟩ := HPP.out v hv
  have c2' : w6.cell? ⟨pb, o + 2, none⟩ = some (.bool true) := (hb6.cell (p := ⟨pb, o + 2, none⟩) (lt_of_cell c2)).trans c2
  have c3' : w6.cell? ⟨pb, o + 3, none⟩ = some (.slice ya pn yc) := (hb6.cell (p := ⟨pb, o + 3, none⟩) (lt_of_cell c3)).trans c3
  have hpl : pb < w6.heap.size := lt_of_cell c2'
  have HB6 := Lib.hid hb6
  have k8 : w6.cell? ⟨w.heap.size + 1, 0, none⟩ = some (.slice aa an ac) := (cell_blk ((hb6.block _ (lt_blk HK1.out)).trans HK1.out)).trans rfl
  have hl1 : w.heap.size + 1 < w6.heap.size := lt_of_cell k8
  clear hv hb6 c2 c3 k5 k6 HPR HPP
  go_upto_region 7 with fail
  go_quiet (fail)
  obtain ⟨w7, hw7⟩ : ∃ w7, w7 = w6.drewN nq := ⟨_, rfl⟩
  have HB7 : Hid (Below W5.heap.size W5 w7) := by rw [hw7]; exact below_drewN HB6.out _
  rw [← hw7]
  clear hw7 c2' c3' k8
  have hE := (HB7.out.block _ (lt_blk HK2.out)).trans HK2.out
  have hN := (HB7.out.block _ (lt_blk HK3.out)).trans HK3.out
  have e0 : w7.cell? ⟨w.heap.size + 2, 0, none⟩ = some (.int .i64 0) := (cell_blk hE).trans rfl
  have e1 : w7.cell? ⟨w.heap.size + 2, 1, none⟩ = some (.slice none 0 0) := (cell_blk hE).trans rfl
  have ez : ∀ j, w7.frozen? ⟨w.heap.size + 2, j, none⟩ = false := fun j => frozen_blk hE
  have nz : ∀ j, w7.frozen? ⟨w.heap.size + 3, j, none⟩ = false := fun j => frozen_blk hN
  have n0 : w7.cell? ⟨w.heap.size + 3, 0, none⟩ = some (.int .i64 0) := (cell_blk hN).trans rfl
  have hel := lt_blk hE
  have hnl := lt_blk hN
  obtain ⟨w11, hw11⟩ : ∃ w11, w11 = ((w7.setCell ⟨w.heap.size + 2, 0, none⟩ (.int .i64 0)).setCell ⟨w.heap.size + 2, 1, none⟩ (.slice none 0 0)).setCell ⟨w.heap.size + 3, 0, none⟩ (.int .i64 0) := ⟨_, rfl⟩
  have hEb : w11.heap[w.heap.size + 2]? = some (.cells #[.int .i64 0, .slice none 0 0] 43 (0, 0)) := by
    rw [hw11]
    exact (set_frame _ (by omega)).trans (set_blk 1 (.slice none 0 0) (set_blk 0 (.int .i64 0) hE))
  have hNb : w11.heap[w.heap.size + 3]? = some (.cells #[.int .i64 0] 2 (0, 0)) := by
    rw [hw11]
    exact set_blk 0 (.int .i64 0) ((set_frame _ (by omega)).trans ((set_frame _ (by omega)).trans hN))
  have g0 : w11.cell? ⟨w.heap.size + 2, 0, none⟩ = some (.int .i64 0) := (cell_blk hEb).trans rfl
  have g1 : w11.cell? ⟨w.heap.size + 2, 1, none⟩ = some (.slice none 0 0) := (cell_blk hEb).trans rfl
  have g2 : w11.cell? ⟨w.heap.size + 3, 0, none⟩ = some (.int .i64 0) := (cell_blk hNb).trans rfl
  have HR : Hid (ErrC w 2 (.returned (.tuple #[no2, .int .i64 0, .iface 44 (.int .i64 2)])) w11) := by
    refine ⟨?_, rfl⟩
    rw [hw11]
    exact below_set (below_set (below_set (HB5.out.trans (HB7.out.mono (by have := HS5.out; omega))) (by omega) 0 _) (by omega) 1 _) (by omega) 0 _
  clear hE hN hEb hNb
  go_wp2_with fail
  rw [← hw11]
  exact bodyPost_ret (v := .tuple #[no2, .int .i64 0, .iface 44 (.int .i64 2)]) (by simp [results, Tryz.results27, go_sem, no2, g0, g1, g2]) rfl HR.out
def CallQ (X U : Nat → Prop) (c : Nat) (w : World) (wb : Nat) (a : Tp.Ans) (e : Ending) (w' : World) : Prop := ∃ oa oc ev, e = .returned (.tuple #[.agg #[.int .i64 (a.e.way : Int), .slice oa a.e.out.length oc], .int .i64 a.n, ev]) ∧ AnsP X U c w wb a oa w' ∧ EvT w.heap.size w' a.err ev
theorem ansP_below {X U : Nat → Prop} {c : Nat} {w w' : World} {wb : Nat} {P : List Pt} {er : Nat × Option Nat} {n : Int} (h : WZ X U c w wb P) (hb : Below w.heap.size w w') : AnsP X U c w wb ⟨P, Tp.no, n, some er⟩ none w' :=
  ⟨⟨U, (h.on hb).more (by omega), Tr.below hb⟩, ⟨fun i hi => (by cases hi)⟩, (fun v hv => (by cases hv)), (by show (0 : Nat) ≤ 200; omega), fun x hx => (by cases hx)⟩
theorem proc_seen {m : Tp.M} {nm : Bs} (hn : (m.procs.map (·.name)).Nodup) : (m.procs.find? fun q => q.name == nm && q.seen) = (Tp.procIn m nm).bind fun p => if p.seen then some p else none := by
  unfold Tp.procIn
  generalize m.procs = l at *
  induction l with
  | nil => rfl
  | cons q t ih =>
    rw [List.map_cons, List.nodup_cons] at hn
    by_cases e : q.name = nm
    · rw [List.find?_cons_of_pos (a := q) (p := fun q => q.name == nm) (by simpa using e)]
      simp only [Option.bind_some]
      by_cases hs : q.seen = true
      · rw [List.find?_cons_of_pos (by simp [e, hs]), if_pos hs]
      · rw [List.find?_cons_of_neg (by simp [hs]), if_neg hs, List.find?_eq_none]
        intro x hx q2
        simp only [Bool.and_eq_true, beq_iff_eq] at q2
        exact hn.1 (List.mem_map.2 ⟨x, hx, q2.1.trans e.symm⟩)
    · rw [List.find?_cons_of_neg (by simp [e]), List.find?_cons_of_neg (by simpa using e)]
      exact ih hn.2
theorem call_any {X U : Nat → Prop} {c : Nat} {w : World} {wb fuel ac : Nat} {aa : Option Addr} {P : List Pt} {md nm : Bs} {vs : List Int} (h : WZ X U c w wb P) (hf : fuel ≤ 800000) (hmdl : md.length ≤ 1000000) (hvi : ∀ v ∈ vs, Tp.I64 v) (hia : IntsAt w vs aa) (hvn : vs.length ≤ 1000000) :
    Calls Tryz.prog 27 #[.pointer (some ⟨wb, 0, none⟩), .string (bs md), .string (bs nm), .slice aa vs.length ac, .int .i64 (fuel : Int)] w (CallQ X U c w wb (Tp.callW P md nm vs fuel)) := by
  obtain ⟨L, nv, tv, hwx, hL, hWI, hU, hmc, hnP⟩ := id h
  have herr : ∀ er : Nat, (∀ e w', ErrC w (er : Int) e w' → CallQ X U c w wb ⟨P, Tp.no, 0, some (er, none)⟩ e w') := fun er e w' q => ⟨none, 0, _, q.2, ansP_below h q.1, rfl⟩
  have e7 : ((7 : Nat) : Int) = 7 := rfl
  have e2 : ((2 : Nat) : Int) = 2 := rfl
  unfold Tp.callW
  rcases ptr_part hwx md with ⟨hp1, hp2⟩ | ⟨p, lo, hlo, hp1, hpm, hlm, hp2⟩
  · rw [hp1]
    exact (call_noM hwx hmdl hvn hp2).mono (fun e w' q => herr 7 e w' q)
  · rw [hp1]
    obtain ⟨tb, rfl, hww⟩ := hwx.ww hlo
    have hfit := (hww.lo lo hlo).2.2.2.2
    simp only [Option.bind_some]
    rw [hpm, proc_seen hfit.pn]
    cases hpr : Tp.procIn lo.m nm with
    | none => exact (call_noP hwx hmdl hvn hlo hp2 hpr).mono (fun e w' q => herr 7 e w' q)
    | some pr =>
      simp only [Option.bind_some]
      have hprm : pr ∈ lo.m.procs := List.mem_of_find?_eq_some hpr
      by_cases hsn : pr.seen = true
      · rw [if_pos hsn]
        simp only
        by_cases hlen : pr.params.length = vs.length
        · rw [if_neg (by simpa using hlen)]
          have hsz : SizeOf.sizeOf pr.body ≤ Tp.bodySz P := Tp.bodySz_bd P 0 [] p (List.mem_of_find?_eq_some hp1) pr (by rw [hpm]; exact hprm)
          have hg := Tp.callP_enough (fuel := fuel) (md := md) (vs := vs) (out := []) hsz
          have hcall := call_ok (ac := ac) (gas := Tp.nd (Tp.bodySz P) fuel 0) hww hf hlo hpr hsn hlen.symm hvi hia (by rw [hlm]; exact hmdl) hvn (by rw [hlm]; exact hg)
          have hWIa := Tp.WI.call (md := md) (pn := nm) (args := vs) (f := fuel) hWI
          have hwa : (Tp.callW P md nm vs fuel).w = (Tp.endOf (Tp.callP (Tp.nd (Tp.bodySz P) fuel 0) 0 md pr vs ⟨P, fuel, []⟩)).1 := by
            unfold Tp.callW
            rw [hp1]
            simp only [Option.bind_some]
            rw [hpm, proc_seen hfit.pn, hpr]
            simp only [Option.bind_some]
            rw [if_pos hsn]
            simp only
            rw [if_neg (by simpa using hlen)]
          rw [hwa] at hWIa
          rw [hlm] at hcall
          refine hcall.mono ?_
          rintro e w' ⟨oa, oc, he, q1, q2, q3, q4, q5, q6, q7, q8, q9, q10⟩
          refine ⟨oa, oc, .nilIface, ?_, ⟨⟨U, ⟨L, nv, some tb, q1, hL, hWIa, hU, (fun tb' e' => ?_), fun x hx => hnP x (by rw [hwx.mw, ← q1.mw]; exact hx)⟩, ⟨q6, q7, q8, q5, fun b hb hu => q4 b hb (fun z => hu ((hU b).2 (Or.inl z))), fun b hb => Or.inl hb⟩⟩, q2, q3, q9, q10⟩, rfl⟩
          · rw [he]
            unfold nOf
            cases Tp.callP (Tp.nd (Tp.bodySz P) fuel 0) 0 md pr vs ⟨P, fuel, []⟩ <;> rfl
          · cases e'
            obtain ⟨n, r1, r2⟩ := hmc tb rfl
            exact ⟨n, by omega, r2.on (q4 _ r2.lt hww.tx.2.2)⟩
        · rw [if_pos (by simpa using hlen)]
          exact (call_noN hwx hmdl hvn hlo hp2 hpr hsn (by have := (hfit.wm.p pr hprm).c; omega) (fun e => hlen e.symm)).mono (fun e w' q => herr 2 e w' q)
      · rw [if_neg hsn]
        exact (call_noS hwx hmdl hvn hlo hp2 hpr (by simpa using hsn)).mono (fun e w' q => herr 7 e w' q)
end Go.Proofs.YtibncofnnlbmcaaGreatDoor
/- Chapter 4: Load, Swap, whatever is there: one form. -/
namespace Go.Proofs.YtibncofnnlbmcaaGreatDoor
open Go.RowKit Go.Maps
open Tp (Bs X S G Pr Pt Rs Rr Own)

theorem WZ.eqU {X U : Nat → Prop} {c : Nat} {w : World} {wb : Nat} {P : List Pt} (h : WZ X U c w wb P) : ∃ L nv tv, U = Mut L wb tv nv ∧ WX X w wb L P nv tv ∧ L.length ≤ 10 ∧ Tp.WI ofS P ∧ MapC w tv L c ∧ ∀ m ∈ Tp.ms P, Tp.nM m ≤ 1000 := by
  obtain ⟨L, nv, tv, h1, h2, h3, h4, h5, h6⟩ := h
  exact ⟨L, nv, tv, funext fun b => propext (h4 b), h1, h2, h3, h5, h6⟩
theorem load_anyZ {X U D : Nat → Prop} {c : Nat} {w : World} {wb fuel : Nat} {P : List Pt} {m : Tp.M} {ia ga pa ba : Option Addr} {ic gc pc bc : Nat} (h : WZ X U c w wb P) (hX : ∀ b, X b → b < w.heap.size) (hc : c ≤ 90) (hmb : MB w w.heap.size m ia ga pa ba ic gc pc bc) (hmd : MD w D m ia ga pa ba ic gc pc bc) (hD : ∀ b, D b → b < w.heap.size → ¬ X b ∧ ¬ U b) (hm : Tp.WM m) (hnm : Tp.nM m ≤ 1000) (hf : fuel ≤ 800000) :
    Calls Tryz.prog 17 #[.pointer (some ⟨wb, 0, none⟩), .agg (mcells (bs m.name) (.slice ia m.imports.length ic) (.slice ga m.vars.length gc) (.slice pa m.procs.length pc) (.slice ba m.body.length bc)), .int .i64 (fuel : Int)] w (LoadQ X U c w wb (Tp.loadW ofS P m fuel)) := by
  have herr : ∀ er : Nat × Option Nat, (∀ e w', ErrP w er e w' → LoadQ X U c w wb ⟨P, Tp.no, 0, some er⟩ e w') := fun er e w' q => by
    obtain ⟨hb, v, he, hev⟩ := q
    exact ⟨none, 0, v, he, Nat.le_refl _, ansP_below h hb, hev⟩
  obtain ⟨L, nv, tv, rfl, hwx, hL, hWI, hmc, hnP⟩ := h.eqU
  have hPL : P.length = L.length := by have := congrArg List.length hwx.mw; simpa [Tp.ms] using this
  have hval : ∀ v, Tp.loadW ofS P m fuel = v → Calls Tryz.prog 17 #[.pointer (some ⟨wb, 0, none⟩), .agg (mcells (bs m.name) (.slice ia m.imports.length ic) (.slice ga m.vars.length gc) (.slice pa m.procs.length pc) (.slice ba m.body.length bc)), .int .i64 (fuel : Int)] w (LoadQ X (Mut L wb tv nv) c w wb v) → Calls Tryz.prog 17 #[.pointer (some ⟨wb, 0, none⟩), .agg (mcells (bs m.name) (.slice ia m.imports.length ic) (.slice ga m.vars.length gc) (.slice pa m.procs.length pc) (.slice ba m.body.length bc)), .int .i64 (fuel : Int)] w (LoadQ X (Mut L wb tv nv) c w wb (Tp.loadW ofS P m fuel)) := fun v e k => by rw [e]; exact k
  rcases ptr_part hwx m.name with ⟨hp1, hp2⟩ | ⟨p, lo, hlo, hp1, hpm, hlm, hp2⟩
  · cases hck : Tp.check m (Tp.seenW ofS P) with
    | some er =>
      have e : Tp.loadW ofS P m fuel = ⟨P, Tp.no, 0, some er⟩ := by
        unfold Tp.loadW
        rw [if_neg (by rw [hp1]; simp), hck]
      refine hval _ e ?_
      obtain ⟨en, po⟩ := er
      cases po with
      | none => exact (load_badA hwx hL hmb hm hp2 hck).mono (fun e w' q => herr _ e w' q)
      | some pl => exact (load_badB hwx hL hmb hm hp2 hck).mono (fun e w' q => herr _ e w' q)
    | none =>
      by_cases hl : L.length < 10
      · exact loadA_ok hwx hL hmb hm hX hl hWI hmc hc hmd hD hf hnP hnm hp1 hp2 hck
      · have e : Tp.loadW ofS P m fuel = ⟨P, Tp.no, 0, some (12, none)⟩ := by
          unfold Tp.loadW
          rw [if_neg (by rw [hp1]; simp), hck]
          simp only
          rw [if_pos (by omega)]
        exact hval _ e ((load_fullA hwx hL hmb hm hp2 hck (by omega)).mono (fun e w' q => herr _ e w' q))
  · have e : Tp.loadW ofS P m fuel = ⟨P, Tp.no, 0, some (9, none)⟩ := by
      unfold Tp.loadW
      rw [if_pos (by rw [hp1]; rfl)]
    exact hval _ e ((load_twice hwx hL hmb hm hp2).mono (fun e w' q => herr _ e w' q))
theorem swap_anyZ {X U D : Nat → Prop} {c : Nat} {w : World} {wb : Nat} {P : List Pt} {m : Tp.M} {ia ga pa ba : Option Addr} {ic gc pc bc : Nat} (h : WZ X U c w wb P) (hX : ∀ b, X b → b < w.heap.size) (hc : c ≤ 90) (hmb : MB w w.heap.size m ia ga pa ba ic gc pc bc) (hmd : MD w D m ia ga pa ba ic gc pc bc) (hD : ∀ b, D b → b < w.heap.size → ¬ X b ∧ ¬ U b) (hm : Tp.WM m) (hnm : Tp.nM m ≤ 1000) :
    Calls Tryz.prog 18 #[.pointer (some ⟨wb, 0, none⟩), .agg (mcells (bs m.name) (.slice ia m.imports.length ic) (.slice ga m.vars.length gc) (.slice pa m.procs.length pc) (.slice ba m.body.length bc))] w (SwapQ X U c w wb (Tp.swapW ofS P m)) := by
  have herr : ∀ er : Nat × Option Nat, (∀ e w', ErrS w er e w' → SwapQ X U c w wb ⟨P, Tp.no, 0, some er⟩ e w') := fun er e w' q => by
    obtain ⟨hb, v, he, hev⟩ := q
    exact ⟨v, he, ⟨U, (h.on hb).more (by omega), Tr.below hb⟩, hev⟩
  obtain ⟨L, nv, tv, rfl, hwx, hL, hWI, hmc, hnP⟩ := h.eqU
  have hval : ∀ v, Tp.swapW ofS P m = v → Calls Tryz.prog 18 #[.pointer (some ⟨wb, 0, none⟩), .agg (mcells (bs m.name) (.slice ia m.imports.length ic) (.slice ga m.vars.length gc) (.slice pa m.procs.length pc) (.slice ba m.body.length bc))] w (SwapQ X (Mut L wb tv nv) c w wb v) → Calls Tryz.prog 18 #[.pointer (some ⟨wb, 0, none⟩), .agg (mcells (bs m.name) (.slice ia m.imports.length ic) (.slice ga m.vars.length gc) (.slice pa m.procs.length pc) (.slice ba m.body.length bc))] w (SwapQ X (Mut L wb tv nv) c w wb (Tp.swapW ofS P m)) := fun v e k => by rw [e]; exact k
  rcases ptr_part hwx m.name with ⟨hp1, hp2⟩ | ⟨p, lo, hlo, hp1, hpm, hlm, hp2⟩
  · have e : Tp.swapW ofS P m = ⟨P, Tp.no, 0, some (7, none)⟩ := by unfold Tp.swapW; rw [hp1]
    exact hval _ e ((swap_none hwx hL hmb hm hp2).mono (fun e w' q => herr _ e w' q))
  · cases hck : Tp.check m (Tp.seenW ofS P) with
    | some er =>
      have e : Tp.swapW ofS P m = ⟨P, Tp.no, 0, some er⟩ := by
        unfold Tp.swapW
        rw [hp1]
        simp only
        rw [hck]
      refine hval _ e ?_
      obtain ⟨en, po⟩ := er
      cases po with
      | none => exact (swap_badA hwx hL hmb hm hp2 hck).mono (fun e w' q => herr _ e w' q)
      | some pl => exact (swap_badB hwx hL hmb hm hp2 hck).mono (fun e w' q => herr _ e w' q)
    | none =>
      by_cases hcy : ∃ n ∈ m.imports, Tp.Leads P n m.name
      · have e : Tp.swapW ofS P m = ⟨P, Tp.no, 0, some (11, none)⟩ := by
          unfold Tp.swapW
          rw [hp1]
          simp only
          rw [hck]
          simp only
          rw [if_pos hcy]
        refine hval _ e ((swap_cyc hwx hL hmb hm hlo hlm hp2 hWI hnP hck ?_).mono (fun e w' q => herr _ e w' q))
        obtain ⟨n, h1, h2⟩ := hcy
        exact List.any_eq_true.2 ⟨n, h1, by simpa using h2⟩
      · have hcy' : (m.imports.any fun n => @decide (Tp.Leads P n m.name) (Classical.propDecidable _)) = false := by
          rw [List.any_eq_false]
          intro n hn
          simpa using fun q => hcy ⟨n, hn, q⟩
        by_cases ho : othB P m p.m = true
        · have e : Tp.swapW ofS P m = ⟨P, Tp.no, 0, some (6, none)⟩ := by
            unfold Tp.swapW
            rw [hp1]
            simp only
            rw [hck]
            simp only
            rw [if_neg hcy]
            exact if_pos ho
          exact hval _ e ((swap_oth hwx hL hmb hm hlo hlm hp2 hWI hnP hck hcy' (by rw [← hpm]; exact ho)).mono (fun e w' q => herr _ e w' q))
        · have e : Tp.swapW ofS P m = ⟨Tp.putM P m, Tp.no, 0, none⟩ := by
            unfold Tp.swapW
            rw [hp1]
            simp only
            rw [hck]
            simp only
            rw [if_neg hcy]
            exact if_neg ho
          have hWI2 : Tp.WI ofS (Tp.putM P m) := Tp.WI.put ofS_ok hWI hp1 hck hcy (fun q hq n hn => by
            have ho' : othB P m p.m = false := by simpa using ho
            unfold othB at ho'
            rw [List.any_eq_false] at ho'
            have := ho' q hq
            rw [Bool.not_eq_true, List.any_eq_false] at this
            simpa using this n hn)
          obtain ⟨tb, rfl, _⟩ := hwx.ww hlo
          refine hval _ e ((swapA_ok hwx hL hmb hm rfl hX hmc hc hmd hD hnm hp1 hWI2 hlo hlm hp2 hWI hnP hck hcy' (by rw [← hpm]; simpa using ho)).mono ?_)
          rintro e w' ⟨he, hz⟩
          exact ⟨_, he, hz, rfl⟩
end Go.Proofs.YtibncofnnlbmcaaGreatDoor
