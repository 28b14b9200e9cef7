/- Reading: what others see, a variable, a procedure, an instruction. -/
import Derived.Test.YtljnddcddclmeaaJ5
namespace Go.Proofs.Ytljnddcddclmeaa
open Go.RowKit
open Ob (Bs)

def VSm (s : Ob.Sm) (v : Value) (_ : World) : Prop := v = .agg #[.string (bs s.name), .int .i64 s.len, .int .i64 s.args]
def VGl (g : Ob.Gl) (v : Value) (_ : World) : Prop := v = .agg #[.string (bs g.name), .int .i64 g.at', .int .i64 g.len, .bool g.seen]
def VEn (e : Ob.En) (v : Value) (_ : World) : Prop := v = .agg #[.int .i64 e.at', .int .i64 e.args, .int .i64 e.locals]
def VIn (x : Ob.In) (v : Value) (_ : World) : Prop := v = .agg #[.int .i64 x.op, .int .i64 x.a, .int .i64 x.b]
theorem Rst.ext {w w' : World} {rb : Nat} {l : Bs} (h : Rst w rb l) (k : Below w.heap.size w w') : Rst w' rb l := by
  have hl := lt_of_cell h.c
  exact ⟨(k.cell (p := ⟨rb, 0, none⟩) hl).trans h.c, (k.frozen (p := ⟨rb, 0, none⟩) hl).trans h.fz, h.n⟩
theorem Rst.belowB {w w' : World} {rb B : Nat} {l : Bs} (h : Rst w rb l) (k : Below B w w') (hb : rb < B) : Rst w' rb l :=
  ⟨(k.cell (p := ⟨rb, 0, none⟩) hb).trans h.c, (k.frozen (p := ⟨rb, 0, none⟩) hb).trans h.fz, h.n⟩
theorem Rst.other {w w' : World} {rb b : Nat} {l : Bs} (h : Rst w rb l) (k : Ext b w w') (hb : rb ≠ b) : Rst w' rb l := by
  have hl := lt_of_cell h.c
  have e := k.block rb hl hb
  exact ⟨(World.cell?_of_block e).trans h.c, by have := h.fz; simp only [World.frozen?] at this ⊢; rw [e]; exact this, h.n⟩
theorem Ext.new {rb b : Nat} {w w1 w2 : World} (h : Ext rb w w1) (k : Ext b w1 w2) (hb : w.heap.size ≤ b) : Ext rb w w2 := h.trans' (k.toBelow hb h.size)
theorem set3_out {w : World} {b : Nat} {u0 u1 u2 : Value} (v0 v1 v2 : Value) {t : TypeId} (h : w.heap[b]? = some (.cells #[u0, u1, u2] t (0, 0))) :
    (((w.setCell ⟨b, 0, none⟩ v0).setCell ⟨b, 1, none⟩ v1).setCell ⟨b, 2, none⟩ v2).heap[b]? = some (.cells #[v0, v1, v2] t (0, 0)) ∧ Ext b w (((w.setCell ⟨b, 0, none⟩ v0).setCell ⟨b, 1, none⟩ v1).setCell ⟨b, 2, none⟩ v2) :=
  ⟨set_blk 2 v2 (set_blk 1 v1 (set_blk 0 v0 h)), (((Ext.refl _ _).set 0 _).set 1 _).set 2 _⟩
theorem set4_out {w : World} {b : Nat} {u0 u1 u2 u3 : Value} (v0 v1 v2 v3 : Value) {t : TypeId} (h : w.heap[b]? = some (.cells #[u0, u1, u2, u3] t (0, 0))) :
    ((((w.setCell ⟨b, 0, none⟩ v0).setCell ⟨b, 1, none⟩ v1).setCell ⟨b, 2, none⟩ v2).setCell ⟨b, 3, none⟩ v3).heap[b]? = some (.cells #[v0, v1, v2, v3] t (0, 0)) ∧ Ext b w ((((w.setCell ⟨b, 0, none⟩ v0).setCell ⟨b, 1, none⟩ v1).setCell ⟨b, 2, none⟩ v2).setCell ⟨b, 3, none⟩ v3) :=
  ⟨set_blk 3 v3 (set_blk 2 v2 (set_blk 1 v1 (set_blk 0 v0 h))), ((((Ext.refl _ _).set 0 _).set 1 _).set 2 _).set 3 _⟩
set_option maxRecDepth 100000 in
set_option maxHeartbeats 400000 in
theorem sym_any {w : World} {rb : Nat} {l : Bs} (h : Rst w rb l) :
    Calls Try.prog 64 #[.pointer (some ⟨rb, 0, none⟩)] w fun e w' => Rp rb w VSm (Ob.symR l) e w' := by
  have hrl := lt_of_cell h.c
  have hb0 : Below w.heap.size w (w.alloc (.cells #[.string ⟨#[]⟩, .int .i64 0, .int .i64 0] 53)) := (Below.refl _ _).alloc (Nat.le_refl _) _
  have hk0 : (w.alloc (.cells #[.string ⟨#[]⟩, .int .i64 0, .int .i64 0] 53)).heap[w.heap.size]? = some (.cells #[.string ⟨#[]⟩, .int .i64 0, .int .i64 0] 53 (0, 0)) := new_blk _ _
  have hR : Ob.symR l = (Ob.txtR l).bind fun x => (Ob.numR x.2).bind fun y => (Ob.numR y.2).map fun z => (⟨x.1, y.1, z.1⟩, z.2) := rfl
  have HR := Lib.hid hR
  clear hR
  generalize Ob.symR l = resT at *
  go_enter Try.func64, Try.ntmps64
  go_wp2_with fail
  generalize w.alloc (.cells #[.string ⟨#[]⟩, .int .i64 0, .int .i64 0] 53) = w0 at *
  have HX0 : Hid (Ext rb w w0) := Ext.below hb0
  have HK0 := Lib.hid hk0
  have HC := Lib.hid (text_any (h.ext hb0))
  clear h hb0 hk0
  generalize Ob.txtR l = res at *
  refine HC.out.mono ?_
  intro e w1 hq
  rcases res with _ | ⟨x, r1⟩
  · obtain ⟨rfl, hx⟩ := hq
    unfold thrown
    go_wp2_with fail
    rw [HR.out]
    exact ⟨rfl, rfl, HX0.out.trans hx⟩
  · obtain ⟨v, rfl, rfl, hst, hx⟩ := hq
    have HX1 := Lib.hid (HX0.out.trans hx)
    have HK1 : Hid (w1.heap[w.heap.size]? = some (.cells #[.string ⟨#[]⟩, .int .i64 0, .int .i64 0] 53 (0, 0))) := (hx.block _ (lt_blk HK0.out) (by omega)).trans HK0.out
    have HC1 := Lib.hid (int_any hst)
    have HR1 : Hid (resT = (Ob.numR r1).bind fun y => (Ob.numR y.2).map fun z => (⟨x, y.1, z.1⟩, z.2)) := HR
    clear hx hst HC HR HX0 HK0
    generalize Ob.numR r1 = res at *
    go_wp2_with fail
    refine HC1.out.mono ?_
    intro e w2 hq
    rcases res with _ | ⟨y, r2⟩
    · obtain ⟨rfl, hx⟩ := hq
      unfold thrown
      go_wp2_with fail
      rw [HR1.out]
      exact ⟨rfl, rfl, HX1.out.trans hx⟩
    · obtain ⟨v, rfl, rfl, hst, hx⟩ := hq
      have HX2 := Lib.hid (HX1.out.trans hx)
      have HK2 : Hid (w2.heap[w.heap.size]? = some (.cells #[.string ⟨#[]⟩, .int .i64 0, .int .i64 0] 53 (0, 0))) := (hx.block _ (lt_blk HK1.out) (by omega)).trans HK1.out
      have HC2 := Lib.hid (int_any hst)
      have HR2 : Hid (resT = (Ob.numR r2).map fun z => (⟨x, y, z.1⟩, z.2)) := HR1
      clear hx hst HC1 HR1 HX1 HK1
      generalize Ob.numR r2 = res at *
      go_wp2_with fail
      refine HC2.out.mono ?_
      intro e w3 hq
      rcases res with _ | ⟨z, r3⟩
      · obtain ⟨rfl, hx⟩ := hq
        unfold thrown
        go_wp2_with fail
        rw [HR2.out]
        exact ⟨rfl, rfl, HX2.out.trans hx⟩
      · obtain ⟨v, rfl, rfl, hst, hx⟩ := hq
        have HX3 := Lib.hid (HX2.out.trans hx)
        have hk3 := (hx.block _ (lt_blk HK2.out) (by omega)).trans HK2.out
        have HST := Lib.hid hst
        have k0 : w3.cell? ⟨w.heap.size, 0, none⟩ = some (.string ⟨#[]⟩) := cell_blk hk3
        have k1 : w3.cell? ⟨w.heap.size, 1, none⟩ = some (.int .i64 0) := cell_blk hk3
        have k2 : w3.cell? ⟨w.heap.size, 2, none⟩ = some (.int .i64 0) := cell_blk hk3
        have kf : ∀ i, w3.frozen? ⟨w.heap.size, i, none⟩ = false := fun i => frozen_blk hk3
        have HK3 := Lib.hid hk3
        clear hx hst HC2 HX2 HK2 hk3
        go_wp2_with fail
        obtain ⟨hs1, hs2⟩ := set3_out (.string (bs x)) (.int .i64 y) (.int .i64 z) HK3.out
        have hst' := HST.out.other hs2 (by omega)
        have hx' := HX3.out.new hs2 (Nat.le_refl _)
        generalize ((w3.setCell ⟨w.heap.size, 0, none⟩ (.string (bs x))).setCell ⟨w.heap.size, 1, none⟩ (.int .i64 y)).setCell ⟨w.heap.size, 2, none⟩ (.int .i64 z) = wd at *
        have d0 : wd.cell? ⟨w.heap.size, 0, none⟩ = some (.string (bs x)) := cell_blk hs1
        have d1 : wd.cell? ⟨w.heap.size, 1, none⟩ = some (.int .i64 y) := cell_blk hs1
        have d2 : wd.cell? ⟨w.heap.size, 2, none⟩ = some (.int .i64 z) := cell_blk hs1
        refine bodyPost_ret (v := .agg #[.string (bs x), .int .i64 y, .int .i64 z]) (by simp [results, Try.results64, go_sem, d0, d1, d2]) rfl ?_
        rw [HR2.out]
        exact ⟨_, rfl, rfl, hst', hx'⟩
set_option maxRecDepth 100000 in
set_option maxHeartbeats 400000 in
theorem global_any {w : World} {rb : Nat} {l : Bs} (h : Rst w rb l) :
    Calls Try.prog 68 #[.pointer (some ⟨rb, 0, none⟩)] w fun e w' => Rp rb w VGl (Ob.glR l) e w' := by
  have hrl := lt_of_cell h.c
  have hb0 : Below w.heap.size w (w.alloc (.cells #[.string ⟨#[]⟩, .int .i64 0, .int .i64 0, .bool false] 57)) := (Below.refl _ _).alloc (Nat.le_refl _) _
  have hk0 : (w.alloc (.cells #[.string ⟨#[]⟩, .int .i64 0, .int .i64 0, .bool false] 57)).heap[w.heap.size]? = some (.cells #[.string ⟨#[]⟩, .int .i64 0, .int .i64 0, .bool false] 57 (0, 0)) := new_blk _ _
  have hR : Ob.glR l = (Ob.txtR l).bind fun x => (Ob.numR x.2).bind fun y => (Ob.flagR y.2).map fun z => (⟨x.1, 0, y.1, z.1⟩, z.2) := rfl
  have HR := Lib.hid hR
  clear hR
  generalize Ob.glR l = resT at *
  go_enter Try.func68, Try.ntmps68
  go_wp2_with fail
  generalize w.alloc (.cells #[.string ⟨#[]⟩, .int .i64 0, .int .i64 0, .bool false] 57) = w0 at *
  have HX0 : Hid (Ext rb w w0) := Ext.below hb0
  have HK0 := Lib.hid hk0
  have HC := Lib.hid (text_any (h.ext hb0))
  clear h hb0 hk0
  generalize Ob.txtR l = res at *
  refine HC.out.mono ?_
  intro e w1 hq
  rcases res with _ | ⟨x, r1⟩
  · obtain ⟨rfl, hx⟩ := hq
    unfold thrown
    go_wp2_with fail
    rw [HR.out]
    exact ⟨rfl, rfl, HX0.out.trans hx⟩
  · obtain ⟨v, rfl, rfl, hst, hx⟩ := hq
    have HX1 := Lib.hid (HX0.out.trans hx)
    have HK1 : Hid (w1.heap[w.heap.size]? = some (.cells #[.string ⟨#[]⟩, .int .i64 0, .int .i64 0, .bool false] 57 (0, 0))) := (hx.block _ (lt_blk HK0.out) (by omega)).trans HK0.out
    have HC1 := Lib.hid (int_any hst)
    have HR1 : Hid (resT = (Ob.numR r1).bind fun y => (Ob.flagR y.2).map fun z => (⟨x, 0, y.1, z.1⟩, z.2)) := HR
    clear hx hst HC HR HX0 HK0
    generalize Ob.numR r1 = res at *
    go_wp2_with fail
    refine HC1.out.mono ?_
    intro e w2 hq
    rcases res with _ | ⟨y, r2⟩
    · obtain ⟨rfl, hx⟩ := hq
      unfold thrown
      go_wp2_with fail
      rw [HR1.out]
      exact ⟨rfl, rfl, HX1.out.trans hx⟩
    · obtain ⟨v, rfl, rfl, hst, hx⟩ := hq
      have HX2 := Lib.hid (HX1.out.trans hx)
      have HK2 : Hid (w2.heap[w.heap.size]? = some (.cells #[.string ⟨#[]⟩, .int .i64 0, .int .i64 0, .bool false] 57 (0, 0))) := (hx.block _ (lt_blk HK1.out) (by omega)).trans HK1.out
      have HC2 := Lib.hid (flag_any hst)
      have HR2 : Hid (resT = (Ob.flagR r2).map fun z => (⟨x, 0, y, z.1⟩, z.2)) := HR1
      clear hx hst HC1 HR1 HX1 HK1
      generalize Ob.flagR r2 = res at *
      go_wp2_with fail
      refine HC2.out.mono ?_
      intro e w3 hq
      rcases res with _ | ⟨z, r3⟩
      · obtain ⟨rfl, hx⟩ := hq
        unfold thrown
        go_wp2_with fail
        rw [HR2.out]
        exact ⟨rfl, rfl, HX2.out.trans hx⟩
      · obtain ⟨v, rfl, rfl, hst, hx⟩ := hq
        have HX3 := Lib.hid (HX2.out.trans hx)
        have hk3 := (hx.block _ (lt_blk HK2.out) (by omega)).trans HK2.out
        have HST := Lib.hid hst
        have k0 : w3.cell? ⟨w.heap.size, 0, none⟩ = some (.string ⟨#[]⟩) := cell_blk hk3
        have k1 : w3.cell? ⟨w.heap.size, 1, none⟩ = some (.int .i64 0) := cell_blk hk3
        have k2 : w3.cell? ⟨w.heap.size, 2, none⟩ = some (.int .i64 0) := cell_blk hk3
        have k3 : w3.cell? ⟨w.heap.size, 3, none⟩ = some (.bool false) := cell_blk hk3
        have kf : ∀ i, w3.frozen? ⟨w.heap.size, i, none⟩ = false := fun i => frozen_blk hk3
        have HK3 := Lib.hid hk3
        clear hx hst HC2 HX2 HK2 hk3
        go_wp2_with fail
        obtain ⟨hs1, hs2⟩ := set4_out (.string (bs x)) (.int .i64 0) (.int .i64 y) (.bool z) HK3.out
        have hst' := HST.out.other hs2 (by omega)
        have hx' := HX3.out.new hs2 (Nat.le_refl _)
        generalize (((w3.setCell ⟨w.heap.size, 0, none⟩ (.string (bs x))).setCell ⟨w.heap.size, 1, none⟩ (.int .i64 0)).setCell ⟨w.heap.size, 2, none⟩ (.int .i64 y)).setCell ⟨w.heap.size, 3, none⟩ (.bool z) = wd at *
        have d0 : wd.cell? ⟨w.heap.size, 0, none⟩ = some (.string (bs x)) := cell_blk hs1
        have d1 : wd.cell? ⟨w.heap.size, 1, none⟩ = some (.int .i64 0) := cell_blk hs1
        have d2 : wd.cell? ⟨w.heap.size, 2, none⟩ = some (.int .i64 y) := cell_blk hs1
        have d3 : wd.cell? ⟨w.heap.size, 3, none⟩ = some (.bool z) := cell_blk hs1
        refine bodyPost_ret (v := .agg #[.string (bs x), .int .i64 0, .int .i64 y, .bool z]) (by simp [results, Try.results68, go_sem, d0, d1, d2, d3]) rfl ?_
        rw [HR2.out]
        exact ⟨_, rfl, rfl, hst', hx'⟩
set_option maxRecDepth 100000 in
set_option maxHeartbeats 400000 in
theorem entry_any {w : World} {rb : Nat} {l : Bs} (h : Rst w rb l) :
    Calls Try.prog 70 #[.pointer (some ⟨rb, 0, none⟩)] w fun e w' => Rp rb w VEn (Ob.enR l) e w' := by
  have hrl := lt_of_cell h.c
  have hb0 : Below w.heap.size w (w.alloc (.cells #[.int .i64 0, .int .i64 0, .int .i64 0] 35)) := (Below.refl _ _).alloc (Nat.le_refl _) _
  have hk0 : (w.alloc (.cells #[.int .i64 0, .int .i64 0, .int .i64 0] 35)).heap[w.heap.size]? = some (.cells #[.int .i64 0, .int .i64 0, .int .i64 0] 35 (0, 0)) := new_blk _ _
  have hR : Ob.enR l = (Ob.numR l).bind fun x => (Ob.numR x.2).bind fun y => (Ob.numR y.2).map fun z => (⟨x.1, y.1, z.1⟩, z.2) := rfl
  have HR := Lib.hid hR
  clear hR
  generalize Ob.enR l = resT at *
  go_enter Try.func70, Try.ntmps70
  go_wp2_with fail
  generalize w.alloc (.cells #[.int .i64 0, .int .i64 0, .int .i64 0] 35) = w0 at *
  have HX0 : Hid (Ext rb w w0) := Ext.below hb0
  have HK0 := Lib.hid hk0
  have HC := Lib.hid (int_any (h.ext hb0))
  clear h hb0 hk0
  generalize Ob.numR l = res at *
  refine HC.out.mono ?_
  intro e w1 hq
  rcases res with _ | ⟨x, r1⟩
  · obtain ⟨rfl, hx⟩ := hq
    unfold thrown
    go_wp2_with fail
    rw [HR.out]
    exact ⟨rfl, rfl, HX0.out.trans hx⟩
  · obtain ⟨v, rfl, rfl, hst, hx⟩ := hq
    have HX1 := Lib.hid (HX0.out.trans hx)
    have HK1 : Hid (w1.heap[w.heap.size]? = some (.cells #[.int .i64 0, .int .i64 0, .int .i64 0] 35 (0, 0))) := (hx.block _ (lt_blk HK0.out) (by omega)).trans HK0.out
    have HC1 := Lib.hid (int_any hst)
    have HR1 : Hid (resT = (Ob.numR r1).bind fun y => (Ob.numR y.2).map fun z => (⟨x, y.1, z.1⟩, z.2)) := HR
    clear hx hst HC HR HX0 HK0
    generalize Ob.numR r1 = res at *
    go_wp2_with fail
    refine HC1.out.mono ?_
    intro e w2 hq
    rcases res with _ | ⟨y, r2⟩
    · obtain ⟨rfl, hx⟩ := hq
      unfold thrown
      go_wp2_with fail
      rw [HR1.out]
      exact ⟨rfl, rfl, HX1.out.trans hx⟩
    · obtain ⟨v, rfl, rfl, hst, hx⟩ := hq
      have HX2 := Lib.hid (HX1.out.trans hx)
      have HK2 : Hid (w2.heap[w.heap.size]? = some (.cells #[.int .i64 0, .int .i64 0, .int .i64 0] 35 (0, 0))) := (hx.block _ (lt_blk HK1.out) (by omega)).trans HK1.out
      have HC2 := Lib.hid (int_any hst)
      have HR2 : Hid (resT = (Ob.numR r2).map fun z => (⟨x, y, z.1⟩, z.2)) := HR1
      clear hx hst HC1 HR1 HX1 HK1
      generalize Ob.numR r2 = res at *
      go_wp2_with fail
      refine HC2.out.mono ?_
      intro e w3 hq
      rcases res with _ | ⟨z, r3⟩
      · obtain ⟨rfl, hx⟩ := hq
        unfold thrown
        go_wp2_with fail
        rw [HR2.out]
        exact ⟨rfl, rfl, HX2.out.trans hx⟩
      · obtain ⟨v, rfl, rfl, hst, hx⟩ := hq
        have HX3 := Lib.hid (HX2.out.trans hx)
        have hk3 := (hx.block _ (lt_blk HK2.out) (by omega)).trans HK2.out
        have HST := Lib.hid hst
        have k0 : w3.cell? ⟨w.heap.size, 0, none⟩ = some (.int .i64 0) := cell_blk hk3
        have k1 : w3.cell? ⟨w.heap.size, 1, none⟩ = some (.int .i64 0) := cell_blk hk3
        have k2 : w3.cell? ⟨w.heap.size, 2, none⟩ = some (.int .i64 0) := cell_blk hk3
        have kf : ∀ i, w3.frozen? ⟨w.heap.size, i, none⟩ = false := fun i => frozen_blk hk3
        have HK3 := Lib.hid hk3
        clear hx hst HC2 HX2 HK2 hk3
        go_wp2_with fail
        obtain ⟨hs1, hs2⟩ := set3_out (.int .i64 x) (.int .i64 y) (.int .i64 z) HK3.out
        have hst' := HST.out.other hs2 (by omega)
        have hx' := HX3.out.new hs2 (Nat.le_refl _)
        generalize ((w3.setCell ⟨w.heap.size, 0, none⟩ (.int .i64 x)).setCell ⟨w.heap.size, 1, none⟩ (.int .i64 y)).setCell ⟨w.heap.size, 2, none⟩ (.int .i64 z) = wd at *
        have d0 : wd.cell? ⟨w.heap.size, 0, none⟩ = some (.int .i64 x) := cell_blk hs1
        have d1 : wd.cell? ⟨w.heap.size, 1, none⟩ = some (.int .i64 y) := cell_blk hs1
        have d2 : wd.cell? ⟨w.heap.size, 2, none⟩ = some (.int .i64 z) := cell_blk hs1
        refine bodyPost_ret (v := .agg #[.int .i64 x, .int .i64 y, .int .i64 z]) (by simp [results, Try.results70, go_sem, d0, d1, d2]) rfl ?_
        rw [HR2.out]
        exact ⟨_, rfl, rfl, hst', hx'⟩
set_option maxRecDepth 100000 in
set_option maxHeartbeats 400000 in
theorem inst_any {w : World} {rb : Nat} {l : Bs} (h : Rst w rb l) :
    Calls Try.prog 72 #[.pointer (some ⟨rb, 0, none⟩)] w fun e w' => Rp rb w VIn (Ob.inR l) e w' := by
  have hrl := lt_of_cell h.c
  have hb0 : Below w.heap.size w (w.alloc (.cells #[.int .i64 0, .int .i64 0, .int .i64 0] 45)) := (Below.refl _ _).alloc (Nat.le_refl _) _
  have hk0 : (w.alloc (.cells #[.int .i64 0, .int .i64 0, .int .i64 0] 45)).heap[w.heap.size]? = some (.cells #[.int .i64 0, .int .i64 0, .int .i64 0] 45 (0, 0)) := new_blk _ _
  have hR : Ob.inR l = (Ob.numR l).bind fun x => (Ob.numR x.2).bind fun y => (Ob.numR y.2).map fun z => (⟨x.1, y.1, z.1⟩, z.2) := rfl
  have HR := Lib.hid hR
  clear hR
  generalize Ob.inR l = resT at *
  go_enter Try.func72, Try.ntmps72
  go_wp2_with fail
  generalize w.alloc (.cells #[.int .i64 0, .int .i64 0, .int .i64 0] 45) = w0 at *
  have HX0 : Hid (Ext rb w w0) := Ext.below hb0
  have HK0 := Lib.hid hk0
  have HC := Lib.hid (int_any (h.ext hb0))
  clear h hb0 hk0
  generalize Ob.numR l = res at *
  refine HC.out.mono ?_
  intro e w1 hq
  rcases res with _ | ⟨x, r1⟩
  · obtain ⟨rfl, hx⟩ := hq
    unfold thrown
    go_wp2_with fail
    rw [HR.out]
    exact ⟨rfl, rfl, HX0.out.trans hx⟩
  · obtain ⟨v, rfl, rfl, hst, hx⟩ := hq
    have HX1 := Lib.hid (HX0.out.trans hx)
    have HK1 : Hid (w1.heap[w.heap.size]? = some (.cells #[.int .i64 0, .int .i64 0, .int .i64 0] 45 (0, 0))) := (hx.block _ (lt_blk HK0.out) (by omega)).trans HK0.out
    have HC1 := Lib.hid (numI hst)
    have HR1 : Hid (resT = (Ob.numR r1).bind fun y => (Ob.numR y.2).map fun z => (⟨x, y.1, z.1⟩, z.2)) := HR
    clear hx hst HC HR HX0 HK0
    generalize Ob.numR r1 = res at *
    go_wp2_with fail
    refine HC1.out.mono ?_
    intro e w2 hq
    rcases res with _ | ⟨y, r2⟩
    · obtain ⟨rfl, hx⟩ := hq
      unfold thrown
      go_wp2_with fail
      rw [HR1.out]
      exact ⟨rfl, rfl, HX1.out.trans hx⟩
    · obtain ⟨v, rfl, rfl, hst, hx⟩ := hq
      have HX2 := Lib.hid (HX1.out.trans hx)
      have HK2 : Hid (w2.heap[w.heap.size]? = some (.cells #[.int .i64 0, .int .i64 0, .int .i64 0] 45 (0, 0))) := (hx.block _ (lt_blk HK1.out) (by omega)).trans HK1.out
      have HC2 := Lib.hid (numI hst)
      have HR2 : Hid (resT = (Ob.numR r2).map fun z => (⟨x, y, z.1⟩, z.2)) := HR1
      clear hx hst HC1 HR1 HX1 HK1
      generalize Ob.numR r2 = res at *
      go_wp2_with fail
      refine HC2.out.mono ?_
      intro e w3 hq
      rcases res with _ | ⟨z, r3⟩
      · obtain ⟨rfl, hx⟩ := hq
        unfold thrown
        go_wp2_with fail
        rw [HR2.out]
        exact ⟨rfl, rfl, HX2.out.trans hx⟩
      · obtain ⟨v, rfl, rfl, hst, hx⟩ := hq
        have HX3 := Lib.hid (HX2.out.trans hx)
        have hk3 := (hx.block _ (lt_blk HK2.out) (by omega)).trans HK2.out
        have HST := Lib.hid hst
        have k0 : w3.cell? ⟨w.heap.size, 0, none⟩ = some (.int .i64 0) := cell_blk hk3
        have k1 : w3.cell? ⟨w.heap.size, 1, none⟩ = some (.int .i64 0) := cell_blk hk3
        have k2 : w3.cell? ⟨w.heap.size, 2, none⟩ = some (.int .i64 0) := cell_blk hk3
        have kf : ∀ i, w3.frozen? ⟨w.heap.size, i, none⟩ = false := fun i => frozen_blk hk3
        have HK3 := Lib.hid hk3
        clear hx hst HC2 HX2 HK2 hk3
        go_wp2_with fail
        obtain ⟨hs1, hs2⟩ := set3_out (.int .i64 x) (.int .i64 y) (.int .i64 z) HK3.out
        have hst' := HST.out.other hs2 (by omega)
        have hx' := HX3.out.new hs2 (Nat.le_refl _)
        generalize ((w3.setCell ⟨w.heap.size, 0, none⟩ (.int .i64 x)).setCell ⟨w.heap.size, 1, none⟩ (.int .i64 y)).setCell ⟨w.heap.size, 2, none⟩ (.int .i64 z) = wd at *
        have d0 : wd.cell? ⟨w.heap.size, 0, none⟩ = some (.int .i64 x) := cell_blk hs1
        have d1 : wd.cell? ⟨w.heap.size, 1, none⟩ = some (.int .i64 y) := cell_blk hs1
        have d2 : wd.cell? ⟨w.heap.size, 2, none⟩ = some (.int .i64 z) := cell_blk hs1
        refine bodyPost_ret (v := .agg #[.int .i64 x, .int .i64 y, .int .i64 z]) (by simp [results, Try.results72, go_sem, d0, d1, d2]) rfl ?_
        rw [HR2.out]
        exact ⟨_, rfl, rfl, hst', hx'⟩
end Go.Proofs.Ytljnddcddclmeaa
