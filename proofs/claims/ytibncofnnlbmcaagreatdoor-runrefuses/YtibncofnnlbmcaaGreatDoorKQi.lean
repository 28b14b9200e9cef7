import Derived.Test.YtibncofnnlbmcaaGreatDoorKQh
import Derived.Test.YtibncofnnlbmcaaGreatDoorKUa
/- Chapter 4: what goes on, from its beginning to its end: goes. -/
namespace Go.Proofs.YtibncofnnlbmcaaGreatDoor
open Go.RowKit Go.Maps
open Tp (Bs X S G Pr Pt Rs Rr Own)

theorem glate {gx eb gb on oc : Nat} {oa : Option Addr} {rv : Value} {n : Int} {u u1 : FrameMode} {w : World} (hrec : (∃ older, u = .panicking ({ v := rv, recovered := false } :: older) ∧ u1 = .panicking ({ v := rv, recovered := true } :: older)) ∨ u = .returning ∧ rv = .nilIface ∧ u1 = .returning)
    (hway : ∀ w, Calls Tryz.prog 86 #[rv] w fun e w' => e = .returned (.int .i64 n) ∧ w' = w) (k0 : w.cell? ⟨gx, 0, none⟩ = some (.pointer (some ⟨gb, 0, none⟩))) (k3 : w.cell? ⟨gb, 3, none⟩ = some (.slice oa on oc)) {x0 x1 : Value} (e0 : w.cell? ⟨eb, 0, none⟩ = some x0) (e1 : w.cell? ⟨eb, 1, none⟩ = some x1) (z0 : w.frozen? ⟨eb, 0, none⟩ = false) (z1 : w.frozen? ⟨eb, 1, none⟩ = false) :
    CallsD Tryz.prog 85 #[.pointer (some ⟨gx, 0, none⟩), .pointer (some ⟨eb, 0, none⟩)] u w fun e u' w' => e = .returned (.tuple #[]) ∧ u' = u1 ∧ w' = (w.drew.setCell ⟨eb, 0, none⟩ (.int .i64 n)).setCell ⟨eb, 1, none⟩ (.slice oa on oc) := by
  refine callsD_of_wpS Tryz.func85 rfl fun c₀ cs hu => ?_
  refine wpS_region_ord (by kernel_rfl) ?_
  have hr : recoverD (c₀ :: cs) = some (rv, { c₀ with mode := u1 } :: cs) ∨ recoverD (c₀ :: cs) = none ∧ rv = .nilIface ∧ ({ c₀ with mode := u1 } : Frame) = c₀ := by
    rcases hrec with ⟨older, h1, h2⟩ | ⟨h1, h2, h3⟩
    · refine Or.inl ?_
      simp [recoverD, hu, h1, h2]
    · refine Or.inr ⟨?_, h2, ?_⟩
      · simp [recoverD, hu, h1]
      · rw [h3, ← h1, ← hu]
  exact glate_ord (wd := w.drew) hr hway k0 k3 e0 e1 z0 z1 ⟨rfl, u1, rfl, _, results_none rfl _ _ _, rfl, rfl, rfl⟩
def goesW (w : World) (tv : Option Nat) (fuel : Int) : World := ((w.alloc (.cells #[.int .i64 0, .slice none 0 0] 43)).alloc (.cells #[.map tv, .int .i64 fuel, .int .i64 0, .slice none 0 0] 152)).alloc (.cells #[.pointer (some ⟨w.heap.size + 1, 0, none⟩)] 95)
/- what is kept for the end, whatever is done -/
def GoHeld (w w1 w2 : World) : Prop := w2.heap[w.heap.size]? = w1.heap[w.heap.size]? ∧ w2.heap[w.heap.size + 2]? = w1.heap[w.heap.size + 2]? ∧ ∃ oa on oc, w2.cell? ⟨w.heap.size + 1, 3, none⟩ = some (.slice oa on oc)
def GoesP (w : World) (A : Int → World → Prop) (e : Ending) (w' : World) : Prop := ∃ w2 way oa on oc, A way w2 ∧ w2.cell? ⟨w.heap.size + 1, 3, none⟩ = some (.slice oa on oc) ∧ e = .returned (.agg #[.int .i64 way, .slice oa on oc]) ∧ Ext w.heap.size w2 w'
set_option maxRecDepth 100000 in
set_option maxHeartbeats 2000000 in
theorem goes_post {w : World} {wb : Nat} {tv : Option Nat} {fuel : Int} {f : FuncId} {caps : Array Value} {A : Int → World → Prop} (hcf : ∀ (args : Array Value) (w : World), (callFunc f args).run Tryz.prog w = .ok (.enter f args) w) (hw : w.cell? ⟨wb, 1, none⟩ = some (.map tv))
    (hdo : Calls Tryz.prog f (#[.pointer (some ⟨w.heap.size + 1, 0, none⟩)] ++ caps) (goesW w tv fuel) fun e w2 => GoHeld w (goesW w tv fuel) w2 ∧ ((e = .returned (.tuple #[]) ∧ A 1 w2) ∨ ∃ way : Int, thrE endT way e ∧ A way w2)) :
    Calls Tryz.prog 41 #[.pointer (some ⟨wb, 0, none⟩), .int .i64 fuel, .func (.func f) #[] caps] w (GoesP w A) := by
  have hmf : ∀ (fn : Fn) (first cap : Array Value) (w : World), (Instr.makeFunc fn first cap).run Tryz.prog w = .ok (.func fn first cap) w := fun _ _ _ _ => rfl
  have hwl := lt_of_cell hw
  obtain ⟨w1, hw1⟩ : ∃ w1, w1 = goesW w tv fuel := ⟨_, rfl⟩
  have hb1 : w1.heap[w.heap.size]? = some (.cells #[.int .i64 0, .slice none 0 0] 43 (0, 0)) := by
    rw [hw1]; unfold goesW
    exact ((Below.heap_alloc _ _ _ (by simp; omega)).trans (Below.heap_alloc _ _ _ (by simp))).trans (new_blk _ _)
  have hb3 : w1.heap[w.heap.size + 2]? = some (.cells #[.pointer (some ⟨w.heap.size + 1, 0, none⟩)] 95 (0, 0)) := by
    rw [hw1]; unfold goesW
    have := new_blk ((w.alloc (.cells #[.int .i64 0, .slice none 0 0] 43)).alloc (.cells #[.map tv, .int .i64 fuel, .int .i64 0, .slice none 0 0] 152)) (.cells #[.pointer (some ⟨w.heap.size + 1, 0, none⟩)] 95)
    simpa using this
  rw [← hw1] at hdo
  have HDO := Lib.hid hdo
  have k2 : w1.cell? ⟨w.heap.size + 2, 0, none⟩ = some (.pointer (some ⟨w.heap.size + 1, 0, none⟩)) := (cell_blk hb3).trans rfl
  have hs2 : w.heap.size + 2 < w1.heap.size := lt_blk hb3
  have HB1 := Lib.hid hb1
  have HB3 := Lib.hid hb3
  -- the end
  have HEND : Hid (∀ (w2 : World) (way : Int) (rv : Value) (u : FrameMode) (u1 : FrameMode), settle u1 = .returning → ((∃ older, u = .panicking ({ v := rv, recovered := false } :: older) ∧ u1 = .panicking ({ v := rv, recovered := true } :: older)) ∨ u = .returning ∧ rv = .nilIface ∧ u1 = .returning) → (∀ w, Calls Tryz.prog 86 #[rv] w fun e w' => e = .returned (.int .i64 way) ∧ w' = w) → GoHeld w w1 w2 → A way w2 → ∀ W, Ext w.heap.size w2 W → W.heap[w.heap.size]? = w1.heap[w.heap.size]? → W.heap[w.heap.size + 1]? = w2.heap[w.heap.size + 1]? →
      CallsD Tryz.prog 85 #[.pointer (some ⟨w.heap.size + 2, 0, none⟩), .pointer (some ⟨w.heap.size, 0, none⟩)] u W fun e u' w'' => (∃ v, e = .returned v) ∧ settle u' = .returning ∧ ∃ oa on oc, w''.cell? ⟨w.heap.size, 0, none⟩ = some (.int .i64 way) ∧ w''.cell? ⟨w.heap.size, 1, none⟩ = some (.slice oa on oc) ∧ GoesP w A (.returned (.agg #[.int .i64 way, .slice oa on oc])) w'') := by
    intro w2 way rv u u1 hst hrec hway hh hA W hx hWe hWg
    obtain ⟨g1, g2, oa, on, oc, g3⟩ := hh
    have heb := hWe.trans HB1.out
    have hgx : W.heap[w.heap.size + 2]? = some (.cells #[.pointer (some ⟨w.heap.size + 1, 0, none⟩)] 95 (0, 0)) := by
      rw [hx.block _ (by have := lt_blk (g2.trans HB3.out); omega) (by omega), g2]
      exact HB3.out
    have hg3 : W.cell? ⟨w.heap.size + 1, 3, none⟩ = some (.slice oa on oc) := (World.cell?_of_block (w := w2) hWg).trans g3
    refine (glate hrec hway ((cell_blk hgx).trans rfl) hg3 ((cell_blk heb).trans rfl) ((cell_blk heb).trans rfl) (frozen_blk heb) (frozen_blk heb)).mono ?_
    rintro e u' w'' ⟨rfl, rfl, rfl⟩
    have hfin := set_blk 1 (.slice oa on oc) (set_blk 0 (.int .i64 way) (show W.drew.heap[w.heap.size]? = _ from heb))
    refine ⟨⟨_, rfl⟩, hst, oa, on, oc, (cell_blk hfin).trans rfl, (cell_blk hfin).trans rfl, w2, way, oa, on, oc, hA, g3, rfl, ?_⟩
    have hd : Ext w.heap.size W W.drew := ⟨rfl, rfl, rfl, Nat.le_refl _, fun _ _ _ => rfl⟩
    exact ((hx.trans hd).set 0 _).set 1 _
  clear hdo hb1 hb3
  unfold goesW at hw1
  go_enter_defers Tryz.func41, Tryz.ntmps41
  go_upto_region 3 with fail
  rw [← hw1]
  clear hw1
  go_wp2_with fail
  refine HDO.out.mono ?_
  rintro e w2 ⟨hh, hq⟩
  rcases hq with ⟨rfl, hA⟩ | ⟨way, ⟨older, rfl⟩, hA⟩
  · have hE := hh.1.trans HB1.out
    have e0 : w2.cell? ⟨w.heap.size, 0, none⟩ = some (.int .i64 0) := (cell_blk hE).trans rfl
    have e1 : w2.cell? ⟨w.heap.size, 1, none⟩ = some (.slice none 0 0) := (cell_blk hE).trans rfl
    have z0 : ∀ j, w2.frozen? ⟨w.heap.size, j, none⟩ = false := fun j => frozen_blk hE
    have hel := lt_blk hE
    have hset := set_blk 1 (.slice none 0 0) (set_blk 0 (.int .i64 0) hE)
    have HL := Lib.hid (HEND.out w2 1 .nilIface .returning .returning rfl (Or.inr ⟨rfl, rfl, rfl⟩) way_nil hh hA ((w2.setCell ⟨w.heap.size, 0, none⟩ (.int .i64 0)).setCell ⟨w.heap.size, 1, none⟩ (.slice none 0 0)) (((Ext.refl _ _).set 0 _).set 1 _) (hset.trans HB1.out.symm) ((set_frame _ (by omega)).trans (set_frame _ (by omega))))
    clear hh hA hE hset HEND HDO k2
    go_wp2_with fail
    refine leaves_cons (f := 85) (args := #[.pointer (some ⟨w.heap.size + 2, 0, none⟩), .pointer (some ⟨w.heap.size, 0, none⟩)]) (by simp) (by simp [go_sem]) ?_
    refine HL.out.mono ?_
    rintro e u' w'' ⟨⟨v, rfl⟩, hst, oa, on, oc, q0, q1, hfin⟩
    simp [Leaves, hst, results, Tryz.results41, go_sem, q0, q1]
    exact hfin
  · have HL := Lib.hid (HEND.out w2 way (.iface endT (.int .i64 way)) (.panicking ({ v := .iface endT (.int .i64 way), recovered := false } :: older.1)) (.panicking ({ v := .iface endT (.int .i64 way), recovered := true } :: older.1)) (by simp [settle, drop_goexit older]) (Or.inl ⟨older.1, rfl, rfl⟩) (way_end way) hh hA w2 (Ext.refl _ _) hh.1 rfl)
    clear hh hA HEND HDO k2
    go_wp2_with fail
    refine leaves_cons (f := 85) (args := #[.pointer (some ⟨w.heap.size + 2, 0, none⟩), .pointer (some ⟨w.heap.size, 0, none⟩)]) (by simp) (by simp [go_sem]) ?_
    refine HL.out.mono ?_
    rintro e u' w'' ⟨⟨v, rfl⟩, hst, oa, on, oc, q0, q1, hfin⟩
    simp [Leaves, hst, results, Tryz.results41, go_sem, q0, q1]
    exact hfin
end Go.Proofs.YtibncofnnlbmcaaGreatDoor
/- Chapter 4: a module whose variables are all 0: fresh. -/
namespace Go.Proofs.YtibncofnnlbmcaaGreatDoor
open Go.RowKit Go.Maps
open Tp (Bs X S G Pr Pt Rs Rr Own)

/- variables that were laid: each in a block of its own -/
structure Laid (w : World) (B vb : Nat) (gs : List G) (i : Nat) (sl : Bs → Nat) : Prop where
  map : MapV w vb i (fun k => ((gs.take i).find? fun g => g.name == k).map fun g => .slice (some ⟨sl k, 0, none⟩) (vlen g) (vlen g))
  at' : ∀ g ∈ gs.take i, B ≤ sl g.name ∧ w.heap[sl g.name]? = some (.cells (ints (List.replicate (vlen g) 0)).toArray 2 (0, 0))
  inj : ∀ g ∈ gs.take i, ∀ g' ∈ gs.take i, sl g.name = sl g'.name → g.name = g'.name
theorem Laid.add {w w3 : World} {B vb : Nat} {gs : List G} {i : Nat} {sl : Bs → Nat} (h : Laid w B vb gs i sl) (hi : i < gs.length) (hn : (gs.map (·.name)).Nodup) (hB : B ≤ w.heap.size) (_ : vb < w.heap.size)
    (hm : MapV w3 vb (i + 1) (updV (fun k => ((gs.take i).find? fun g => g.name == k).map fun g => .slice (some ⟨sl k, 0, none⟩) (vlen g) (vlen g)) gs[i].name (.slice (some ⟨w.heap.size, 0, none⟩) (vlen gs[i]) (vlen gs[i]))))
    (hx : ∀ b, b < w.heap.size → b ≠ vb → w3.heap[b]? = w.heap[b]?) (hnew : w3.heap[w.heap.size]? = some (.cells (ints (List.replicate (vlen gs[i]) 0)).toArray 2 (0, 0))) (hne : ∀ g ∈ gs.take i, sl g.name ≠ vb) : Laid w3 B vb gs (i + 1) (fun k => if k = gs[i].name then w.heap.size else sl k) := by
  have hnm : ∀ g ∈ gs.take i, g.name ≠ gs[i].name := fun g hg e => by
    obtain ⟨j, hj, rfl⟩ := List.getElem_of_mem hg
    rw [List.length_take] at hj
    rw [List.getElem_take] at e
    have := (List.getElem_inj (h₀ := by simp; omega) (h₁ := by simpa using hi) hn (i := j) (j := i)).1 (by simpa using e)
    omega
  have hlt : ∀ g ∈ gs.take i, sl g.name < w.heap.size := fun g hg => lt_blk (h.at' g hg).2
  have htk : gs.take (i + 1) = gs.take i ++ [gs[i]] := List.take_succ_eq_append_getElem hi
  refine ⟨?_, fun g hg => ?_, fun g hg g' hg' e => ?_⟩
  · have ef : updV (fun k => ((gs.take i).find? fun g => g.name == k).map fun g => Value.slice (some ⟨sl k, 0, none⟩) (vlen g) (vlen g)) gs[i].name (.slice (some ⟨w.heap.size, 0, none⟩) (vlen gs[i]) (vlen gs[i])) = fun k => ((gs.take (i + 1)).find? fun g => g.name == k).map fun g => .slice (some ⟨if k = gs[i].name then w.heap.size else sl k, 0, none⟩) (vlen g) (vlen g) := by
      funext k
      unfold updV
      rw [htk, List.find?_append]
      by_cases e : k = gs[i].name
      · rw [if_pos e]
        have : (gs.take i).find? (fun g => g.name == k) = none := by
          rw [List.find?_eq_none]
          intro g hg q
          exact hnm g hg ((by simpa using q : g.name = k).trans e)
        rw [this]
        simp [e]
      · rw [if_neg e]
        have : ([gs[i]] : List G).find? (fun g => g.name == k) = none := by
          rw [List.find?_eq_none]
          intro g hg q
          rw [List.mem_singleton] at hg
          subst hg
          exact e (by simpa using q : gs[i].name = k).symm
        rw [this]
        simp [e]
    rw [← ef]
    exact hm
  · rw [htk] at hg
    rcases List.mem_append.1 hg with q | q
    · rw [if_neg (hnm g q)]
      exact ⟨(h.at' g q).1, (hx _ (hlt g q) (hne g q)).trans (h.at' g q).2⟩
    · rw [List.mem_singleton] at q
      subst q
      rw [if_pos rfl]
      exact ⟨hB, hnew⟩
  · rw [htk] at hg hg'
    rcases List.mem_append.1 hg with q | q <;> rcases List.mem_append.1 hg' with q' | q'
    · rw [if_neg (hnm g q), if_neg (hnm g' q')] at e
      exact h.inj g q g' q' e
    · rw [List.mem_singleton] at q'
      subst q'
      rw [if_neg (hnm g q), if_pos rfl] at e
      have := hlt g q
      omega
    · rw [List.mem_singleton] at q
      subst q
      rw [if_pos rfl, if_neg (hnm g' q')] at e
      have := hlt g' q'
      omega
    · rw [List.mem_singleton] at q q'
      rw [q, q']
end Go.Proofs.YtibncofnnlbmcaaGreatDoor
/- Chapter 4: a module whose variables are all 0: fresh, walked. -/
namespace Go.Proofs.YtibncofnnlbmcaaGreatDoor
open Go.RowKit Go.Maps
open Tp (Bs X S G Pr Pt Rs Rr Own)

theorem run_maxI (g : G) (w : World) : (Builtin.max_ #[3, 3] 3 #[.int .i64 (g.len : Int), .int .i64 1]).run Tryz.prog w = .ok (.int .i64 (vlen g : Int)) w := by
  have e : (Builtin.max_ #[3, 3] 3 #[.int .i64 (g.len : Int), .int .i64 1]).run Tryz.prog w = .ok (.int .i64 (if (1 : Int) > (g.len : Int) then 1 else (g.len : Int))) w := rfl
  rw [e]
  congr 2
  unfold vlen
  by_cases h : g.len = 0
  · rw [if_pos (by omega), if_pos h]; rfl
  · rw [if_neg (by omega), if_neg h]
def FreshP (w : World) (m : Tp.M) (ia ga pa ba : Option Addr) (ic gc pc bc : Nat) (e : Ending) (w' : World) : Prop := Below w.heap.size w w' ∧ ∃ lb vb sl, e = .returned (.pointer (some ⟨lb, 0, none⟩)) ∧ w.heap.size ≤ lb ∧ w.heap.size ≤ vb ∧ lb ≠ vb ∧ w'.heap[lb]? = some (.cells (lcells m ia ga pa ba ic gc pc bc vb) 107 (0, 0)) ∧ Laid w' w.heap.size vb m.vars m.vars.length sl ∧ ∀ g ∈ m.vars, sl g.name ≠ lb ∧ sl g.name ≠ vb
set_option maxRecDepth 100000 in
set_option maxHeartbeats 4000000 in
theorem fresh_post {w : World} {m : Tp.M} {ia ga pa ba : Option Addr} {ic gc pc bc : Nat} (h : MB w w.heap.size m ia ga pa ba ic gc pc bc) (hm : Tp.WM m) (hn : (m.vars.map (·.name)).Nodup) :
    Calls Tryz.prog 39 #[.agg (mcells (bs m.name) (.slice ia m.imports.length ic) (.slice ga m.vars.length gc) (.slice pa m.procs.length pc) (.slice ba m.body.length bc))] w (FreshP w m ia ga pa ba ic gc pc bc) := by
  have hmm := @run_makeMap Tryz.prog
  obtain ⟨w0, hw0⟩ : ∃ w0, w0 = ((w.alloc (.cells (mcells (bs m.name) (.slice ia m.imports.length ic) (.slice ga m.vars.length gc) (.slice pa m.procs.length pc) (.slice ba m.body.length bc)) 36)).alloc (.map #[] 0)).alloc (.cells (lcells m ia ga pa ba ic gc pc bc (w.heap.size + 1)) 107) := ⟨_, rfl⟩
  have hb0 : Below w.heap.size w w0 := by rw [hw0]; exact (((Below.refl _ _).alloc (Nat.le_refl _) _).alloc (by simp) _).alloc (by simp; omega) _
  have hs0 : w0.heap.size = w.heap.size + 3 := by rw [hw0]; simp
  have hk0 : w0.heap[w.heap.size]? = some (.cells (mcells (bs m.name) (.slice ia m.imports.length ic) (.slice ga m.vars.length gc) (.slice pa m.procs.length pc) (.slice ba m.body.length bc)) 36 (0, 0)) := by
    rw [hw0]; exact ((Below.heap_alloc _ _ _ (by simp; omega)).trans (Below.heap_alloc _ _ _ (by simp))).trans (new_blk _ _)
  have hm0 : MapV w0 (w.heap.size + 1) 0 (fun _ => none) := by
    have h1 := MapV.made (w.alloc (.cells (mcells (bs m.name) (.slice ia m.imports.length ic) (.slice ga m.vars.length gc) (.slice pa m.procs.length pc) (.slice ba m.body.length bc)) 36))
    have h2 : (w.alloc (.cells (mcells (bs m.name) (.slice ia m.imports.length ic) (.slice ga m.vars.length gc) (.slice pa m.procs.length pc) (.slice ba m.body.length bc)) 36)).heap.size = w.heap.size + 1 := by simp
    rw [h2] at h1
    refine h1.on ?_
    rw [hw0]
    exact Below.heap_alloc _ _ _ (by simp)
  have hk2 : w0.heap[w.heap.size + 2]? = some (.cells (lcells m ia ga pa ba ic gc pc bc (w.heap.size + 1)) 107 (0, 0)) := by
    have := new_blk ((w.alloc (.cells (mcells (bs m.name) (.slice ia m.imports.length ic) (.slice ga m.vars.length gc) (.slice pa m.procs.length pc) (.slice ba m.body.length bc)) 36)).alloc (.map #[] 0)) (.cells (lcells m ia ga pa ba ic gc pc bc (w.heap.size + 1)) 107)
    rw [hw0]
    simpa using this
  have hl0 : Laid w0 (w.heap.size + 3) (w.heap.size + 1) m.vars 0 (fun _ => 0) := ⟨by simpa using hm0, fun g hg => by simp at hg, fun g hg => by simp at hg⟩
  have hgl := h.gl
  have HG : Hid (∀ i, ∀ hi : i < m.vars.length, ∃ gg, ga = some ⟨gg, 0, none⟩ ∧ gg < w.heap.size ∧ ∀ j, j < 4 → w.cell? ⟨gg, i * 4 + j, none⟩ = (gcells (bs m.vars[i].name) (m.vars[i].pos : Int) (m.vars[i].len : Int) m.vars[i].seen).toList[j]?) := by
    intro i hi
    obtain ⟨g, cap, q1, q2, q3, q4⟩ := row_cell hgl (by omega)
    cases q1
    exact ⟨g, rfl, q3, fun j hj => (q4 (i * 4 + j) (by omega)).trans (gcs_get m.vars i hi j hj)⟩
  have HW : Hid (∀ i, ∀ hi : i < m.vars.length, m.vars[i].name.length ≤ 1000000 ∧ vlen m.vars[i] ≤ 1000) := fun i hi => by
    have := hm.g _ (List.getElem_mem hi)
    refine ⟨okn_1000 this.n, ?_⟩
    have := this.l
    unfold vlen
    split <;> omega
  have HND := Lib.hid hn
  have k2 : w0.cell? ⟨w.heap.size, 2, none⟩ = some (.slice ga m.vars.length gc) := (cell_blk hk0).trans rfl
  have hgn : m.vars.length ≤ 10 := hm.gc
  have HB0 := Lib.hid hb0
  have HK2 := Lib.hid hk2
  have HL0 := Lib.hid hl0
  clear hb0 hk0 hm0 hk2 hl0 hgl h hm hn
  obtain ⟨gn, hgn'⟩ : ∃ gn, gn = m.vars.length := ⟨_, rfl⟩
  have HGN := Lib.hid hgn'
  unfold mcells lcells at *
  rw [← hgn'] at k2 hgn hw0 ⊢
  clear hgn'
  have hgI : (gn : Int) ≤ 10 := by omega
  have hws : w.heap.size < w0.heap.size := by omega
  go_enter Tryz.func39, Tryz.ntmps39
  go_upto_region 2 with fail
  rw [← hw0]
  clear hw0
  go_wp2_with fail
  go_loopg [13] gn (fun k vi wr => ∃ (i : Nat) (sl : Bs → Nat), i ≤ gn ∧ k = gn - i ∧ vi = .int .i64 (i : Int) ∧ Hid (Laid wr (w.heap.size + 3) (w.heap.size + 1) m.vars i sl) ∧ Hid (Ext (w.heap.size + 1) w0 wr))
  case atStart => exact ⟨0, fun _ => 0, by omega, by omega, rfl, HL0, Ext.refl _ _⟩
  case round =>
    obtain ⟨i, sl, hid, hk, rfl, HL, HE⟩ := hrel
    have hszr := HE.out.size
    by_cases hlt : i < gn
    · have hlt' : (i : Int) < (gn : Int) := by omega
      have hia : i < m.vars.length := by have := HGN.out; omega
      obtain ⟨gg, rfl, hggl, hgc⟩ := HG.out i hia
      have hcell : ∀ j, j < 4 → wr.cell? ⟨gg, i * 4 + j, none⟩ = (gcells (bs m.vars[i].name) (m.vars[i].pos : Int) (m.vars[i].len : Int) m.vars[i].seen).toList[j]? := fun j hj => by
        rw [World.cell?_of_block (w := w0) (HE.out.block gg (by omega) (by omega)), HB0.out.cell (p := ⟨gg, i * 4 + j, none⟩) hggl]
        exact hgc j hj
      have c0 : wr.cell? ⟨gg, i * 4, none⟩ = some (.string (bs m.vars[i].name)) := hcell 0 (by omega)
      have c1 : wr.cell? ⟨gg, i * 4 + 1, none⟩ = some (.int .i64 (m.vars[i].pos : Int)) := hcell 1 (by omega)
      have c2 : wr.cell? ⟨gg, i * 4 + 2, none⟩ = some (.int .i64 (m.vars[i].len : Int)) := hcell 2 (by omega)
      have c3 : wr.cell? ⟨gg, i * 4 + 3, none⟩ = some (.bool m.vars[i].seen) := hcell 3 (by omega)
      have hggr : gg < wr.heap.size := by omega
      obtain ⟨hnl, hvl⟩ := HW.out i hia
      obtain ⟨W, hW⟩ : ∃ W, W = wr.alloc (.cells #[.string (bs m.vars[i].name), .int .i64 (m.vars[i].pos : Int), .int .i64 (m.vars[i].len : Int), .bool m.vars[i].seen] 61) := ⟨_, rfl⟩
      have hbW : Below wr.heap.size wr W := by rw [hW]; exact (Below.refl _ _).alloc (Nat.le_refl _) _
      have hsW : W.heap.size = wr.heap.size + 1 := by rw [hW]; simp
      have hkW : W.heap[wr.heap.size]? = some (.cells #[.string (bs m.vars[i].name), .int .i64 (m.vars[i].pos : Int), .int .i64 (m.vars[i].len : Int), .bool m.vars[i].seen] 61 (0, 0)) := by rw [hW]; exact new_blk _ _
      have g0 : W.cell? ⟨wr.heap.size, 0, none⟩ = some (.string (bs m.vars[i].name)) := (cell_blk hkW).trans rfl
      have g2 : W.cell? ⟨wr.heap.size, 2, none⟩ = some (.int .i64 (m.vars[i].len : Int)) := (cell_blk hkW).trans rfl
      have hlbW : W.heap[w.heap.size + 2]? = some (.cells #[.string (bs m.name), .slice ia m.imports.length ic, .slice (some ⟨gg, 0, none⟩) m.vars.length gc, .slice pa m.procs.length pc, .slice ba m.body.length bc, .map (some (w.heap.size + 1))] 107 (0, 0)) := by
        rw [hbW.block _ (by omega), HE.out.block _ (by omega) (by omega)]
        exact HK2.out
      have l5 : W.cell? ⟨w.heap.size + 1 + 1, 5, none⟩ = some (.map (some (w.heap.size + 1))) := (cell_blk hlbW).trans rfl
      have hlaid : Laid W (w.heap.size + 3) (w.heap.size + 1) m.vars i sl := ⟨HL.out.map.on (hbW.block _ HL.out.map.lt), fun g hg => ⟨(HL.out.at' g hg).1, (hbW.block _ (lt_blk (HL.out.at' g hg).2)).trans (HL.out.at' g hg).2⟩, HL.out.inj⟩
      have hmk := run_makeI (vlen m.vars[i]) (by omega)
      have hmx := run_maxI m.vars[i]
      obtain ⟨w3, hmu, q1, q2, q3⟩ := (hlaid.map.on (w' := (W.alloc (.cells (ints (List.replicate (vlen m.vars[i]) 0)).toArray 2)).drew) (Below.heap_alloc _ _ _ hlaid.map.lt)).store (t := 105) Tryz.underlying105 (by omega) m.vars[i].name hnl (.slice (some ⟨W.heap.size, 0, none⟩) (vlen m.vars[i]) (vlen m.vars[i]))
      have HL3 : Hid (Laid w3 (w.heap.size + 3) (w.heap.size + 1) m.vars (i + 1) (fun k => if k = m.vars[i].name then W.heap.size else sl k)) := by
        refine hlaid.add hia HND.out (by omega) (by omega) q1 (fun b hb hne => (q2.block b (by show b < (W.alloc _).heap.size; simp; omega) hne).trans (Below.heap_alloc _ _ _ hb)) ((q2.block _ (by show W.heap.size < (W.alloc _).heap.size; simp) (by omega)).trans (new_blk _ _)) (fun g hg e => ?_)
        have := (hlaid.at' g hg).1
        omega
      have HE3 : Hid (Ext (w.heap.size + 1) w0 w3) := by
        refine (HE.out.trans (Ext.below hbW)).trans (Ext.trans ?_ q2)
        exact ⟨rfl, rfl, rfl, by show W.heap.size ≤ (W.alloc _).heap.size; simp, fun b hb _ => Below.heap_alloc _ _ _ hb⟩
      have hvl' : (vlen m.vars[i] : Int) ≤ 1000 := by omega
      have hl1 : wr.heap.size < W.heap.size := by omega
      have hl2 : w.heap.size + 1 + 1 < W.heap.size := by omega
      rw [hsW] at hmu
      have l5' : (W.alloc (.cells (ints (List.replicate (vlen m.vars[i]) 0)).toArray 2)).cell? ⟨w.heap.size + 1 + 1, 5, none⟩ = some (.map (some (w.heap.size + 1))) := (World.cell?_of_block (w := W) (Below.heap_alloc _ _ _ hl2)).trans l5
      have g0' : (W.alloc (.cells (ints (List.replicate (vlen m.vars[i]) 0)).toArray 2)).cell? ⟨wr.heap.size, 0, none⟩ = some (.string (bs m.vars[i].name)) := (World.cell?_of_block (w := W) (Below.heap_alloc _ _ _ hl1)).trans g0
      have g2' : (W.alloc (.cells (ints (List.replicate (vlen m.vars[i]) 0)).toArray 2)).cell? ⟨wr.heap.size, 2, none⟩ = some (.int .i64 (m.vars[i].len : Int)) := (World.cell?_of_block (w := W) (Below.heap_alloc _ _ _ hl1)).trans g2
      clear hcell hbW hkW hlbW hlaid q1 q2 q3 hgc HL HE hnl hvl
      generalize vlen m.vars[i] = vg at *
      generalize m.vars[i].name = nm at *
      generalize (m.vars[i].pos : Int) = ps at *
      generalize (m.vars[i].len : Int) = ln at *
      generalize m.vars[i].seen = sn at *
      go_upto_region 5 with fail
      rw [← hW]
      clear hW c0 c1 c2 c3
      go_region
      go_wp2_with fail
      go_roundg (gn - (i + 1))
      case measure => omega
      case rel => exact ⟨i + 1, _, by omega, rfl, by go_num, HL3, HE3⟩
    · have hlt' : ¬ (i : Int) < (gn : Int) := by omega
      have hei : i = m.vars.length := by have := HGN.out; omega
      have hfin : Below w.heap.size w wr := HB0.out.trans (ext_below HE.out (by omega) (by omega))
      have hblk : wr.heap[w.heap.size + 2]? = some (.cells #[.string (bs m.name), .slice ia m.imports.length ic, .slice ga m.vars.length gc, .slice pa m.procs.length pc, .slice ba m.body.length bc, .map (some (w.heap.size + 1))] 107 (0, 0)) := by
        rw [HE.out.block _ (by omega) (by omega)]
        exact HK2.out
      have hla := HL.out
      rw [hei] at hla
      have HR : Hid (FreshP w m ia ga pa ba ic gc pc bc (.returned (.pointer (some ⟨w.heap.size + 2, 0, none⟩))) wr) := by
        refine ⟨hfin, w.heap.size + 2, w.heap.size + 1, sl, rfl, by omega, by omega, by omega, hblk, ⟨hla.map, fun g hg => ⟨by have := (hla.at' g hg).1; omega, (hla.at' g hg).2⟩, hla.inj⟩, fun g hg => ?_⟩
        have := (hla.at' g (by simpa using hg)).1
        omega
      clear hfin hblk hla HL HE
      go_wp2_with fail
      go_ret
      exact HR.out
end Go.Proofs.YtibncofnnlbmcaaGreatDoor
/- Chapter 4: a module is laid behind those that are there, the first: add; seen. -/
namespace Go.Proofs.YtibncofnnlbmcaaGreatDoor
open Go.RowKit Go.Maps
open Tp (Bs X S G Pr Pt Rs Rr Own)

theorem Tryz.mapNil (w : World) : (binOp .eql 26 (.map none) (.map none)).run Tryz.prog w = .ok (.bool true) w := by kernel_rfl
theorem Tryz.mapSome (b : Nat) (w : World) : (binOp .eql 26 (.map (some b)) (.map none)).run Tryz.prog w = .ok (.bool false) w := by kernel_rfl
def AddP (w : World) (wb lb : Nat) (nm : Bs) (e : Ending) (w' : World) : Prop := e = .returned (.tuple #[]) ∧ Ext wb w w' ∧ ∃ tb nv, w'.heap[wb]? = some (.cells #[nv, .map (some tb)] 28 (0, 0)) ∧ w.heap.size ≤ tb ∧ MapV w' tb 1 (updV (fun _ => none) nm (.pointer (some ⟨lb, 0, none⟩))) ∧ w'.ownsRow 0 9 1 nv 1 [.string (bs nm)] ∧ ∀ b, nv.ownBlock = some b → w.heap.size ≤ b ∧ b ≠ tb
theorem add_fin {w w2 w3 : World} {wb lb : Nat} {nm : Bs} {v3 : Value} (hwl : wb < w.heap.size) (hx : Ext wb w w2) (hm : MapV w2 w.heap.size 1 (updV (fun _ => none) nm (.pointer (some ⟨lb, 0, none⟩)))) (hs : w2.heap.size = w.heap.size + 1) (e3 : w3.heap[wb]? = some (.cells #[.slice none 0 0, .map (some w.heap.size)] 28 (0, 0))) (hb : Below w2.heap.size w2 w3) (q1 : w3.ownsRow 0 9 1 v3 1 [.string (bs nm)]) (q3 : ∀ g, v3.ownBlock = some g → w2.heap.size ≤ g) : AddP w wb lb nm (.returned (.tuple #[])) (w3.setCell ⟨wb, 0, none⟩ v3) := by
  refine ⟨rfl, (hx.trans (Ext.below hb)).set 0 _, w.heap.size, v3, (set_blk 0 _ e3).trans rfl, Nat.le_refl _, hm.on ((set_frame _ (by omega)).trans (hb.block _ (by omega))), owns_keep q1 (fun b _ _ h3 => set_frame b (by have := q3 b h3; omega)), fun b h3 => by have := q3 b h3; omega⟩
set_option maxRecDepth 100000 in
set_option maxHeartbeats 4000000 in
theorem add_first {w : World} {wb lb : Nat} {nm : Bs} {v1 v2 v3 v4 v5 : Value} (hw : w.heap[wb]? = some (.cells #[.slice none 0 0, .map none] 28 (0, 0))) (hl : w.heap[lb]? = some (.cells #[.string (bs nm), v1, v2, v3, v4, v5] 107 (0, 0))) (hne : lb ≠ wb) (hn : nm.length ≤ 1000000) :
    Calls Tryz.prog 40 #[.pointer (some ⟨wb, 0, none⟩), .pointer (some ⟨lb, 0, none⟩)] w (AddP w wb lb nm) := by
  obtain ⟨i1, hi, hz0, hz1, hz2⟩ := info_parts Tryz.infoString
  have hmm := @run_makeMap Tryz.prog
  have hmn := Tryz.mapNil
  have hwl := lt_blk hw
  have hll := lt_blk hl
  have k1 : w.cell? ⟨wb, 1, none⟩ = some (.map none) := (cell_blk hw).trans rfl
  have hz : w.frozen? ⟨wb, 1, none⟩ = false := frozen_blk hw
  obtain ⟨w1, hw1⟩ : ∃ w1, w1 = (w.setCell ⟨wb, 1, none⟩ (.map (some w.heap.size))).alloc (.map #[] 0) := ⟨_, rfl⟩
  have hb1 : w1.heap[wb]? = some (.cells #[.slice none 0 0, .map (some w.heap.size)] 28 (0, 0)) := by rw [hw1]; exact (Below.heap_alloc _ _ _ (by simpa using hwl)).trans ((set_blk 1 _ hw).trans rfl)
  have hl1 : w1.heap[lb]? = some (.cells #[.string (bs nm), v1, v2, v3, v4, v5] 107 (0, 0)) := by rw [hw1]; exact (Below.heap_alloc _ _ _ (by simpa using hll)).trans ((set_frame _ hne).trans hl)
  have hs1 : w1.heap.size = w.heap.size + 1 := by rw [hw1]; simp
  have hx1 : Ext wb w w1 := by
    rw [hw1]
    exact ((Ext.refl wb w).set 1 _).trans (Ext.below ((Below.refl _ _).alloc (Nat.le_refl _) _))
  have hm1 : MapV w1 w.heap.size 0 (fun _ => none) := by
    have := MapV.made (w.setCell ⟨wb, 1, none⟩ (.map (some w.heap.size)))
    rw [set_size] at this
    rw [hw1]
    exact this
  obtain ⟨w2, hmu, q1, q2, q3⟩ := (hm1.on (w' := w1.drew) rfl).store (t := 26) Tryz.underlying26 (by omega) nm hn (.pointer (some ⟨lb, 0, none⟩))
  have hb2 : w2.heap[wb]? = some (.cells #[.slice none 0 0, .map (some w.heap.size)] 28 (0, 0)) := (q2.block wb (by show wb < w1.heap.size; omega) (by omega)).trans hb1
  have hl2 : w2.heap[lb]? = some (.cells #[.string (bs nm), v1, v2, v3, v4, v5] 107 (0, 0)) := (q2.block lb (by show lb < w1.heap.size; omega) (by omega)).trans hl1
  have hs2 : w2.heap.size = w.heap.size + 1 := q3.trans hs1
  have hx2 : ∀ b, b < w.heap.size → b ≠ wb → w2.heap[b]? = w.heap[b]? := fun b h1 h2 => (q2.block b (by show b < w1.heap.size; omega) (by omega)).trans (hx1.block b h1 h2)
  have HX2 : Hid (Ext wb w w2) := ⟨q2.os.trans hx1.os, q2.tape.trans hx1.tape, q2.output.trans hx1.output, by omega, hx2⟩
  have HM2 := Lib.hid q1
  have m1 : w1.cell? ⟨wb, 1, none⟩ = some (.map (some w.heap.size)) := (cell_blk hb1).trans rfl
  have ml : w1.cell? ⟨lb, 0, none⟩ = some (.string (bs nm)) := (cell_blk hl1).trans rfl
  have n0 : w2.cell? ⟨wb, 0, none⟩ = some (.slice none 0 0) := (cell_blk hb2).trans rfl
  have nl : w2.cell? ⟨lb, 0, none⟩ = some (.string (bs nm)) := (cell_blk hl2).trans rfl
  have hwl1 : wb < w1.heap.size := lt_blk hb1
  have hll1 : lb < w1.heap.size := lt_blk hl1
  have hwl2 : wb < w2.heap.size := lt_blk hb2
  have hll2 : lb < w2.heap.size := lt_blk hl2
  have HB2 := Lib.hid hb2
  have hn0 : ∀ ob, (w2.alloc ob).cell? ⟨wb, 0, none⟩ = some (.slice none 0 0) := fun ob => (World.cell?_of_block (w := w2) (Below.heap_alloc _ _ _ hwl2)).trans n0
  have hnl : ∀ ob, (w2.alloc ob).cell? ⟨lb, 0, none⟩ = some (.string (bs nm)) := fun ob => (World.cell?_of_block (w := w2) (Below.heap_alloc _ _ _ hll2)).trans nl
  have HS1 := Lib.hid hs1
  have HS2 := Lib.hid hs2
  clear hw hl hb1 hl1 hs1 hx1 hm1 q1 q2 q3 hb2 hl2 hs2 hx2
  go_enter Tryz.func40, Tryz.ntmps40
  go_upto_region 2 with fail
  rw [← hw1]
  clear hw1 hz k1
  go_region
  clear m1 ml hmu
  go_upto_region 3 with fail
  go_region_law (first | (refine step_append_where rfl (.tmp 27) (.tmp 33) 25 rfl 0 9 i1 (.string ⟨#[]⟩) 1 16 Tryz.underlying25 hi hz0 hz1 hz2 rfl (by decide) (.slice none 0 0) 0 [] (by simp [Act.eval]) (World.ownsRow_nil _ _ _ _) ⟨w2.heap.size, 0, none⟩ 1 1 [.string (bs nm)] (by simp [Act.eval]) rfl ?news (by intro u hu; simp at hu; subst hu; rfl) (by unfold maxLen; omega) (by omega) (by omega) ?_; (case news => (intro j u hj; rw [Addr.add_lit]; cases j with | zero => (simp at hj; subst hj; first | exact (cell_blk (new_blk w2 _)).trans rfl | exact (cell_blk (new_blk w2.drew _)).trans rfl) | succ j => simp at hj)); intro v3' w3 q1 q2 q3; obtain ⟨a3, c3, hv3⟩ := owns_shape q1; subst hv3; have e3 : w3.heap[wb]? = some (.cells #[.slice none 0 0, .map (some w.heap.size)] 28 (0, 0)) := (q2.block wb (by simp; omega) (fun e => by cases e)).trans ((Below.heap_alloc w2 _ wb hwl2).trans HB2.out); have n3 : w3.cell? ⟨wb, 0, none⟩ = some (.slice none 0 0) := (cell_blk e3).trans rfl; have z3 : w3.frozen? ⟨wb, 0, none⟩ = false := frozen_blk e3; have HFIN := Lib.hid (add_fin hwl HX2.out HM2.out HS2.out e3 (by first | exact ⟨q2.os, q2.tape, q2.output, (by have := q2.size; simp at this; omega), fun b hb => (q2.block b (by simp; omega) (fun e => by cases e)).trans (Below.heap_alloc w2 _ b hb)⟩) q1 (fun g hg => (q3 g hg).elim (fun z => (by cases z)) (fun z => (by simp at z; omega)))); clear q1 q2 q3 e3))
  all_goals exact bodyPost_end (results_none rfl _ _ _) rfl HFIN.out
set_option maxRecDepth 100000 in
theorem seen_first {w : World} {wb : Nat} (hw : w.heap[wb]? = some (.cells #[.slice none 0 0, .map none] 28 (0, 0))) :
    Calls Tryz.prog 38 #[.pointer (some ⟨wb, 0, none⟩)] w fun e w' => e = .returned (.map (some w.heap.size)) ∧ w' = w.alloc (.map #[] 0) := by
  have hmm := @run_makeMap Tryz.prog
  have hwl := lt_blk hw
  have k0 : w.cell? ⟨wb, 0, none⟩ = some (.slice none 0 0) := (cell_blk hw).trans rfl
  have k0' : (w.alloc (.map #[] 0)).cell? ⟨wb, 0, none⟩ = some (.slice none 0 0) := (World.cell?_of_block (w := w) (Below.heap_alloc _ _ _ hwl)).trans k0
  clear hw
  go_enter Tryz.func38, Tryz.ntmps38
  go_wp2_with fail
  refine wp_loop_rounds 1 ?_
  rw [rounds_succ]
  go_wp2_with fail
  go_ret
  exact ⟨rfl, rfl⟩
end Go.Proofs.YtibncofnnlbmcaaGreatDoor
/- Chapter 4: a world in memory; what goes on in it. -/
namespace Go.Proofs.YtibncofnnlbmcaaGreatDoor
open Go.RowKit Go.Maps
open Tp (Bs X S G Pr Pt Rs Rr Own)

def VLo (L : List Lo) (b : Nat) : Prop := ∃ lo ∈ L, ∃ g ∈ lo.m.vars, b = lo.sl g.name
def thrL (L : List Lo) (k : Bs) : Option Value := (L.find? fun lo => lo.m.name == k).map fun lo => .pointer (some ⟨lo.lb, 0, none⟩)
def StB (X : Nat → Prop) (L : List Lo) (wb tb : Nat) (nv : Value) (b : Nat) : Prop := ¬ X b ∧ ¬ VLo L b ∧ b ≠ wb ∧ b ≠ tb ∧ nv.ownBlock ≠ some b
structure WW (X : Nat → Prop) (w : World) (wb : Nat) (L : List Lo) (P : List Pt) (nv : Value) (tb : Nat) : Prop where
  blk : w.heap[wb]? = some (.cells #[nv, .map (some tb)] 28 (0, 0))
  xw : ¬ X wb ∧ ¬ VLo L wb
  nm : w.ownsRow 0 9 1 nv L.length (strs (L.map fun lo => lo.m.name))
  nx : ∀ b, nv.ownBlock = some b → ¬ X b ∧ b ≠ wb ∧ b ≠ tb ∧ ¬ VLo L b
  tx : ¬ X tb ∧ tb ≠ wb ∧ ¬ VLo L tb
  th : ∃ n, n ≤ 100 ∧ MapV w tb n (thrL L)
  lo : ∀ lo ∈ L, (∃ ia ga pa ba ic gc pc bc, w.heap[lo.lb]? = some (.cells (lcells lo.m ia ga pa ba ic gc pc bc lo.vb) 107 (0, 0)) ∧ MD w (StB X L wb tb nv) lo.m ia ga pa ba ic gc pc bc) ∧ StB X L wb tb nv lo.lb ∧ StB X L wb tb nv lo.vb ∧ (∃ n, MapV w lo.vb n (loV lo)) ∧ Tp.FitM (L.map fun lo => lo.m) lo.m
  sv : ∀ b, VLo L b → b < w.heap.size ∧ ¬ X b
  nd : (L.map fun lo => lo.m.name).Nodup
  inj : ∀ lo ∈ L, ∀ lo' ∈ L, ∀ g ∈ lo.m.vars, ∀ g' ∈ lo'.m.vars, lo.sl g.name = lo'.sl g'.name → lo.m.name = lo'.m.name ∧ g.name = g'.name
  vals : ∀ lo ∈ L, ∃ p, Tp.partOf P lo.m.name = some p ∧ ValOk w lo p
  mw : Tp.ms P = L.map fun lo => lo.m
theorem goesW_below (w : World) (tv : Option Nat) (fuel : Int) : Below w.heap.size w (goesW w tv fuel) := (((Below.refl _ _).alloc (Nat.le_refl _) _).alloc (by simp) _).alloc (by simp; omega) _
theorem goesW_size (w : World) (tv : Option Nat) (fuel : Int) : (goesW w tv fuel).heap.size = w.heap.size + 3 := by unfold goesW; simp
theorem goesW_gb (w : World) (tv : Option Nat) (fuel : Int) : (goesW w tv fuel).heap[w.heap.size + 1]? = some (.cells #[.map tv, .int .i64 fuel, .int .i64 0, .slice none 0 0] 152 (0, 0)) := by
  unfold goesW
  rw [Below.heap_alloc _ _ _ (by simp)]
  have := new_blk (w.alloc (.cells #[.int .i64 0, .slice none 0 0] 43)) (.cells #[.map tv, .int .i64 fuel, .int .i64 0, .slice none 0 0] 152)
  simpa using this
def cxOf (w : World) (tb fuel : Nat) (L : List Lo) : Cx := ⟨goesW w (some tb) (fuel : Int), w.heap.size + 1, tb, L⟩
theorem WW.cx {X : Nat → Prop} {w : World} {wb : Nat} {L : List Lo} {P : List Pt} {nv : Value} {tb : Nat} (h : WW X w wb L P nv tb) (fuel : Nat) (hf : fuel ≤ 800000) : CxOk (cxOf w tb fuel L) ∧ GS (cxOf w tb fuel L) (goesW w (some tb) (fuel : Int)) ⟨P, fuel, []⟩ 0 ∧ ∀ b, ¬ OutB (cxOf w tb fuel L) (goesW w (some tb) (fuel : Int)) b := by
  have hb := goesW_below w (some tb) (fuel : Int)
  have hgb := goesW_gb w (some tb) (fuel : Int)
  have hlt : ∀ {b : Nat} {o : Obj}, w.heap[b]? = some o → b < w.heap.size := fun q => lt_blk q
  have hD : ∀ b, StB X L wb tb nv b → b < w.heap.size → (goesW w (some tb) (fuel : Int)).heap[b]? = w.heap[b]? ∧ (cxOf w tb fuel L).D b := fun b hs hl => ⟨hb.block b hl, by show b < w.heap.size + 1; omega, hs.2.1⟩
  have htl : tb < w.heap.size := by obtain ⟨n, _, hm⟩ := h.th; exact hm.lt
  have hok : CxOk (cxOf w tb fuel L) := by
    refine ⟨⟨by show tb < w.heap.size + 1; omega, h.tx.2.2⟩, ?_, h.nd, fun lo hl => ?_, h.inj⟩
    · obtain ⟨n, _, hm⟩ := h.th
      exact ⟨n, hm.on (hb.block _ htl)⟩
    · obtain ⟨⟨ia, ga, pa, ba, ic, gc, pc, bc, h1, h2⟩, h3, h4, ⟨n, h5⟩, h6⟩ := h.lo lo hl
      exact ⟨⟨ia, ga, pa, ba, ic, gc, pc, bc, (hb.block _ (hlt h1)).trans h1, h2.mono hD⟩, (hD _ h3 (hlt h1)).2, (hD _ h4 h5.lt).2, ⟨n, h5.on (hb.block _ h5.lt)⟩, fun g hg => by
        have := (h.sv _ ⟨lo, hl, g, hg, rfl⟩).1
        show _ < w.heap.size + 1
        omega, h6⟩
  refine ⟨hok, ⟨fun b _ => rfl, ⟨.slice none 0 0, hgb, World.ownsRow_nil _ _ _ _⟩, h.mw, fun lo hl => ?_, by simp, fun v hv => (by cases hv), hf, by omega⟩, ?_⟩
  · obtain ⟨p, p1, p2, p3⟩ := h.vals lo hl
    exact ⟨p, p1, p2, fun g hg => ⟨(p3 g hg).1, (hb.block _ (h.sv _ ⟨lo, hl, g, hg, rfl⟩).1).trans (p3 g hg).2.1, (p3 g hg).2.2⟩⟩
  · rintro b ⟨v, h1, h2⟩
    have h0 : (goesW w (some tb) (fuel : Int)).cell? ⟨(cxOf w tb fuel L).gb, 3, none⟩ = some (.slice none 0 0) := (cell_blk hgb).trans rfl
    rw [h0] at h1
    cases h1
    cases h2
/- what is there behind it -/
theorem WW.keep {X : Nat → Prop} {w w' : World} {wb : Nat} {L : List Lo} {P P' : List Pt} {nv : Value} {tb : Nat} (h : WW X w wb L P nv tb) (hk : ∀ b, b < w.heap.size → ¬ X b → ¬ VLo L b → w'.heap[b]? = w.heap[b]?) (hsz : w.heap.size ≤ w'.heap.size) (hv : ∀ lo ∈ L, ∃ p, Tp.partOf P' lo.m.name = some p ∧ ValOk w' lo p) (hm : Tp.ms P' = L.map fun lo => lo.m) : WW X w' wb L P' nv tb := by
  have hwl := lt_blk h.blk
  have htl : tb < w.heap.size := by obtain ⟨n, _, hm⟩ := h.th; exact hm.lt
  have hD : ∀ b, StB X L wb tb nv b → b < w.heap.size → w'.heap[b]? = w.heap[b]? ∧ StB X L wb tb nv b := fun b hs hl => ⟨hk b hl hs.1 hs.2.1, hs⟩
  refine ⟨(hk _ hwl h.xw.1 h.xw.2).trans h.blk, h.xw, owns_keep h.nm (fun b _ hl ho => hk b hl (h.nx b ho).1 (h.nx b ho).2.2.2), h.nx, h.tx, ?_, fun lo hl => ?_, fun b hb => ⟨Nat.lt_of_lt_of_le (h.sv b hb).1 hsz, (h.sv b hb).2⟩, h.nd, h.inj, hv, hm⟩
  · obtain ⟨n, hn, hm⟩ := h.th
    exact ⟨n, hn, hm.on (hk _ htl h.tx.1 h.tx.2.2)⟩
  · obtain ⟨⟨ia, ga, pa, ba, ic, gc, pc, bc, h1, h2⟩, h3, h4, ⟨n, h5⟩, h6⟩ := h.lo lo hl
    exact ⟨⟨ia, ga, pa, ba, ic, gc, pc, bc, ((hD _ h3 (lt_blk h1)).1).trans h1, h2.mono hD⟩, h3, h4, ⟨n, h5.on (hD _ h4 h5.lt).1⟩, h6⟩
theorem WW.after {X : Nat → Prop} {w w2 w' : World} {wb : Nat} {L : List Lo} {P : List Pt} {nv : Value} {tb fuel k : Nat} {s : Rs} (h : WW X w wb L P nv tb) (hf : fuel ≤ 800000) (hg : GS (cxOf w tb fuel L) w2 s k) (hk : Kp (cxOf w tb fuel L) nY (goesW w (some tb) (fuel : Int)) w2) (hx : Ext w.heap.size w2 w') : WW X w' wb L s.w nv tb ∧ ∀ b, b < w.heap.size → ¬ VLo L b → w'.heap[b]? = w.heap[b]? := by
  obtain ⟨hok, hg0, hno⟩ := h.cx fuel hf
  have hb := goesW_below w (some tb) (fuel : Int)
  have hs := goesW_size w (some tb) (fuel : Int)
  have hsz := hk.size
  have hkk : ∀ b, b < w.heap.size → ¬ VLo L b → w'.heap[b]? = w.heap[b]? := fun b hl hv =>
    ((hx.block b (by omega) (by omega)).trans (hk.block b (by omega) (by show b ≠ w.heap.size + 1; omega) hv (hno b) (fun q => q))).trans (hb.block b hl)
  refine ⟨h.keep (fun b hl _ hv => hkk b hl hv) (by have := hx.size; omega) (fun lo hl => ?_) hg.mw, hkk⟩
  obtain ⟨p, p1, p2, p3⟩ := hg.vals lo hl
  exact ⟨p, p1, p2, fun g hgm => ⟨(p3 g hgm).1, (hx.block _ (lt_blk (p3 g hgm).2.1) (by have := (h.sv _ ⟨lo, hl, g, hgm, rfl⟩).1; omega)).trans (p3 g hgm).2.1, (p3 g hgm).2.2⟩⟩
end Go.Proofs.YtibncofnnlbmcaaGreatDoor
