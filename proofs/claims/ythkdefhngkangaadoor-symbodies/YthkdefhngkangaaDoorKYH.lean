import Derived.Test.YthkdefhngkangaaDoorKYF
import Derived.Test.YthkdefhngkangaaDoorKWO
/- A module from which what is within is taken: its two boxes. -/
namespace Go.Proofs.YthkdefhngkangaaDoor
open Go.RowKit Go.Sort
open Tp (Sy G Pr)

/- m lies in block b, what is left of it in block b + 1 -/
structure NS (w2 w : World) (bx : Array Value) (nm : List UInt8) (gs : List G) (ps : List Pr) (gv pv : Value) (pcs : List Value) : Prop where
  b1 : w.heap[w2.heap.size]? = some (.cells bx 28 (0, 0))
  b2 : w.heap[w2.heap.size + 1]? = some (.cells #[.string (bs nm), .slice none 0 0, gv, pv, .slice none 0 0] 28 (0, 0))
  gl : w.ownsRow (w2.heap.size + 2) 41 4 gv gs.length (gcs gs)
  pl : w.ownsRow (w2.heap.size + 2) 43 6 pv ps.length pcs
  ne : ∀ g, gv.ownBlock = some g → pv.ownBlock ≠ some g
  rp : RepP w (fun b => b < w2.heap.size) ps pcs
  bel : Below w2.heap.size w2 w
theorem NS.on {w2 w w' : World} {bx : Array Value} {nm : List UInt8} {gs : List G} {ps : List Pr} {gv pv : Value} {pcs : List Value} (h : NS w2 w bx nm gs ps gv pv pcs) (k : Below w.heap.size w w') : NS w2 w' bx nm gs ps gv pv pcs :=
  ⟨(k.block _ (lt_blk h.b1)).trans h.b1, (k.block _ (lt_blk h.b2)).trans h.b2, owns_below h.gl k, owns_below h.pl k, h.ne, RepP.mono (fun b hb hl => ⟨k.block b hl, hb⟩) _ _ h.rp, h.bel.trans (k.mono h.bel.size)⟩
theorem NS.addG {w2 w w5 : World} {bx : Array Value} {nm : List UInt8} {gs : List G} {gv gv' : Value} {g : G} (h : NS w2 w bx nm gs [] gv (.slice none 0 0) [])
    (hown : w5.ownsRow (w2.heap.size + 2) 41 4 gv' (gs.length + 1) (gcs gs ++ (gcells (bs g.name) (g.pos : Int) (g.len : Int) g.seen).toList)) (hgrow : w.grownBy w5 gv.ownBlock) :
    NS w2 (w5.setCell ⟨w2.heap.size + 1, 2, none⟩ gv') bx nm (gs ++ [g]) [] gv' (.slice none 0 0) [] := by
  have hr : ∀ k, k < w2.heap.size + 2 → gv.ownBlock ≠ some k := fun k hk e => by have := owns_row h.gl k e; omega
  have hb : ∀ k, k < w2.heap.size + 2 → w5.heap[k]? = w.heap[k]? := fun k hk => by
    by_cases hl : k < w.heap.size
    · exact hgrow.block k hl (fun e => hr k hk e.symm)
    · have := lt_blk h.b2; omega
  have hx : ∀ b, b ≠ w2.heap.size + 1 → (w5.setCell ⟨w2.heap.size + 1, 2, none⟩ gv').heap[b]? = w5.heap[b]? := fun b hb => Below.heap_setCell _ _ _ _ (by simpa using hb)
  have hset := set_blk 2 gv' ((hb (w2.heap.size + 1) (by omega)).trans h.b2)
  refine ⟨(hx _ (by omega)).trans ((hb _ (by omega)).trans h.b1), hset, ?_, World.ownsRow_nil _ _ _ _, fun b _ e => (by cases e), rfl, ?_⟩
  · rw [gcs_app, List.length_append]
    have : gcs [g] = (gcells (bs g.name) (g.pos : Int) (g.len : Int) g.seen).toList := by simp [gcs]
    rw [this]
    exact owns_keep hown (fun b h1 _ _ => hx b (by omega))
  · refine ⟨hgrow.os.trans h.bel.os, hgrow.tape.trans h.bel.tape, hgrow.output.trans h.bel.output, ?_, fun k hk => (hx k (by omega)).trans ((hb k (by omega)).trans (h.bel.block k hk))⟩
    have := h.bel.size
    have := hgrow.size
    simp
    omega
theorem NS.addP {w2 w w5 : World} {bx : Array Value} {nm : List UInt8} {gs : List G} {ps : List Pr} {gv pv pv' : Value} {pcs us : List Value} {c : Pr} (h : NS w2 w bx nm gs ps gv pv pcs) (hc : RepP w (fun b => b < w2.heap.size) [c] us)
    (hown : w5.ownsRow (w2.heap.size + 2) 43 6 pv' (ps.length + 1) (pcs ++ us)) (hgrow : w.grownBy w5 pv.ownBlock) (hw : ∀ b, pv'.ownBlock = some b → pv.ownBlock = some b ∨ w.heap.size ≤ b) :
    NS w2 (w5.setCell ⟨w2.heap.size + 1, 3, none⟩ pv') bx nm gs (ps ++ [c]) gv pv' (pcs ++ us) := by
  have hr : ∀ k, k < w2.heap.size + 2 → pv.ownBlock ≠ some k := fun k hk e => by have := owns_row h.pl k e; omega
  have hb : ∀ k, k < w2.heap.size + 2 → w5.heap[k]? = w.heap[k]? := fun k hk => by
    by_cases hl : k < w.heap.size
    · exact hgrow.block k hl (fun e => hr k hk e.symm)
    · have := lt_blk h.b2; omega
  have hx : ∀ b, b ≠ w2.heap.size + 1 → (w5.setCell ⟨w2.heap.size + 1, 3, none⟩ pv').heap[b]? = w5.heap[b]? := fun b hb => Below.heap_setCell _ _ _ _ (by simpa using hb)
  have hset := set_blk 3 pv' ((hb (w2.heap.size + 1) (by omega)).trans h.b2)
  have hD : ∀ b, b < w2.heap.size → b < w.heap.size → (w5.setCell ⟨w2.heap.size + 1, 3, none⟩ pv').heap[b]? = w.heap[b]? ∧ b < w2.heap.size := fun b hb' _ => ⟨(hx b (by omega)).trans (hb b (by omega)), hb'⟩
  refine ⟨(hx _ (by omega)).trans ((hb _ (by omega)).trans h.b1), hset, ?_, ?_, fun b hb' e => ?_, RepP.app _ _ _ _ (RepP.mono hD _ _ h.rp) (RepP.mono hD _ _ hc), ?_⟩
  · exact owns_keep h.gl (fun b h1 h2 h3 => (hx b (by omega)).trans (hgrow.block b h2 (fun e => h.ne b h3 e.symm)))
  · rw [List.length_append]
    exact owns_keep hown (fun b h1 _ _ => hx b (by omega))
  · rcases hw b e with q | q
    · exact h.ne b hb' q
    · have := (h.gl.lt b hb').2; omega
  · refine ⟨hgrow.os.trans h.bel.os, hgrow.tape.trans h.bel.tape, hgrow.output.trans h.bel.output, ?_, fun k hk => (hx k (by omega)).trans ((hb k (by omega)).trans (h.bel.block k hk))⟩
    have := h.bel.size
    have := hgrow.size
    simp
    omega
theorem NSkeep {w2 w w' w5 : World} {bx : Array Value} {nm : List UInt8} {gs : List G} {ps : List Pr} {gv pv : Value} {pcs : List Value} (h : NS w2 w bx nm gs ps gv pv pcs) (hgrow : w'.grownBy w5 gv.ownBlock) (hw' : ∀ k, k < w.heap.size → w'.heap[k]? = w.heap[k]?) :
    w5.heap[w2.heap.size + 1]? = some (.cells #[.string (bs nm), .slice none 0 0, gv, pv, .slice none 0 0] 28 (0, 0)) := by
  have hl := lt_blk h.b2
  have hr : gv.ownBlock ≠ some (w2.heap.size + 1) := fun e => by have := owns_row h.gl _ e; omega
  have h1 := (hw' _ hl).trans h.b2
  exact (hgrow.block _ (lt_blk h1) (fun e => hr e.symm)).trans h1
theorem NSkeepP {w2 w w5 : World} {bx : Array Value} {nm : List UInt8} {gs : List G} {ps : List Pr} {gv pv : Value} {pcs : List Value} (h : NS w2 w bx nm gs ps gv pv pcs) (hgrow : w.grownBy w5 pv.ownBlock) :
    w5.heap[w2.heap.size + 1]? = some (.cells #[.string (bs nm), .slice none 0 0, gv, pv, .slice none 0 0] 28 (0, 0)) := by
  have hr : pv.ownBlock ≠ some (w2.heap.size + 1) := fun e => by have := owns_row h.pl _ e; omega
  exact (hgrow.block _ (lt_blk h.b2) (fun e => hr e.symm)).trans h.b2
theorem newsP (w : World) (o : Obj) (v0 v1 v2 v3 v4 v5 : Value) (t : TypeId) : ∀ (j : Nat) (u : Value), ([v0, v1, v2, v3, v4, v5] : List Value)[j]? = some u → ((w.alloc o).alloc (.cells #[v0, v1, v2, v3, v4, v5] t)).cell? ((⟨w.heap.size + 1, 0, none⟩ : Addr).add j) = some u := by
  intro j u hj
  rw [Addr.add_lit, cell_blk (new_blk1 _ _ _), Nat.zero_add]
  simpa using hj
/- what is left of a procedure -/
def barP (p : Pr) : Pr := ⟨p.name, p.pos, p.seen, p.params, [], []⟩
def barM (m : Tp.M) : Tp.M := ⟨m.name, [], m.vars.filter (·.seen), (m.procs.filter (·.seen)).map barP, []⟩
theorem syms_bar (m : Tp.M) : Tp.symsOf (barM m) = Tp.symsOf m := by
  unfold Tp.symsOf barM
  simp only [List.filter_filter, Bool.and_self]
  congr 1
  rw [List.filter_map]
  have e : ((fun p : Pr => p.seen) ∘ barP) = fun p : Pr => p.seen := rfl
  rw [e, List.filter_filter]
  simp only [Bool.and_self, List.map_map]
  rfl
theorem bar_len (m : Tp.M) : (Tp.symsOf m).length = (barM m).vars.length + (barM m).procs.length := by
  unfold Tp.symsOf barM
  simp
theorem NS.mb {w2 w : World} {bx : Array Value} {nm : List UInt8} {gs : List G} {ps : List Pr} {ga pa : Option Addr} {gc pc : Nat} {pcs : List Value} (h : NS w2 w bx nm gs ps (.slice ga gs.length gc) (.slice pa ps.length pc) pcs) :
    MB w w.heap.size ⟨nm, [], gs, ps, []⟩ none ga pa none 0 gc pc 0 := by
  refine ⟨Or.inl ⟨rfl, rfl, rfl⟩, ?_, ⟨pcs, RepP.mono (fun b hb hl => ⟨rfl, hl⟩) _ _ h.rp, ?_⟩, ⟨[], by simp [RepS], Or.inl ⟨rfl, rfl⟩⟩⟩
  · exact (Row.of_owns h.gl).mono fun b _ hl => ⟨rfl, hl⟩
  · exact (Row.of_owns h.pl).mono fun b _ hl => ⟨rfl, hl⟩
end Go.Proofs.YthkdefhngkangaaDoor
/- SymBodies, walked. -/
namespace Go.Proofs.YthkdefhngkangaaDoor
open Go.RowKit Go.Sort
open Tp (Sy G Pr)

set_option maxRecDepth 100000 in
theorem symBodies_long {w : World} {l : List UInt8} (h : 1000 < l.length) : Calls Tryd.prog 5 #[.string (bs l)] w fun e w' => e = .returned (.bool true) ∧ Below w.heap.size w w' := by
  have hs : (1000 : Int) < ((bs l).size : Int) := by rw [bs_size]; omega
  go_enter Tryd.func5, Tryd.ntmps5
  go_wp2_with fail
  go_ret
  exact ⟨rfl, Below.refl _ _⟩
set_option maxRecDepth 100000 in
set_option maxHeartbeats 1000000 in
theorem symBodies_bad {w : World} {B : Nat} {l : List UInt8} {er : Nat × Nat} (h : l.length ≤ 1000) (hp : Tp.parse l = .error er) (hv : Vars B w) (hB : B ≤ w.heap.size) : Calls Tryd.prog 5 #[.string (bs l)] w fun e w' => e = .returned (.bool true) ∧ Below w.heap.size w w' := by
  have hs : ((bs l).size : Int) ≤ 1000 := by rw [bs_size]; omega
  have H1 := Lib.hid (seen_post hv)
  have HV := Lib.hid hv
  clear hv
  go_enter Tryd.func5, Tryd.ntmps5
  go_wp2_with fail
  refine H1.out.mono ?_
  rintro e w1 ⟨rfl, h1⟩
  have hc := parse_post w1 l (by omega) (HV.out.on (h1.mono hB)).mks (HV.out.on (h1.mono hB)).lv
  have HP : Hid (Calls Tryd.prog 8 #[.string (bs l)] w1 fun e w' => Below w1.heap.size w1 w' ∧ ∃ ab, e = .returned (.tuple #[.agg m0, .iface 75 (.pointer (some ⟨ab, 0, none⟩))])) := by
    refine hc.mono ?_
    rintro e w' ⟨q1, q2⟩
    unfold ParseP at q2
    rw [hp] at q2
    obtain ⟨ab, q3, _⟩ := q2
    exact ⟨q1, ab, q3⟩
  have H2 := Lib.hid h1
  clear hc h1 H1 HV
  go_wp2_with fail
  refine HP.out.mono ?_
  rintro e w2 ⟨h2, ab, rfl⟩
  have H3 := Lib.hid (H2.out.trans (h2.mono H2.out.size))
  clear h2
  unfold m0
  go_wp2_with fail
  go_ret
  exact ⟨rfl, H3.out.trans (((Below.refl _ _).alloc (Nat.le_refl _) _).mono H3.out.size)⟩
set_option maxRecDepth 100000 in
set_option maxHeartbeats 4000000 in
theorem symBodies_good {w : World} {B : Nat} {l : List UInt8} {m : Tp.M} (h : l.length ≤ 1000) (hp : Tp.parse l = .ok m) (hv : Vars B w) (hB : B ≤ w.heap.size) : Calls Tryd.prog 5 #[.string (bs l)] w fun e w' => e = .returned (.bool true) ∧ Below w.heap.size w w' := by
  have hs : ((bs l).size : Int) ≤ 1000 := by rw [bs_size]; omega
  have hwm := (Tp.parse_wm hp).1
  have H1 := Lib.hid (seen_post hv)
  have HV := Lib.hid hv
  clear hv
  go_enter Tryd.func5, Tryd.ntmps5
  go_wp2_with fail
  refine H1.out.mono ?_
  rintro e w1 ⟨rfl, h1⟩
  have hv1 := HV.out.on (h1.mono hB)
  have hc := parse_post w1 l (by omega) hv1.mks hv1.lv
  have HP : Hid (Calls Tryd.prog 8 #[.string (bs l)] w1 fun e w' => Below w1.heap.size w1 w' ∧ ∃ v, e = .returned (.tuple #[v, .nilIface]) ∧ VM w1.heap.size m v w') := by
    refine hc.mono ?_
    rintro e w' ⟨q1, q2⟩
    unfold ParseP at q2
    rw [hp] at q2
    exact ⟨q1, q2⟩
  have HB1 := Lib.hid h1
  clear hc h1 H1 hv1 hp HV
  go_wp2_with fail
  refine HP.out.mono ?_
  rintro e w2 ⟨h2, v2, rfl, hvm⟩
  obtain ⟨ia, ga, pa, ba, ic, gc, pc, bc, rfl, hmb⟩ := hvm.mb
  have H2 := Lib.hid (HB1.out.trans (h2.mono HB1.out.size))
  have HMB := Lib.hid hmb
  have HWM := Lib.hid hwm
  have hgc := hwm.gc
  have hpc := hwm.pc
  have hgn' : (m.vars.length : Int) ≤ 10 := by omega
  have hpn' : (m.procs.length : Int) ≤ 10 := by omega
  have e0 : mcells (bs m.name) (.slice ia m.imports.length ic) (.slice ga m.vars.length gc) (.slice pa m.procs.length pc) (.slice ba m.body.length bc) = #[.string (bs m.name), .slice ia m.imports.length ic, .slice ga m.vars.length gc, .slice pa m.procs.length pc, .slice ba m.body.length bc] := rfl
  rw [e0]
  obtain ⟨n1, hn1⟩ : ∃ n, n = m.imports.length := ⟨_, rfl⟩
  obtain ⟨gn, hgn⟩ : ∃ n, n = m.vars.length := ⟨_, rfl⟩
  obtain ⟨pn, hpn⟩ : ∃ n, n = m.procs.length := ⟨_, rfl⟩
  obtain ⟨n4, hn4⟩ : ∃ n, n = m.body.length := ⟨_, rfl⟩
  obtain ⟨nm, hnm⟩ : ∃ n, n = m.name := ⟨_, rfl⟩
  rw [← hgn] at hgn'
  rw [← hpn] at hpn'
  rw [← hn1, ← hgn, ← hpn, ← hn4, ← hnm]
  have HGN := Lib.hid hgn
  have HPN := Lib.hid hpn
  have HEQ := Lib.hid (And.intro hn1 (And.intro hn4 hnm))
  clear hmb hvm h2 e0 HP hwm hgc hpc hn1 hgn hpn hn4 hnm
  -- LOOPS
  obtain ⟨i4, hi4, hz40, hz41, hz42⟩ := info_parts Tryd.infoGlobal
  obtain ⟨i6, hi6, hz60, hz61, hz62⟩ := info_parts Tryd.infoProc
  have HNS0 : Hid (NS w2 ((w2.alloc (.cells #[.string (bs nm), .slice ia n1 ic, .slice ga gn gc, .slice pa pn pc, .slice ba n4 bc] 28)).alloc (.cells #[.string (bs nm), .slice none 0 0, .slice none 0 0, .slice none 0 0, .slice none 0 0] 28)) #[.string (bs nm), .slice ia n1 ic, .slice ga gn gc, .slice pa pn pc, .slice ba n4 bc] nm [] [] (.slice none 0 0) (.slice none 0 0) []) :=
    ⟨(Below.heap_alloc _ _ w2.heap.size (by simp)).trans (new_blk _ _), new_blk1 _ _ _, World.ownsRow_nil _ _ _ _, World.ownsRow_nil _ _ _ _, fun g hg => (by cases hg), rfl, ((Below.refl _ _).alloc (Nat.le_refl _) _).alloc (by simp) _⟩
  go_wp2_with fail
  go_loopg [6] gn (fun k vi wr => ∃ (i : Nat) (gv : Value), i ≤ gn ∧ k = gn - i ∧ vi = .int .i64 (i : Int) ∧ Hid (NS w2 wr #[.string (bs nm), .slice ia n1 ic, .slice ga gn gc, .slice pa pn pc, .slice ba n4 bc] nm ((m.vars.take i).filter (·.seen)) [] gv (.slice none 0 0) []))
  case atStart => exact ⟨0, .slice none 0 0, by omega, by omega, rfl, by simpa using HNS0⟩
  case round =>
    obtain ⟨i, gv, hid, hk, rfl, HN⟩ := hrel
    clear HNS0
    have hns := HN.out
    obtain ⟨_, _, k2, k3, _⟩ := cell_box5 hns.b1
    have hl1 := lt_blk hns.b1
    have hl2 := lt_blk hns.b2
    by_cases hlt : i < gn
    · have hlt' : (i : Int) < (gn : Int) := by omega
      have hia : i < m.vars.length := by have := HGN.out; omega
      have hrow := HMB.out.gl
      obtain ⟨g, cap, q1, q2, q3, q4⟩ := row_cell hrow (by omega)
      have hga : ga = some ⟨g, 0, none⟩ := by cases q1; rfl
      subst hga
      have hcc := fun j (hj : j < 4) => (hns.bel.cell (p := ⟨g, i * 4 + j, none⟩) q2).trans ((q4 (i * 4 + j) (by omega)).trans (gcs_get m.vars i hia j hj))
      have kc0 : wr.cell? ⟨g, i * 4, none⟩ = some (.string (bs m.vars[i].name)) := hcc 0 (by omega)
      have kc1 : wr.cell? ⟨g, i * 4 + 1, none⟩ = some (.int .i64 (m.vars[i].pos : Int)) := hcc 1 (by omega)
      have kc2 : wr.cell? ⟨g, i * 4 + 2, none⟩ = some (.int .i64 (m.vars[i].len : Int)) := hcc 2 (by omega)
      have kc3 : wr.cell? ⟨g, i * 4 + 3, none⟩ = some (.bool m.vars[i].seen) := hcc 3 (by omega)
      have hlgr : g < wr.heap.size := by have := hns.bel.size; omega
      have hfs := filt_succ (fun g : G => g.seen) id m.vars i hia
      simp only [List.map_id, id] at hfs
      obtain ⟨ao, co, hgv⟩ := owns_shape hns.gl
      subst hgv
      have hfl := filt_len (fun g : G => g.seen) id (m.vars.take i)
      simp only [List.map_id, List.length_take] at hfl
      generalize hx : m.vars[i] = x at *
      obtain ⟨x0, x1, x2, x3⟩ := x
      simp only at kc0 kc1 kc2 kc3 hfs
      clear hcc q1 q4 hrow HN
      cases x3 with
      | false =>
        have HN2 : Hid (NS w2 wr #[.string (bs nm), .slice ia n1 ic, .slice (some ⟨g, 0, none⟩) gn gc, .slice pa pn pc, .slice ba n4 bc] nm ((m.vars.take (i + 1)).filter (·.seen)) [] (.slice ao ((m.vars.take i).filter (·.seen)).length co) (.slice none 0 0) []) := by
          unfold Hid
          rw [show (m.vars.take (i + 1)).filter (·.seen) = (m.vars.take i).filter (·.seen) by simpa using hfs]
          exact hns
        clear hns hfs
        go_wp2_with fail
        go_roundg (gn - (i + 1))
        case measure => omega
        case rel => exact ⟨i + 1, _, by omega, rfl, by go_num, HN2⟩
      | true =>
        obtain ⟨gl, hgl⟩ : ∃ gl, gl = (m.vars.take i).filter (·.seen) := ⟨_, rfl⟩
        rw [← hgl] at hns hfl hfs
        have HFS : Hid ((m.vars.take (i + 1)).filter (·.seen) = gl ++ [⟨x0, x1, x2, true⟩]) := by unfold Hid; simpa using hfs
        obtain ⟨_, _, j2, _, _⟩ := cell_box5 hns.b2
        have z2 : wr.frozen? ⟨w2.heap.size + 1, 2, none⟩ = false := frozen_blk hns.b2
        have HNS := Lib.hid hns
        have HD := Lib.hid (below_drew wr)
        clear hfs hgl hns
        go_wp2_with fail
        have hbd : Below wr.heap.size wr wr.drew := below_drew wr
        go_region_law (first | (refine step_append_where rfl (.tmp 40) (.tmp 46) 24 rfl (w2.heap.size + 2) 41 i4 (.agg #[.string ⟨#[]⟩, .int .i64 0, .int .i64 0, .bool false]) 4 40 Tryd.underlying24 hi4 hz40 hz41 hz42 rfl (by decide) (.slice ao gl.length co) gl.length (gcs gl) (by simp [Act.eval]) ?own ⟨wr.heap.size, 0, none⟩ 1 1 [.string (bs x0), .int .i64 (x1 : Int), .int .i64 (x2 : Int), .bool true] (by simp [Act.eval]) rfl ?news (by intro u hu; simp at hu; rcases hu with rfl | rfl | rfl | rfl <;> rfl) (by unfold maxLen; omega) (by omega) ?base ?_; (case own => first | exact (owns_below HNS.out.gl hbd).alloc _ | exact owns_below (HNS.out.gl.alloc _) (below_drew _)); (case news => first | exact news4 wr.drew _ _ _ _ _ | exact news4 wr _ _ _ _ _); (case base => simp; omega); intro v' w10 hown10 hgrow10 hwhere10; have b10 : w10.heap[w2.heap.size + 1]? = some (.cells #[.string (bs nm), .slice none 0 0, .slice ao gl.length co, .slice none 0 0, .slice none 0 0] 28 (0, 0)) := NSkeep HNS.out hgrow10 (fun k hk => by first | exact Below.heap_alloc _ _ k hk | exact Below.heap_alloc wr _ k hk); have k10 : w10.cell? ⟨w2.heap.size + 1, 2, none⟩ = some (.slice ao gl.length co) := (cell_box5 b10).2.2.1; have z10 : w10.frozen? ⟨w2.heap.size + 1, 2, none⟩ = false := frozen_blk b10; obtain ⟨va, vc, hvv⟩ := owns_shape hown10; subst hvv))
        all_goals
          have hns10 := (HNS.out.on (((Below.refl _ _).alloc (Nat.le_refl _) (.cells #[.string (bs x0), .int .i64 (x1 : Int), .int .i64 (x2 : Int), .bool true] 41)).drew)).addG (g := ⟨x0, x1, x2, true⟩) hown10 hgrow10
          rw [← HFS.out] at hns10
          have HN10 := Lib.hid hns10
          clear hns10 hown10 hgrow10 hwhere10 b10 k10 z10
          go_wp2_with fail
          go_roundg (gn - (i + 1))
          case measure => omega
          case rel => exact ⟨i + 1, _, by omega, rfl, by go_num, HN10⟩
    · have hlt' : ¬ (i : Int) < (gn : Int) := by omega
      have hei : i = m.vars.length := by have := HGN.out; omega
      have HN2 : Hid (NS w2 wr #[.string (bs nm), .slice ia n1 ic, .slice ga gn gc, .slice pa pn pc, .slice ba n4 bc] nm (m.vars.filter (·.seen)) [] gv (.slice none 0 0) []) := by
        have := hns
        rw [hei, List.take_length] at this
        exact this
      obtain ⟨ao, co, hgv⟩ := owns_shape HN2.out.gl
      subst hgv
      obtain ⟨gf, hgf⟩ : ∃ gf, gf = m.vars.filter (·.seen) := ⟨_, rfl⟩
      rw [← hgf] at HN2
      have HGF := Lib.hid hgf
      clear hns HN hei hgf
      go_wp2_with fail
      go_loopg [7] pn (fun k vi wr => ∃ (j : Nat) (pv : Value) (pcs : List Value), j ≤ pn ∧ k = pn - j ∧ vi = .int .i64 (j : Int) ∧ Hid (NS w2 wr #[.string (bs nm), .slice ia n1 ic, .slice ga gn gc, .slice pa pn pc, .slice ba n4 bc] nm gf (((m.procs.take j).filter (·.seen)).map barP) (.slice ao gf.length co) pv pcs))
      case atStart => exact ⟨0, .slice none 0 0, [], by omega, by omega, rfl, by simpa using HN2⟩
      case round =>
        obtain ⟨j, pv, pcs, hjd, hk2, rfl, HN⟩ := hrel
        clear HN2 k2 k3 hl1 hl2
        have hns := HN.out
        obtain ⟨_, _, k2, k3, _⟩ := cell_box5 hns.b1
        have hl1 := lt_blk hns.b1
        have hl2 := lt_blk hns.b2
        by_cases hlt2 : j < pn
        · have hlt2' : (j : Int) < (pn : Int) := by omega
          have hia : j < m.procs.length := by have := HPN.out; omega
          obtain ⟨pcs0, hrp, hrow⟩ := HMB.out.pr
          obtain ⟨g, cap, q1, q2, q3, q4⟩ := row_cell hrow (by omega)
          have hpa : pa = some ⟨g, 0, none⟩ := by cases q1; rfl
          subst hpa
          obtain ⟨pv0, vv0, bv0, bcs0, r1, r2, r3, r4, r5⟩ := repp_get m.procs pcs0 hrp j hia
          obtain ⟨y3, c3, rfl⟩ := r2.shape
          obtain ⟨y4, c4, rfl⟩ := r3.shape
          obtain ⟨y5, c5, rfl⟩ := r5.shape
          have hcc := fun t (ht : t < 6) => (hns.bel.cell (p := ⟨g, j * 6 + t, none⟩) q2).trans ((q4 (j * 6 + t) (by omega)).trans (r1 t ht))
          have kc0 : wr.cell? ⟨g, j * 6, none⟩ = some (.string (bs m.procs[j].name)) := hcc 0 (by omega)
          have kc1 : wr.cell? ⟨g, j * 6 + 1, none⟩ = some (.int .i64 (m.procs[j].pos : Int)) := hcc 1 (by omega)
          have kc2 : wr.cell? ⟨g, j * 6 + 2, none⟩ = some (.bool m.procs[j].seen) := hcc 2 (by omega)
          have kc3 : wr.cell? ⟨g, j * 6 + 3, none⟩ = some (.slice y3 m.procs[j].params.length c3) := hcc 3 (by omega)
          have kc4 : wr.cell? ⟨g, j * 6 + 4, none⟩ = some (.slice y4 m.procs[j].vars.length c4) := hcc 4 (by omega)
          have kc5 : wr.cell? ⟨g, j * 6 + 5, none⟩ = some (.slice y5 m.procs[j].body.length c5) := hcc 5 (by omega)
          have hlgr : g < wr.heap.size := by have := hns.bel.size; omega
          have hfs := filt_succ (fun p : Pr => p.seen) barP m.procs j hia
          have hrw : Row wr (fun b => b < w2.heap.size) 9 1 (.slice y3 m.procs[j].params.length c3) m.procs[j].params.length (strs m.procs[j].params) := r2.mono (fun b hb _ => ⟨hns.bel.block b hb, hb⟩)
          obtain ⟨po, pco, hpv⟩ := owns_shape hns.pl
          subst hpv
          have hfl := filt_len (fun p : Pr => p.seen) barP (m.procs.take j)
          simp only [List.length_take] at hfl
          generalize hx : m.procs[j] = x at *
          obtain ⟨x0, x1, x2, x3, x4, x5⟩ := x
          simp only at kc0 kc1 kc2 kc3 kc4 kc5 hfs hrw
          clear hcc q1 q4 hrow HN r1 r2 r3 r4 r5 hrp
          obtain ⟨pl, hpl⟩ : ∃ pl, pl = ((m.procs.take j).filter (·.seen)).map barP := ⟨_, rfl⟩
          rw [← hpl] at hns hfl hfs
          cases x2 with
          | false =>
            have HN2 : Hid (∀ ob, NS w2 (wr.alloc ob) #[.string (bs nm), .slice ia n1 ic, .slice ga gn gc, .slice (some ⟨g, 0, none⟩) pn pc, .slice ba n4 bc] nm gf (((m.procs.take (j + 1)).filter (·.seen)).map barP) (.slice ao gf.length co) (.slice po pl.length pco) pcs) := by
              intro ob
              rw [show ((m.procs.take (j + 1)).filter (·.seen)).map barP = pl by simpa using hfs]
              exact hns.on ((Below.refl _ _).alloc (Nat.le_refl _) _)
            clear hns hfs hpl
            go_wp2_with fail
            go_roundg (pn - (j + 1))
            case measure => omega
            case rel => exact ⟨j + 1, _, _, by omega, rfl, by go_num, HN2.out _⟩
          | true =>
            have HFS : Hid (((m.procs.take (j + 1)).filter (·.seen)).map barP = pl ++ [⟨x0, x1, true, x3, [], []⟩]) := by unfold Hid; simpa [barP] using hfs
            obtain ⟨_, _, _, j3, _⟩ := cell_box5 hns.b2
            have z3 : wr.frozen? ⟨w2.heap.size + 1, 3, none⟩ = false := frozen_blk hns.b2
            have HNS := Lib.hid hns
            have HRW := Lib.hid hrw
            obtain ⟨n3, hn3⟩ : ∃ n3, n3 = x3.length := ⟨_, rfl⟩
            rw [← hn3] at kc3 HRW
            have HN3 := Lib.hid hn3
            generalize x4.length = n4' at *
            generalize x5.length = n5 at *
            clear hfs hpl hns hrw hn3
            have hownA := ((HNS.out.pl.alloc (.cells #[.string (bs x0), .int .i64 (x1 : Int), .bool true, .slice y3 n3 c3, .slice none 0 0, .slice none 0 0] 43)).alloc (.cells #[.string (bs x0), .int .i64 (x1 : Int), .bool true, .slice y3 n3 c3, .slice none 0 0, .slice none 0 0] 43))
            have HOA := Lib.hid hownA
            clear hownA
            go_wp2_with (at_builtin; refine wpList_append_where _ rfl _ _ 25 rfl (w2.heap.size + 2) 43 i6 (.agg #[.string ⟨#[]⟩, .int .i64 0, .bool false, .slice none 0 0, .slice none 0 0, .slice none 0 0]) 6 104 Tryd.underlying25 hi6 hz60 hz61 hz62 rfl (by decide) _ _ _ rfl HOA.out ⟨wr.heap.size + 1, 0, none⟩ 1 1 [.string (bs x0), .int .i64 (x1 : Int), .bool true, .slice y3 n3 c3, .slice none 0 0, .slice none 0 0] rfl rfl (newsP wr _ _ _ _ _ _ _ _) (by intro u hu; simp at hu; rcases hu with rfl | rfl | rfl | rfl | rfl <;> rfl) (by unfold maxLen; omega) (by omega) (by simp; omega) ?_)
            intro v3 w3 hown3 hgrow3 hwh3
            have hal2 : Below wr.heap.size wr ((wr.alloc (.cells #[.string (bs x0), .int .i64 (x1 : Int), .bool true, .slice y3 n3 c3, .slice none 0 0, .slice none 0 0] 43)).alloc (.cells #[.string (bs x0), .int .i64 (x1 : Int), .bool true, .slice y3 n3 c3, .slice none 0 0, .slice none 0 0] 43)) := ((Below.refl _ _).alloc (Nat.le_refl _) _).alloc (by simp) _
            have hnsA := HNS.out.on hal2
            have hrp : RepP ((wr.alloc (.cells #[.string (bs x0), .int .i64 (x1 : Int), .bool true, .slice y3 n3 c3, .slice none 0 0, .slice none 0 0] 43)).alloc (.cells #[.string (bs x0), .int .i64 (x1 : Int), .bool true, .slice y3 n3 c3, .slice none 0 0, .slice none 0 0] 43)) (fun b => b < w2.heap.size) [⟨x0, x1, true, x3, [], []⟩] [.string (bs x0), .int .i64 (x1 : Int), .bool true, .slice y3 n3 c3, .slice none 0 0, .slice none 0 0] := by
              refine ⟨.slice y3 n3 c3, .slice none 0 0, .slice none 0 0, [], [], rfl, ?_, Or.inl ⟨rfl, rfl, rfl⟩, by simp [RepS], Or.inl ⟨rfl, rfl⟩, rfl⟩
              have hr := HRW.out.mono (fun b hb hl => ⟨hal2.block b hl, hb⟩)
              rw [HN3.out] at hr ⊢
              exact hr
            have hns3 := hnsA.addP hrp hown3 hgrow3 (fun b hb => (hwh3 b hb).imp id (fun q => by simpa using q))
            rw [← HFS.out] at hns3
            obtain ⟨va, vc, hvv⟩ := owns_shape hown3
            subst hvv
            have b10 : w3.heap[w2.heap.size + 1]? = some (.cells #[.string (bs nm), .slice none 0 0, .slice ao gf.length co, .slice po pl.length pco, .slice none 0 0] 28 (0, 0)) := NSkeepP hnsA hgrow3
            have k10 : w3.cell? ⟨w2.heap.size + 1, 3, none⟩ = some (.slice po pl.length pco) := (cell_box5 b10).2.2.2.1
            have z10 : w3.frozen? ⟨w2.heap.size + 1, 3, none⟩ = false := frozen_blk b10
            have HN10 := Lib.hid hns3
            clear hns3 hown3 hgrow3 hwh3 b10 hrp hnsA hal2 HOA
            go_wp2_with fail
            go_roundg (pn - (j + 1))
            case measure => omega
            case rel => exact ⟨j + 1, _, _, by omega, rfl, by go_num, HN10⟩
        · have hlt2' : ¬ (j : Int) < (pn : Int) := by omega
          have hej : j = m.procs.length := by have := HPN.out; omega
          obtain ⟨pl, hpl⟩ : ∃ pl, pl = (m.procs.filter (·.seen)).map barP := ⟨_, rfl⟩
          rw [hej, List.take_length, ← hpl] at hns
          obtain ⟨po, pco, hpv⟩ := owns_shape hns.pl
          subst hpv
          have hmbn := hns.mb
          have hnmm : nm = m.name := HEQ.out.2.2
          have hbar : (⟨nm, [], gf, pl, []⟩ : Tp.M) = barM m := by rw [hnmm, HGF.out, hpl]; rfl
          obtain ⟨sl, hsl⟩ : ∃ sl, sl = srt (Tp.symsOf m) := ⟨_, rfl⟩
          obtain ⟨hsm, hs20⟩ := syms_small HWM.out
          rw [← hsl] at hsm hs20
          have hlq : (sl.length : Int) = (gf.length : Int) + (pl.length : Int) := by
            rw [hsl, srt_len, bar_len, ← hbar]
            simp
          have hgl10 : gf.length ≤ 10 := by rw [HGF.out]; have := List.length_filter_le (fun g : G => g.seen) m.vars; have := HWM.out.gc; omega
          have hpl10 : pl.length ≤ 10 := by rw [hpl]; have := filt_len (fun p : Pr => p.seen) barP m.procs; have := HWM.out.pc; omega
          have hgl' : (gf.length : Int) ≤ 10 := by omega
          have hpl' : (pl.length : Int) ≤ 10 := by omega
          have hwrap : IntKind.i64.wrap ((gf.length : Int) + (pl.length : Int)) = (gf.length : Int) + (pl.length : Int) := by rw [IntKind.wrap_i64]; omega
          have ON : Hid (∀ W, Below wr.heap.size wr W → Calls Tryd.prog 14 #[.agg #[.string (bs nm), .slice none 0 0, .slice ao gf.length co, .slice po pl.length pco, .slice none 0 0]] W fun e w' => ∃ v, e = .returned v ∧ Below W.heap.size W w' ∧ SL w' W.heap.size v sl) := by
            intro W hW
            have := of_post (m := ⟨nm, [], gf, pl, []⟩) hgl10 hpl10 (hmbn.up hW)
            rw [hbar, syms_bar, ← hsl, ← hbar] at this
            exact this
          have OM : Hid (∀ W, Below wr.heap.size wr W → Calls Tryd.prog 14 #[.agg #[.string (bs nm), .slice ia n1 ic, .slice ga gn gc, .slice pa pn pc, .slice ba n4 bc]] W fun e w' => ∃ v, e = .returned v ∧ Below W.heap.size W w' ∧ SL w' W.heap.size v sl) := by
            intro W hW
            have := of_post (m := m) HWM.out.gc HWM.out.pc (HMB.out.up (hns.bel.trans (hW.mono hns.bel.size)))
            rw [← hsl, ← HEQ.out.1, ← HGN.out, ← HPN.out, ← HEQ.out.2.1, ← HEQ.out.2.2] at this
            exact this
          have HS : Hid (∀ W, Below wr.heap.size wr W → W.cell? ⟨w2.heap.size, 0, none⟩ = some (.string (bs nm)) ∧ W.cell? ⟨w2.heap.size, 1, none⟩ = some (.slice ia n1 ic) ∧ W.cell? ⟨w2.heap.size, 2, none⟩ = some (.slice ga gn gc) ∧ W.cell? ⟨w2.heap.size, 3, none⟩ = some (.slice pa pn pc) ∧ W.cell? ⟨w2.heap.size, 4, none⟩ = some (.slice ba n4 bc) ∧ W.cell? ⟨w2.heap.size + 1, 0, none⟩ = some (.string (bs nm)) ∧ W.cell? ⟨w2.heap.size + 1, 1, none⟩ = some (.slice none 0 0) ∧ W.cell? ⟨w2.heap.size + 1, 2, none⟩ = some (.slice ao gf.length co) ∧ W.cell? ⟨w2.heap.size + 1, 3, none⟩ = some (.slice po pl.length pco) ∧ W.cell? ⟨w2.heap.size + 1, 4, none⟩ = some (.slice none 0 0)) := by
            intro W hW
            have c1 := (hW.block _ (lt_blk hns.b1)).trans hns.b1
            have c2 := (hW.block _ (lt_blk hns.b2)).trans hns.b2
            obtain ⟨p0, p1, p2, p3, p4⟩ := cell_box5 c1
            obtain ⟨q0, q1, q2, q3, q4⟩ := cell_box5 c2
            exact ⟨p0, p1, p2, p3, p4, q0, q1, q2, q3, q4⟩
          have HBW : Hid (Below w.heap.size w wr) := H2.out.trans (hns.bel.mono H2.out.size)
          have HSM := Lib.hid (And.intro hsm hs20)
          have R0 : Hid (Below wr.heap.size wr wr.drew) := below_drew wr
          obtain ⟨t0, t1, t2, t3, t4, t5, t6, t7, t8, t9⟩ := HS.out wr (Below.refl _ _)
          clear hns HN hej hmbn hbar hsl hsm hs20 hpl hnmm
          go_wp2_with fail
          go_region_held3 (fun W => W.cell? ⟨w2.heap.size, 0, none⟩ = some (.string (bs nm)) ∧ W.cell? ⟨w2.heap.size, 1, none⟩ = some (.slice ia n1 ic) ∧ W.cell? ⟨w2.heap.size, 2, none⟩ = some (.slice ga gn gc) ∧ W.cell? ⟨w2.heap.size, 3, none⟩ = some (.slice pa pn pc) ∧ W.cell? ⟨w2.heap.size, 4, none⟩ = some (.slice ba n4 bc) ∧ W.cell? ⟨w2.heap.size + 1, 0, none⟩ = some (.string (bs nm)) ∧ W.cell? ⟨w2.heap.size + 1, 1, none⟩ = some (.slice none 0 0) ∧ W.cell? ⟨w2.heap.size + 1, 2, none⟩ = some (.slice ao gf.length co) ∧ W.cell? ⟨w2.heap.size + 1, 3, none⟩ = some (.slice po pl.length pco) ∧ W.cell? ⟨w2.heap.size + 1, 4, none⟩ = some (.slice none 0 0)) (with_reducible (first | exact HS.out _ (Below.refl _ _) | exact HS.out _ R0.out | exact HS.out _ RA.out | exact HS.out _ RB.out | exact HS.out _ RC.out | exact HS.out _ RD.out | exact HS.out _ RE.out)) (first | (go_at_call 14; have _g := RD; refine (OM.out _ RD.out).mono ?_; rintro e we ⟨ve, rfl, be', se'⟩; have RE := Lib.hid (RD.out.trans (be'.mono RD.out.size)); obtain ⟨ae, ce, rfl⟩ := SL.len se'; clear be' se' _g) | (go_at_call 14; have _g := RB; refine (OM.out _ RB.out).mono ?_; rintro e wc ⟨vc, rfl, bc', sc'⟩; have RC := Lib.hid (RB.out.trans (bc'.mono RB.out.size)); have PC := Lib.hid (symPrint_post sc' HSM.out.1 (by have := HSM.out.2; omega)); clear bc' sc' _g) | (go_at_call 14; refine (ON.out _ R0.out).mono ?_; rintro e wa ⟨va, rfl, ba', sa'⟩; have RA := Lib.hid (R0.out.trans (ba'.mono R0.out.size)); have PA := Lib.hid (symPrint_post sa' HSM.out.1 (by have := HSM.out.2; omega)); clear ba' sa') | (go_at_call 13; have _g := PC; refine PC.out.mono ?_; rintro e wd ⟨rfl, bd'⟩; have RD := Lib.hid (RC.out.trans (bd'.mono RC.out.size)); clear bd' _g) | (go_at_call 13; refine PA.out.mono ?_; rintro e wb ⟨rfl, bb'⟩; have RB := Lib.hid (RA.out.trans (bb'.mono RA.out.size)); clear bb'))
          all_goals
            go_wp2_with fail
            go_ret
            exact ⟨by first | rfl | (simp; exact hwrap.symm), HBW.out.trans (RE.out.mono HBW.out.size)⟩
theorem symBodies_post {w : World} {B : Nat} (l : List UInt8) (hv : Vars B w) (hB : B ≤ w.heap.size) : Calls Tryd.prog 5 #[.string (bs l)] w fun e w' => e = .returned (.bool true) ∧ Below w.heap.size w w' := by
  by_cases h : l.length ≤ 1000
  · cases hp : Tp.parse l with
    | ok m => exact symBodies_good h hp hv hB
    | error er => exact symBodies_bad h hp hv hB
  · exact symBodies_long (by omega)
end Go.Proofs.YthkdefhngkangaaDoor
