import Derived.Test.YtfcdphgggdioeaaGreatDoorKOc
import Derived.Test.YtfcdphgggdioeaaGreatDoorKXa
import Derived.Test.YtfcdphgggdioeaaGreatDoorKXi
import Derived.Laws.OwnMore
import Derived.Lib.LaidTab
import Derived.OpenShut
import Derived.ProofKit
import Derived.LaidHandle
import Derived.LaidSub
import Derived.Shelf.Vars
/- PlanOrders: what the law asks besides: bare, sameTexts; maps of modules that are made. -/
namespace Go.Proofs.YtfcdphgggdioeaaGreatDoor
open Go.RowKit Go.Extern.Stop Go.Stop Go.Extern
def ErrB (w : World) (v : Value) (n p : Int) : Prop := ErrA w v n p ∨ v = .iface 29 (.int .i64 n) ∧ p = -1
theorem ErrB.below {w w' : World} {v : Value} {n p : Int} (h : ErrB w v n p) (hb : Below w.heap.size w w') : ErrB w' v n p := h.imp (fun q => q.below hb) id
theorem ta_en1 (n : Int) (w : World) : (Instr.typeAssert (.iface 29 (.int .i64 n)) 37 136 true).run Tryz.prog w = .ok (.tuple #[.pointer none, .bool false]) w := by kernel_rfl
theorem ta_en2 (n : Int) (w : World) : (Instr.typeAssert (.iface 29 (.int .i64 n)) 37 139 true).run Tryz.prog w = .ok (.tuple #[.nilIface, .bool false]) w := run_typeAssert_lacksB Tryz.underlying139 (by kernel_rfl) (by kernel_rfl) _ _ w
set_option maxRecDepth 100000 in
set_option maxHeartbeats 1000000 in
theorem place_en (n : Int) (w : World) (hg : Hnd w) : Calls Tryz.prog 46 #[.iface 29 (.int .i64 n)] w fun e w' => e = .returned (.tuple #[.int .i64 n, .int .i64 (-1)]) ∧ Below w.heap.size w w' := by
  have HC := Lib.hid (tell_en n w hg)
  have h1 := ta_en1 n
  have h2 := ta_en2 n
  clear hg
  go_enter Tryz.func46, Tryz.ntmps46
  go_wp2_with fail
  refine HC.out.mono ?_
  rintro e w1 ⟨rfl, hb⟩
  have HB := Lib.hid hb
  clear hb
  go_wp2_with fail
  refine wp_loop_rounds 1 ?_
  rw [rounds_succ]
  go_wp2_with fail
  go_ret2
  exact ⟨rfl, HB.out⟩
theorem place_b {w : World} {v : Value} {n p : Int} (hv : ErrB w v n p) (hg : Hnd w) : Calls Tryz.prog 46 #[v] w fun e w' => e = .returned (.tuple #[.int .i64 n, .int .i64 p]) ∧ Below w.heap.size w w' := by
  rcases hv with h | ⟨rfl, rfl⟩
  · exact place_any h hg
  · exact place_en n w hg
set_option maxRecDepth 100000 in
set_option maxHeartbeats 1000000 in
theorem lawIs_b {w : World} {v : Value} {n p : Int} (hv : ErrB w v n p) (hg : Hnd w) : Calls Tryz.prog 26 #[v, .agg #[.int .i64 n, .int .i64 p]] w fun e w' => e = .returned (.bool true) ∧ Below w.heap.size w w' := by
  obtain ⟨w1, hw1⟩ : ∃ w1, w1 = w.alloc (.cells #[.int .i64 n, .int .i64 p] 31) := ⟨_, rfl⟩
  have hb0 : Below w.heap.size w w1 := by rw [hw1]; exact (Below.refl _ _).alloc (Nat.le_refl _) _
  have hk : w1.heap[w.heap.size]? = some (.cells #[.int .i64 n, .int .i64 p] 31 (0, 0)) := by rw [hw1]; exact new_blk _ _
  have hg1 : Hnd w1 := by rw [hw1]; exact cell_alloc' hg _
  have HC := Lib.hid (place_b (hv.below hb0) hg1)
  have HW1 := Lib.hid hw1
  have HB0 := Lib.hid hb0
  have HK := Lib.hid hk
  clear hw1 hb0 hk hg1 hg hv
  go_enter Tryz.func26, Tryz.ntmps26
  go_wp2_with fail
  rw [← HW1.out]
  refine HC.out.mono ?_
  rintro e w2 ⟨rfl, hb⟩
  have HB := Lib.hid (HB0.out.trans (hb.mono HB0.out.size))
  have hk2 := (hb.block w.heap.size (lt_blk HK.out)).trans HK.out
  have c0 : w2.cell? ⟨w.heap.size, 0, none⟩ = some (.int .i64 n) := cell_blk hk2
  have c1 : w2.cell? ⟨w.heap.size, 1, none⟩ = some (.int .i64 p) := cell_blk hk2
  have hl2 : w.heap.size < w2.heap.size := lt_blk hk2
  clear hb hk2 HW1
  go_wp2_with fail
  go_ret
  exact ⟨rfl, HB.out⟩
set_option maxRecDepth 100000 in
theorem rbareO (n : Int) (w : World) : Calls Tryz.prog 27 #[.int .i64 n] w fun e w' => e = .returned (.agg #[.int .i64 n, .int .i64 (-1)]) ∧ Below w.heap.size w w' := by
  go_enter Tryz.func27, Tryz.ntmps27
  go_wp2_with fail
  exact bodyPost_ret (v := .agg #[.int .i64 n, .int .i64 (-1)]) (by simp [results, Tryz.results27, go_sem]) rfl ⟨rfl, (Below.refl _ _).alloc (Nat.le_refl _) _⟩
set_option maxRecDepth 100000 in
set_option maxHeartbeats 1000000 in
theorem bare_post {w : World} {v : Value} {n : Int} (hv : ErrB w v n (-1)) (hg : Hnd w) : Calls Tryz.prog 7 #[v, .int .i64 n] w fun e w' => e = .returned (.bool true) ∧ Below w.heap.size w w' := by
  have HC := Lib.hid (rbareO n w)
  have HL : Hid (∀ w', Below w.heap.size w w' → Calls Tryz.prog 26 #[v, .agg #[.int .i64 n, .int .i64 (-1)]] w' fun e w'' => e = .returned (.bool true) ∧ Below w'.heap.size w' w'') := fun w' hb => lawIs_b (hv.below hb) ((hb.cell (p := ⟨4, 0, none⟩) (lt_of_cell hg)).trans hg)
  clear hv hg
  go_enter Tryz.func7, Tryz.ntmps7
  go_wp2_with fail
  refine HC.out.mono ?_
  rintro e w1 ⟨rfl, hb1⟩
  have HB1 := Lib.hid hb1
  have HL1 := Lib.hid (HL.out w1 hb1)
  clear hb1 HL HC
  go_wp2_with fail
  refine HL1.out.mono ?_
  rintro e w2 ⟨rfl, hb⟩
  have HB : Hid (Below w.heap.size w w2) := HB1.out.trans (hb.mono HB1.out.size)
  clear hb HL1
  go_wp2_with fail
  go_ret
  exact ⟨rfl, HB.out⟩
end Go.Proofs.YtfcdphgggdioeaaGreatDoor
namespace Go.Proofs.YtfcdphgggdioeaaGreatDoor
open Go.RowKit Go.Maps
open Tp (Bs)
set_option maxRecDepth 100000 in
set_option maxHeartbeats 1000000 in
theorem sameStrs_eq {w : World} {a b : Option Addr} {c d : Nat} {l : List (List UInt8)} (hA : StrsAt w l a) (hB : StrsAt w l b) (hn : l.length ≤ 1000000) :
    Calls Tryz.prog 8 #[.slice a l.length c, .slice b l.length d] w fun e w' => e = .returned (.bool true) ∧ Below w.heap.size w w' := by
  have hn' : (l.length : Int) ≤ 1000000 := by omega
  have HA := Lib.hid hA
  have HB := Lib.hid hB
  clear hA hB
  go_enter Tryz.func8, Tryz.ntmps8
  go_wp2_with fail
  go_loopg [5] l.length (fun k vi wr => ∃ i : Nat, i ≤ l.length ∧ k = l.length - i ∧ vi = .int .i64 (i : Int) ∧ Hid (Below w.heap.size w wr))
  case atStart => exact ⟨0, by omega, by omega, rfl, Below.refl _ _⟩
  case round =>
    obtain ⟨i, hid, hk, rfl, HW⟩ := hrel
    by_cases hlt : i < l.length
    · have hlt' : (i : Int) < (l.length : Int) := by omega
      obtain ⟨g, o, rfl, hgl, hcell⟩ := HA.out.c i hlt
      obtain ⟨g2, o2, rfl, hgl2, hcell2⟩ := HB.out.c i hlt
      have e0 : wr.cell? ⟨g, o + i, none⟩ = some (.string (bs l[i])) := (HW.out.cell (p := ⟨g, o + i, none⟩) hgl).trans hcell
      have d0 : wr.cell? ⟨g2, o2 + i, none⟩ = some (.string (bs l[i])) := (HW.out.cell (p := ⟨g2, o2 + i, none⟩) hgl2).trans hcell2
      have hz1 : g < wr.heap.size := lt_of_cell e0
      have hz2 : g2 < wr.heap.size := lt_of_cell d0
      have HD : Hid (∀ q, Below w.heap.size w (wr.drewN q)) := fun q => below_drewN HW.out q
      clear hcell hcell2 hgl hgl2
      generalize l[i] = x at *
      go_upto_region 6 with fail
      go_quiet (fail)
      go_wp2_with fail
      go_roundg (l.length - (i + 1))
      case measure => omega
      case rel => exact ⟨i + 1, by omega, rfl, by go_num, HD.out _⟩
    · have hlt' : ¬ (i : Int) < (l.length : Int) := by omega
      go_wp2_with fail
      go_ret
      exact ⟨rfl, HW.out⟩
/- a map of modules whose rows lie from lo on -/
structure ModL (lo : Nat) (w : World) (mb n : Nat) (f : Bs → Option Value) (F : Bs → Option Tp.M) : Prop where
  m : MapV w mb n f
  no : ∀ k, F k = none → f k = none
  is : ∀ k m, F k = some m → ∃ v ia ga pa ba ic gc pc bc, f k = some v ∧ v = .agg (mcells (bs m.name) (.slice ia m.imports.length ic) (.slice ga m.vars.length gc) (.slice pa m.procs.length pc) (.slice ba m.body.length bc)) ∧ MD w (fun b => lo ≤ b) m ia ga pa ba ic gc pc bc ∧ Tp.WM m ∧ Tp.nM m ≤ 1000 ∧ m.name = k
theorem ModL.modF {lo mb n : Nat} {w : World} {f : Bs → Option Value} {F : Bs → Option Tp.M} (h : ModL lo w mb n f F) (hm : mb < lo) : ModF w mb n f F :=
  ⟨h.m, h.no, fun k m hk => by
    obtain ⟨v, ia, ga, pa, ba, ic, gc, pc, bc, h1, h2, h3, h4, h5, h6⟩ := h.is k m hk
    exact ⟨v, ia, ga, pa, ba, ic, gc, pc, bc, h1, h2, h3.mono (fun b hb _ => ⟨rfl, by omega⟩), h4, h5, h6⟩⟩
theorem ModL.on {lo mb n : Nat} {w w' : World} {f : Bs → Option Value} {F : Bs → Option Tp.M} (h : ModL lo w mb n f F) (k : Below w.heap.size w w') : ModL lo w' mb n f F :=
  ⟨h.m.on (k.block _ h.m.lt), h.no, fun x m hx => by
    obtain ⟨v, ia, ga, pa, ba, ic, gc, pc, bc, h1, h2, h3, h4⟩ := h.is x m hx
    exact ⟨v, ia, ga, pa, ba, ic, gc, pc, bc, h1, h2, h3.mono (fun b hb hl => ⟨k.block b hl, hb⟩), h4⟩⟩
theorem ModL.other {lo mb n b0 : Nat} {w w' : World} {f : Bs → Option Value} {F : Bs → Option Tp.M} (h : ModL lo w mb n f F) (k : Ext b0 w w') (h0 : b0 < lo) (hne : mb ≠ b0) : ModL lo w' mb n f F :=
  ⟨h.m.on (k.block _ h.m.lt hne), h.no, fun x m hx => by
    obtain ⟨v, ia, ga, pa, ba, ic, gc, pc, bc, h1, h2, h3, h4⟩ := h.is x m hx
    exact ⟨v, ia, ga, pa, ba, ic, gc, pc, bc, h1, h2, h3.mono (fun b hb hl => ⟨k.block b hl (by omega), hb⟩), h4⟩⟩
theorem ModL.put {lo mb n : Nat} {w w' : World} {f : Bs → Option Value} {F : Bs → Option Tp.M} (h : ModL lo w mb n f F) {m : Tp.M} {v : Value} {ia ga pa ba : Option Addr} {ic gc pc bc : Nat} (hv : v = .agg (mcells (bs m.name) (.slice ia m.imports.length ic) (.slice ga m.vars.length gc) (.slice pa m.procs.length pc) (.slice ba m.body.length bc))) (hd : MD w (fun b => lo ≤ b) m ia ga pa ba ic gc pc bc) (hw : Tp.WM m) (hn : Tp.nM m ≤ 1000) (hf : MapV w' mb (n + 1) (updV f m.name v)) (hx : Ext mb w w') (hm : mb < lo) : ModL lo w' mb (n + 1) (updV f m.name v) (fun k => if k = m.name then some m else F k) := by
  refine ⟨hf, fun k hk => ?_, fun k x hk => ?_⟩
  · unfold updV
    by_cases e : k = m.name
    · rw [if_pos e] at hk; cases hk
    · rw [if_neg e] at hk ⊢; exact h.no k hk
  · unfold updV
    by_cases e : k = m.name
    · rw [if_pos e] at hk ⊢
      cases hk
      exact ⟨v, ia, ga, pa, ba, ic, gc, pc, bc, rfl, hv, hd.mono (fun b hb hl => ⟨hx.block b hl (by omega), hb⟩), hw, hn, e.symm⟩
    · rw [if_neg e] at hk ⊢
      obtain ⟨v', ia', ga', pa', ba', ic', gc', pc', bc', h1, h2, h3, h4⟩ := h.is k x hk
      exact ⟨v', ia', ga', pa', ba', ic', gc', pc', bc', h1, h2, h3.mono (fun b hb hl => ⟨hx.block b hl (by omega), hb⟩), h4⟩
theorem ModL.made {lo mb : Nat} {w : World} (h : MapV w mb 0 (fun _ => none)) : ModL lo w mb 0 (fun _ => none) (fun _ => none) := ⟨h, fun _ _ => rfl, fun k m hk => by cases hk⟩
/- no module's name is empty -/
theorem modF_ne {w : World} {mb n : Nat} {f : Bs → Option Value} {F : Bs → Option Tp.M} (h : ModF w mb n f F) {x : Bs} (hx : (F x).isSome = true) : x ≠ [] := by
  obtain ⟨m, hm⟩ := Option.isSome_iff_exists.1 hx
  obtain ⟨_, _, _, _, _, _, _, _, _, _, h2⟩ := h.is x m hm
  obtain ⟨⟨c, l, hc, _⟩, _⟩ := h2.wm.n
  intro e
  have e2 := h2.k
  rw [e, hc] at e2
  cases e2
theorem VM.mdl {lo B : Nat} {m : Tp.M} {v : Value} {w : World} (h : VM B m v w) (hB : lo ≤ B) : ∃ ia ga pa ba ic gc pc bc, v = .agg (mcells (bs m.name) (.slice ia m.imports.length ic) (.slice ga m.vars.length gc) (.slice pa m.procs.length pc) (.slice ba m.body.length bc)) ∧ MD w (fun b => lo ≤ b) m ia ga pa ba ic gc pc bc := by
  obtain ⟨ia, ga, pa, ba, ic, gc, pc, bc, h1, h2⟩ := h.mdb
  exact ⟨ia, ga, pa, ba, ic, gc, pc, bc, h1, h2.mono (fun b hb _ => ⟨rfl, by omega⟩)⟩
/- append, in an operation that is guarded, and wanted -/
theorem wpList_want {P : Program} {ops : Array Oper} {rest : List Oper} {o : Oper} {a : Act} {w : World} {Q : Exit → Act → World → Prop} (hw : Region.wanted o (yielded ops a.tmps) = true) (h : ∀ K : Act → World → Prop, (∀ a w, wpList P ops Q rest a w → K a w) → o.wp P a w K Q) : wpList P ops Q (o :: rest) a w :=
  wpList_step fun K hK => by rw [if_pos hw]; exact h K hK
theorem wpList_append_g {P : Program} {w : World} {ops : Array Oper} {rest : List Oper} {o : Oper} {a : Act} {Q : Exit → Act → World → Prop} (hw : Region.wanted o (yielded ops a.tmps) = true) (s x : Operand) (t : TypeId)
    (ho : o.op = .call { callee := .builtin .append, args := #[s, x], argTypes := #[t, t] })
    (base : Nat) (e : TypeId) (i : TypeInfo) (z : Value) (size bytes : Nat) (ht : P.underlying t = some (.slice e)) (hi : P.info? e = some i) (hz : i.zero = some z)
    (hsize : i.size = size) (hby : i.bytes = bytes) (hzs : z.cells.size = size) (hsz : 0 < size)
    (v : Value) (n : Nat) (xs : List Value) (hs : a.eval s = v) (hown : w.ownsRow base e size v n xs)
    (ad : Addr) (m c : Nat) (news : List Value) (hx : a.eval x = .slice (some ad) m c) (hl : news.length = m * size) (hnews : ∀ j u, news[j]? = some u → w.cell? (ad.add j) = some u) (h1 : ∀ u ∈ news, u.oneCell' = true)
    (h63 : n + m ≤ maxLen) (hbytes : (n + m) * bytes ≤ 140737488355328) (hbase : base ≤ w.heap.size)
    (h : ∀ v' w', w'.ownsRow base e size v' (n + m) (xs ++ news) → w.grownBy w' v.ownBlock → (∀ g, v'.ownBlock = some g → v.ownBlock = some g ∨ w.heap.size ≤ g) → wpList P ops Q rest (a.put o.dst v') w') : wpList P ops Q (o :: rest) a w := by
  refine wpList_want hw fun K hK => ?_
  obtain ⟨v', w', r1, r2, r3, r4⟩ := run_append_where (P := P) w base t o.type e i z size bytes ht hi hz hsize hby hzs hsz v n xs hown ad m c news hl hnews h1 h63 hbytes hbase
  unfold Oper.wp
  simp [execOp, ho, resolve, invoke, builtin, hs, hx, r1, Result.andThen]
  exact hK _ _ (h v' w' r2 r3 r4)
theorem wpList_append_gn {P : Program} {w : World} {ops : Array Oper} {rest : List Oper} {o : Oper} {a : Act} {Q : Exit → Act → World → Prop} (hw : Region.wanted o (yielded ops a.tmps) = true) (s x : Operand) (t : TypeId)
    (ho : o.op = .call { callee := .builtin .append, args := #[s, x], argTypes := #[t, t] })
    (base : Nat) (e : TypeId) (i : TypeInfo) (size : Nat) (ht : P.underlying t = some (.slice e)) (hi : P.info? e = some i)
    (v : Value) (n : Nat) (xs : List Value) (hs : a.eval s = v) (hown : w.ownsRow base e size v n xs) (hx : a.eval x = .slice none 0 0)
    (h : wpList P ops Q rest (a.put o.dst v) w) : wpList P ops Q (o :: rest) a w := by
  refine wpList_want hw fun K hK => ?_
  have hrun := run_append_owned_none (P := P) (w := w) base t o.type e i size ht hi v n xs hown
  unfold Oper.wp
  simp [execOp, ho, resolve, invoke, builtin, hs, hx, hrun, Result.andThen]
  exact hK _ _ h
end Go.Proofs.YtfcdphgggdioeaaGreatDoor
/- PlanOrders, walked. -/
namespace Go.Proofs.YtfcdphgggdioeaaGreatDoor
open Go.RowKit Go.Maps
open Tp (Bs)
def OrP (w : World) (e : Ending) (w' : World) : Prop := e = .returned (.bool true) ∧ Below w.heap.size w w'
set_option maxRecDepth 100000 in
set_option maxHeartbeats 1000000 in
theorem orders_big {w : World} (wa na ca : Option Addr) (wn nn cn wc nc cc : Nat) (h : 8 < wn ∨ 8 < nn ∨ 8 < cn) : Calls Tryz.prog 3 #[.slice wa wn wc, .slice na nn nc, .slice ca cn cc] w (OrP w) := by
  by_cases h1 : 8 < wn
  · have h1' : (8 : Int) < (wn : Int) := by omega
    clear h
    go_enter Tryz.func3, Tryz.ntmps3
    go_wp2_with fail
    go_ret
    exact ⟨rfl, Below.refl _ _⟩
  have h1' : ¬ (8 : Int) < (wn : Int) := by omega
  have d1 : decide ((8 : Int) < (wn : Int)) = false := decide_eq_false h1'
  by_cases h2 : 8 < nn
  · have h2' : (8 : Int) < (nn : Int) := by omega
    clear h
    go_enter Tryz.func3, Tryz.ntmps3
    go_wp2_with fail
    go_ret
    exact ⟨rfl, Below.refl _ _⟩
  have h2' : ¬ (8 : Int) < (nn : Int) := by omega
  have d2 : decide ((8 : Int) < (nn : Int)) = false := decide_eq_false h2'
  have h3' : (8 : Int) < (cn : Int) := by omega
  clear h
  go_enter Tryz.func3, Tryz.ntmps3
  go_wp2_with fail
  go_ret
  exact ⟨rfl, Below.refl _ _⟩
set_option maxRecDepth 100000 in
set_option maxHeartbeats 8000000 in
theorem orders_good {w : World} (hg : Gl w) (hh : Hnd w) {was now ch : List Bs} {wa na ca : Option Addr} {wc nc cc : Nat} (h1 : StrsAt w was wa) (h2 : StrsAt w now na) (h3 : StrsAt w ch ca) (hch : ∀ x ∈ ch, x.length ≤ 9223372036854775807) (w8 : was.length ≤ 8) (n8 : now.length ≤ 8) (c8 : ch.length ≤ 8) (hcc : ca = none → cc = 0) :
    Calls Tryz.prog 3 #[.slice wa was.length wc, .slice na now.length nc, .slice ca ch.length cc] w (OrP w) := by
  have hmm := @run_makeMap Tryz.prog
  have HG : Hid (∀ W, Below w.heap.size w W → Gl W) := fun W h => hgl_below hg h
  have HH : Hid (∀ W, Below w.heap.size w W → Hnd W) := fun W h => (h.cell (p := ⟨4, 0, none⟩) (lt_of_cell hh)).trans hh
  have HS1 := Lib.hid h1
  have HS2 := Lib.hid h2
  have HS3 := Lib.hid h3
  have HCH := Lib.hid hch
  have HCC := Lib.hid hcc
  obtain ⟨i1, hi, hz0, hz1, hz2⟩ := info_parts Tryz.infoString
  obtain ⟨wn, hwn⟩ : ∃ z, z = was.length := ⟨_, rfl⟩
  obtain ⟨nn, hnn⟩ : ∃ z, z = now.length := ⟨_, rfl⟩
  obtain ⟨cn, hcn⟩ : ∃ z, z = ch.length := ⟨_, rfl⟩
  rw [← hwn] at w8 ⊢
  rw [← hnn] at n8 ⊢
  rw [← hcn] at c8 ⊢
  have HWN := Lib.hid hwn
  have HNN := Lib.hid hnn
  have HCN := Lib.hid hcn
  have j1 : ¬ (8 : Int) < (wn : Int) := by omega
  have i2 : ¬ (8 : Int) < (nn : Int) := by omega
  have i3 : ¬ (8 : Int) < (cn : Int) := by omega
  have d1 : decide ((8 : Int) < (wn : Int)) = false := decide_eq_false j1
  have d2 : decide ((8 : Int) < (nn : Int)) = false := decide_eq_false i2
  have d3 : decide ((8 : Int) < (cn : Int)) = false := decide_eq_false i3
  obtain ⟨W1, hW1⟩ : ∃ W1, W1 = (w.alloc (.map #[] 0)).alloc (.map #[] 0) := ⟨_, rfl⟩
  obtain ⟨ma, hma⟩ : ∃ z, z = w.heap.size := ⟨_, rfl⟩
  obtain ⟨mb, hmb⟩ : ∃ z, z = w.heap.size + 1 := ⟨_, rfl⟩
  obtain ⟨lo, hlo⟩ : ∃ z, z = w.heap.size + 2 := ⟨_, rfl⟩
  have hbW : Below w.heap.size w W1 := by rw [hW1]; exact ((Below.refl _ _).alloc (Nat.le_refl _) _).alloc (by simp) _
  have hzW : lo ≤ W1.heap.size := by rw [hW1, hlo]; simp
  have HA1 : Hid (∃ c f F, c ≤ 0 ∧ ModL lo W1 ma c f F) := ⟨0, _, _, Nat.le_refl _, ModL.made (by rw [hW1, hma]; exact (MapV.made w).on (Below.heap_alloc _ _ _ (by simp)))⟩
  have HB1 : Hid (∃ c f F, c ≤ 0 ∧ ModL lo W1 mb c f F) := ⟨0, _, _, Nat.le_refl _, ModL.made (by
    have := MapV.made (w.alloc (.map #[] 0))
    rw [show (w.alloc (.map #[] 0)).heap.size = w.heap.size + 1 by simp] at this
    rw [hW1, hmb]
    exact this)⟩
  have HX1 : Hid (Below w.heap.size w W1 ∧ lo ≤ W1.heap.size) := ⟨hbW, hzW⟩
  have hal : ma < lo := by omega
  have hbl : mb < lo := by omega
  have hab : ma ≠ mb := by omega
  have haw : w.heap.size ≤ ma := by omega
  have hbw : w.heap.size ≤ mb := by omega
  clear hg hh h1 h2 h3 hch hcc hwn hnn hcn hbW hzW hlo
  go_enter Tryz.func3, Tryz.ntmps3
  go_upto_region 4 with fail
  rw [← hW1]
  rw [← hmb, ← hma]
  clear hW1 hma hmb hmm d1 d2 d3 j1 i2 i3
  go_wp2_with fail
  go_loopg [9] (wn + nn) (fun k vi wr => ∃ i : Nat, i ≤ wn + nn ∧ k = wn + nn - i ∧ vi = .int .i64 (i : Int) ∧ Hid (∃ c f F, c ≤ i ∧ ModL lo wr ma c f F) ∧ Hid (∃ c f F, c ≤ i ∧ ModL lo wr mb c f F) ∧ Hid (Below w.heap.size w wr ∧ lo ≤ wr.heap.size))
  case atStart => exact ⟨0, Nat.zero_le _, rfl, rfl, HA1, HB1, HX1⟩
  case round =>
    obtain ⟨i, hid, hk, rfl, HA, HB, HX⟩ := hrel
    clear HA1 HB1 HX1
    by_cases hlt : i < wn + nn
    · have hlt' : (i : Int) < (wn : Int) + (nn : Int) := by omega
      have hi0 : ¬ (i : Int) < 0 := by omega
      by_cases hiw : i < wn
      · have hiw' : (i : Int) < (wn : Int) := by omega
        have hil : i < was.length := by have := HWN.out; omega
        obtain ⟨g, o, hga, hgl, hcell⟩ := (HS1.out.on HX.out.1).c i hil
        subst hga
        generalize was[i] = x at *
        have hz := bs_size x
        by_cases hx9 : 900 < x.length
        · have hx9' : (900 : Int) < (x.length : Int) := by omega
          have HBE := Lib.hid HX.out.1
          go_wp2_with fail
          go_ret
          exact ⟨rfl, HBE.out⟩
        · have hx9' : ¬ (900 : Int) < (x.length : Int) := by omega
          have HXT : Hid (x.length ≤ 900) := by show _ ≤ _; omega
          have HPP := Lib.hid (rparse_post wr x (by omega) (HG.out wr HX.out.1))
          go_wp2_with fail
          refine HPP.out.mono ?_
          rintro e w2 ⟨hb2, hq⟩
          unfold RParseP at hq
          clear HPP hcell hgl hz
          cases hpx : Tp.parse x with
          | error er =>
            rw [hpx] at hq
            dsimp only at hq
            subst hq
            unfold m0
            obtain ⟨w3, hw3⟩ : ∃ w3, w3 = (w2.alloc (.cells #[.string ⟨#[]⟩, .slice none 0 0, .slice none 0 0, .slice none 0 0, .slice none 0 0] 28)).alloc (.cells #[.int .i64 (er.1 : Int), .int .i64 (er.2 : Int)] 31) := ⟨_, rfl⟩
            have hb23 : Below w2.heap.size w2 w3 := by rw [hw3]; exact ((Below.refl _ _).alloc (Nat.le_refl _) _).alloc (by simp) _
            obtain ⟨fb, hfb⟩ : ∃ z, z = w2.heap.size + 1 := ⟨_, rfl⟩
            have hk3 : w3.heap[fb]? = some (.cells #[.int .i64 (er.1 : Int), .int .i64 (er.2 : Int)] 31 (0, 0)) := by
              have := new_blk (w2.alloc (.cells #[.string ⟨#[]⟩, .slice none 0 0, .slice none 0 0, .slice none 0 0, .slice none 0 0] 28)) (.cells #[.int .i64 (er.1 : Int), .int .i64 (er.2 : Int)] 31)
              rw [hw3, hfb]; simpa using this
            have hb3 : Below wr.heap.size wr w3 := hb2.trans (hb23.mono hb2.size)
            have HX3 : Hid (Below w.heap.size w w3 ∧ lo ≤ w3.heap.size) := ⟨HX.out.1.trans (hb3.mono HX.out.1.size), Nat.le_trans HX.out.2 hb3.size⟩
            have HA3 : Hid (∃ c f F, c ≤ i + 1 ∧ ModL lo w3 ma c f F) := by
              obtain ⟨c, f, F, c1, c2⟩ := HA.out
              exact ⟨c, f, F, by omega, c2.on hb3⟩
            have HB3 : Hid (∃ c f F, c ≤ i + 1 ∧ ModL lo w3 mb c f F) := by
              obtain ⟨c, f, F, c1, c2⟩ := HB.out
              exact ⟨c, f, F, by omega, c2.on hb3⟩
            have hgl3 := HG.out w3 HX3.out.1
            have f0 := hgl3.f0
            have f1 := hgl3.f1
            have fl := lt_of_cell f0
            have k0 : w3.cell? ⟨fb, 0, none⟩ = some (.int .i64 (er.1 : Int)) := (cell_blk hk3).trans rfl
            have k1 : w3.cell? ⟨fb, 1, none⟩ = some (.int .i64 (er.2 : Int)) := (cell_blk hk3).trans rfl
            have kl := lt_blk hk3
            have hne : ¬ ((er.2 : Nat) : Int) = -1 := by omega
            have hnb : (((er.2 : Nat) : Int) == -1) = false := beq_false_of_ne hne
            clear hb2 hb23 hb3 hk3 hgl3 hpx
            go_upto_region 14 with fail
            rw [← hw3, ← hfb]
            clear hw3 hfb
            go_wp2_with fail
            go_roundg (wn + nn - (i + 1))
            case measure => omega
            case rel => exact ⟨i + 1, by omega, rfl, by go_num, HA3, HB3, HX3⟩
          | ok m =>
            rw [hpx] at hq
            obtain ⟨v, rfl, hvm⟩ := hq
            obtain ⟨ia, ga, pa, ba, ic, gc, pc, bc, rfl, hmd⟩ := hvm.mdl HX.out.2
            have hwm := (Tp.parse_wm hpx).1
            have hnm := (Tp.parse_wm hpx).2
            have hnl : m.name.length ≤ 1000000 := by have := Tp.okn_len hwm.n; omega
            obtain ⟨w3, hw3⟩ : ∃ w3, w3 = (w2.alloc (.cells (mcells (bs m.name) (.slice ia m.imports.length ic) (.slice ga m.vars.length gc) (.slice pa m.procs.length pc) (.slice ba m.body.length bc)) 28)).alloc (.cells #[.int .i64 0, .int .i64 (-1)] 31) := ⟨_, rfl⟩
            have hb23 : Below w2.heap.size w2 w3 := by rw [hw3]; exact ((Below.refl _ _).alloc (Nat.le_refl _) _).alloc (by simp) _
            obtain ⟨fb, hfb⟩ : ∃ z, z = w2.heap.size + 1 := ⟨_, rfl⟩
            obtain ⟨xb, hxb⟩ : ∃ z, z = w2.heap.size := ⟨_, rfl⟩
            have hk3 : w3.heap[fb]? = some (.cells #[.int .i64 0, .int .i64 (-1)] 31 (0, 0)) := by
              have := new_blk (w2.alloc (.cells (mcells (bs m.name) (.slice ia m.imports.length ic) (.slice ga m.vars.length gc) (.slice pa m.procs.length pc) (.slice ba m.body.length bc)) 28)) (.cells #[.int .i64 0, .int .i64 (-1)] 31)
              rw [hw3, hfb]; simpa using this
            have hk2 : w3.heap[xb]? = some (.cells (mcells (bs m.name) (.slice ia m.imports.length ic) (.slice ga m.vars.length gc) (.slice pa m.procs.length pc) (.slice ba m.body.length bc)) 28 (0, 0)) := by
              rw [hw3, hxb]
              exact (Below.heap_alloc _ _ _ (by simp)).trans (new_blk _ _)
            have hb3 : Below wr.heap.size wr w3 := hb2.trans (hb23.mono hb2.size)
            have HX3 : Hid (Below w.heap.size w w3 ∧ lo ≤ w3.heap.size) := ⟨HX.out.1.trans (hb3.mono HX.out.1.size), Nat.le_trans HX.out.2 hb3.size⟩
            obtain ⟨c, f, F, c1, c2⟩ := HA.out
            have HM3 := Lib.hid (c2.on hb3)
            have HO3 : Hid (∃ c f F, c ≤ i + 1 ∧ ModL lo w3 mb c f F) := by
              obtain ⟨c, f, F, c1, c2⟩ := HB.out
              exact ⟨c, f, F, by omega, c2.on hb3⟩
            have HMD : Hid (MD w3 (fun b => lo ≤ b) m ia ga pa ba ic gc pc bc ∧ Tp.WM m ∧ Tp.nM m ≤ 1000) := ⟨hmd.mono (fun b hb hl => ⟨hb23.block b hl, hb⟩), hwm, by have := HXT.out; omega⟩
            have hgl3 := HG.out w3 HX3.out.1
            have f0 := hgl3.f0
            have f1 := hgl3.f1
            have fl := lt_of_cell f0
            have e0 : w3.cell? ⟨fb, 0, none⟩ = some (.int .i64 0) := (cell_blk hk3).trans rfl
            have e1 : w3.cell? ⟨fb, 1, none⟩ = some (.int .i64 (-1)) := (cell_blk hk3).trans rfl
            have el := lt_blk hk3
            unfold mcells at *
            have k0 : w3.cell? ⟨xb, 0, none⟩ = some (.string (bs m.name)) := (cell_blk hk2).trans rfl
            have k1 : w3.cell? ⟨xb, 1, none⟩ = some (.slice ia m.imports.length ic) := (cell_blk hk2).trans rfl
            have k2 : w3.cell? ⟨xb, 2, none⟩ = some (.slice ga m.vars.length gc) := (cell_blk hk2).trans rfl
            have k3 : w3.cell? ⟨xb, 3, none⟩ = some (.slice pa m.procs.length pc) := (cell_blk hk2).trans rfl
            have k4 : w3.cell? ⟨xb, 4, none⟩ = some (.slice ba m.body.length bc) := (cell_blk hk2).trans rfl
            have kl := lt_blk hk2
            have hc6 : c < 1000000 := by omega
            clear hb2 hb23 hb3 hk2 hk3 hvm hmd hwm hnm hpx c2 hgl3
            go_upto_region 14 with fail
            rw [← hw3, ← hfb, ← hxb]
            clear hw3 hfb hxb
            go_upto_region 6 with (at_mapUpdate; refine wpList_mapUpdate_v' _ rfl _ _ _ 23 rfl _ Tryz.underlying23 ma c f HM3.out.m hc6 m.name hnl _ rfl rfl rfl ?_; intro w4 q1 q2 q3)
            have HP4 : Hid (∃ c f F, c ≤ i + 1 ∧ ModL lo w4 ma c f F) := ⟨c + 1, _, _, by omega, HM3.out.put rfl HMD.out.1 HMD.out.2.1 HMD.out.2.2 q1 q2 hal⟩
            have HO4 : Hid (∃ c f F, c ≤ i + 1 ∧ ModL lo w4 mb c f F) := by
              obtain ⟨c, f, F, c1, c2⟩ := HO3.out
              exact ⟨c, f, F, c1, c2.other q2 hal (by omega)⟩
            have HX4 : Hid (Below w.heap.size w w4 ∧ lo ≤ w4.heap.size) := ⟨HX3.out.1.trans (ext_below q2 (by omega) HX3.out.1.size), by have := HX3.out.2; omega⟩
            clear q1 q2 q3 k0 k1 k2 k3 k4 kl e0 e1 el f0 f1 fl
            go_wp2_with fail
            go_roundg (wn + nn - (i + 1))
            case measure => omega
            case rel => exact ⟨i + 1, by omega, rfl, by go_num, HP4, HO4, HX4⟩
      · have hiw' : ¬ (i : Int) < (wn : Int) := by omega
        obtain ⟨j, hj⟩ : ∃ j, i = wn + j := ⟨i - wn, by omega⟩
        have hil : j < now.length := by have := HNN.out; omega
        obtain ⟨g, o, hga, hgl, hcell⟩ := (HS2.out.on HX.out.1).c j hil
        subst hga
        generalize now[j] = x at *
        have ej : (i : Int) - (wn : Int) = (j : Int) := by omega
        have hj0 : ¬ (j : Int) < 0 := by omega
        have hjn : (j : Int) < (nn : Int) := by omega
        have hz := bs_size x
        by_cases hx9 : 900 < x.length
        · have hx9' : (900 : Int) < (x.length : Int) := by omega
          have HBE := Lib.hid HX.out.1
          go_wp2_with fail
          go_ret
          exact ⟨rfl, HBE.out⟩
        · have hx9' : ¬ (900 : Int) < (x.length : Int) := by omega
          have HXT : Hid (x.length ≤ 900) := by show _ ≤ _; omega
          have HPP := Lib.hid (rparse_post wr x (by omega) (HG.out wr HX.out.1))
          go_wp2_with fail
          refine HPP.out.mono ?_
          rintro e w2 ⟨hb2, hq⟩
          unfold RParseP at hq
          clear HPP hcell hgl hz
          cases hpx : Tp.parse x with
          | error er =>
            rw [hpx] at hq
            dsimp only at hq
            subst hq
            unfold m0
            obtain ⟨w3, hw3⟩ : ∃ w3, w3 = (w2.alloc (.cells #[.string ⟨#[]⟩, .slice none 0 0, .slice none 0 0, .slice none 0 0, .slice none 0 0] 28)).alloc (.cells #[.int .i64 (er.1 : Int), .int .i64 (er.2 : Int)] 31) := ⟨_, rfl⟩
            have hb23 : Below w2.heap.size w2 w3 := by rw [hw3]; exact ((Below.refl _ _).alloc (Nat.le_refl _) _).alloc (by simp) _
            obtain ⟨fb, hfb⟩ : ∃ z, z = w2.heap.size + 1 := ⟨_, rfl⟩
            have hk3 : w3.heap[fb]? = some (.cells #[.int .i64 (er.1 : Int), .int .i64 (er.2 : Int)] 31 (0, 0)) := by
              have := new_blk (w2.alloc (.cells #[.string ⟨#[]⟩, .slice none 0 0, .slice none 0 0, .slice none 0 0, .slice none 0 0] 28)) (.cells #[.int .i64 (er.1 : Int), .int .i64 (er.2 : Int)] 31)
              rw [hw3, hfb]; simpa using this
            have hb3 : Below wr.heap.size wr w3 := hb2.trans (hb23.mono hb2.size)
            have HX3 : Hid (Below w.heap.size w w3 ∧ lo ≤ w3.heap.size) := ⟨HX.out.1.trans (hb3.mono HX.out.1.size), Nat.le_trans HX.out.2 hb3.size⟩
            have HA3 : Hid (∃ c f F, c ≤ i + 1 ∧ ModL lo w3 ma c f F) := by
              obtain ⟨c, f, F, c1, c2⟩ := HA.out
              exact ⟨c, f, F, by omega, c2.on hb3⟩
            have HB3 : Hid (∃ c f F, c ≤ i + 1 ∧ ModL lo w3 mb c f F) := by
              obtain ⟨c, f, F, c1, c2⟩ := HB.out
              exact ⟨c, f, F, by omega, c2.on hb3⟩
            have hgl3 := HG.out w3 HX3.out.1
            have f0 := hgl3.f0
            have f1 := hgl3.f1
            have fl := lt_of_cell f0
            have k0 : w3.cell? ⟨fb, 0, none⟩ = some (.int .i64 (er.1 : Int)) := (cell_blk hk3).trans rfl
            have k1 : w3.cell? ⟨fb, 1, none⟩ = some (.int .i64 (er.2 : Int)) := (cell_blk hk3).trans rfl
            have kl := lt_blk hk3
            have hne : ¬ ((er.2 : Nat) : Int) = -1 := by omega
            have hnb : (((er.2 : Nat) : Int) == -1) = false := beq_false_of_ne hne
            clear hb2 hb23 hb3 hk3 hgl3 hpx
            go_upto_region 14 with fail
            rw [← hw3, ← hfb]
            clear hw3 hfb
            go_wp2_with fail
            go_roundg (wn + nn - (i + 1))
            case measure => omega
            case rel => exact ⟨i + 1, by omega, rfl, by go_num, HA3, HB3, HX3⟩
          | ok m =>
            rw [hpx] at hq
            obtain ⟨v, rfl, hvm⟩ := hq
            obtain ⟨ia, ga, pa, ba, ic, gc, pc, bc, rfl, hmd⟩ := hvm.mdl HX.out.2
            have hwm := (Tp.parse_wm hpx).1
            have hnm := (Tp.parse_wm hpx).2
            have hnl : m.name.length ≤ 1000000 := by have := Tp.okn_len hwm.n; omega
            obtain ⟨w3, hw3⟩ : ∃ w3, w3 = (w2.alloc (.cells (mcells (bs m.name) (.slice ia m.imports.length ic) (.slice ga m.vars.length gc) (.slice pa m.procs.length pc) (.slice ba m.body.length bc)) 28)).alloc (.cells #[.int .i64 0, .int .i64 (-1)] 31) := ⟨_, rfl⟩
            have hb23 : Below w2.heap.size w2 w3 := by rw [hw3]; exact ((Below.refl _ _).alloc (Nat.le_refl _) _).alloc (by simp) _
            obtain ⟨fb, hfb⟩ : ∃ z, z = w2.heap.size + 1 := ⟨_, rfl⟩
            obtain ⟨xb, hxb⟩ : ∃ z, z = w2.heap.size := ⟨_, rfl⟩
            have hk3 : w3.heap[fb]? = some (.cells #[.int .i64 0, .int .i64 (-1)] 31 (0, 0)) := by
              have := new_blk (w2.alloc (.cells (mcells (bs m.name) (.slice ia m.imports.length ic) (.slice ga m.vars.length gc) (.slice pa m.procs.length pc) (.slice ba m.body.length bc)) 28)) (.cells #[.int .i64 0, .int .i64 (-1)] 31)
              rw [hw3, hfb]; simpa using this
            have hk2 : w3.heap[xb]? = some (.cells (mcells (bs m.name) (.slice ia m.imports.length ic) (.slice ga m.vars.length gc) (.slice pa m.procs.length pc) (.slice ba m.body.length bc)) 28 (0, 0)) := by
              rw [hw3, hxb]
              exact (Below.heap_alloc _ _ _ (by simp)).trans (new_blk _ _)
            have hb3 : Below wr.heap.size wr w3 := hb2.trans (hb23.mono hb2.size)
            have HX3 : Hid (Below w.heap.size w w3 ∧ lo ≤ w3.heap.size) := ⟨HX.out.1.trans (hb3.mono HX.out.1.size), Nat.le_trans HX.out.2 hb3.size⟩
            obtain ⟨c, f, F, c1, c2⟩ := HB.out
            have HM3 := Lib.hid (c2.on hb3)
            have HO3 : Hid (∃ c f F, c ≤ i + 1 ∧ ModL lo w3 ma c f F) := by
              obtain ⟨c, f, F, c1, c2⟩ := HA.out
              exact ⟨c, f, F, by omega, c2.on hb3⟩
            have HMD : Hid (MD w3 (fun b => lo ≤ b) m ia ga pa ba ic gc pc bc ∧ Tp.WM m ∧ Tp.nM m ≤ 1000) := ⟨hmd.mono (fun b hb hl => ⟨hb23.block b hl, hb⟩), hwm, by have := HXT.out; omega⟩
            have hgl3 := HG.out w3 HX3.out.1
            have f0 := hgl3.f0
            have f1 := hgl3.f1
            have fl := lt_of_cell f0
            have e0 : w3.cell? ⟨fb, 0, none⟩ = some (.int .i64 0) := (cell_blk hk3).trans rfl
            have e1 : w3.cell? ⟨fb, 1, none⟩ = some (.int .i64 (-1)) := (cell_blk hk3).trans rfl
            have el := lt_blk hk3
            unfold mcells at *
            have k0 : w3.cell? ⟨xb, 0, none⟩ = some (.string (bs m.name)) := (cell_blk hk2).trans rfl
            have k1 : w3.cell? ⟨xb, 1, none⟩ = some (.slice ia m.imports.length ic) := (cell_blk hk2).trans rfl
            have k2 : w3.cell? ⟨xb, 2, none⟩ = some (.slice ga m.vars.length gc) := (cell_blk hk2).trans rfl
            have k3 : w3.cell? ⟨xb, 3, none⟩ = some (.slice pa m.procs.length pc) := (cell_blk hk2).trans rfl
            have k4 : w3.cell? ⟨xb, 4, none⟩ = some (.slice ba m.body.length bc) := (cell_blk hk2).trans rfl
            have kl := lt_blk hk2
            have hc6 : c < 1000000 := by omega
            clear hb2 hb23 hb3 hk2 hk3 hvm hmd hwm hnm hpx c2 hgl3
            go_upto_region 14 with fail
            rw [← hw3, ← hfb, ← hxb]
            clear hw3 hfb hxb
            go_upto_region 6 with (at_mapUpdate; refine wpList_mapUpdate_v' _ rfl _ _ _ 23 rfl _ Tryz.underlying23 mb c f HM3.out.m hc6 m.name hnl _ rfl rfl rfl ?_; intro w4 q1 q2 q3)
            have HP4 : Hid (∃ c f F, c ≤ i + 1 ∧ ModL lo w4 mb c f F) := ⟨c + 1, _, _, by omega, HM3.out.put rfl HMD.out.1 HMD.out.2.1 HMD.out.2.2 q1 q2 hbl⟩
            have HO4 : Hid (∃ c f F, c ≤ i + 1 ∧ ModL lo w4 ma c f F) := by
              obtain ⟨c, f, F, c1, c2⟩ := HO3.out
              exact ⟨c, f, F, c1, c2.other q2 hbl (by omega)⟩
            have HX4 : Hid (Below w.heap.size w w4 ∧ lo ≤ w4.heap.size) := ⟨HX3.out.1.trans (ext_below q2 (by omega) HX3.out.1.size), by have := HX3.out.2; omega⟩
            clear q1 q2 q3 k0 k1 k2 k3 k4 kl e0 e1 el f0 f1 fl
            go_wp2_with fail
            go_roundg (wn + nn - (i + 1))
            case measure => omega
            case rel => exact ⟨i + 1, by omega, rfl, by go_num, HO4, HP4, HX4⟩
    · have hlt' : ¬ (i : Int) < (wn : Int) + (nn : Int) := by omega
      obtain ⟨c1, fa, F, hc1, hLA⟩ := HA.out
      obtain ⟨c2, fb, G, hc2, hLB⟩ := HB.out
      have hFA := hLA.modF hal
      have hFB := hLB.modF hbl
      obtain ⟨K, hM, hKF⟩ := hFB.mods (by omega)
      have HRO := Lib.hid (rorder_post hM fun x hx => modF_ne hFB ((hKF x).1 hx))
      have HFA := Lib.hid hFA
      have HFB := Lib.hid hFB
      have HM := Lib.hid hM
      have HKF := Lib.hid hKF
      have HXW := Lib.hid HX.out.1
      clear hLA hLB hFA hFB hM hKF hc1 hc2
      go_wp2_with fail
      refine HRO.out.mono ?_
      rintro e w2 ⟨hb2, hr⟩
      have HB2 := Lib.hid hb2
      have HOR := Lib.hid (orderE_post (HM.out.on hb2))
      have HR := Lib.hid hr
      clear hb2 HRO
      rcases hr with ⟨T, la, lc, rfl, ⟨hT1, hT2⟩, hT3⟩ | ⟨rfl, hRd⟩
      · have HT3 := Lib.hid hT3
        have HT := Lib.hid (And.intro hT1 hT2)
        clear hT1 hT2 hT3
        go_wp2_with fail
        refine HOR.out.mono ?_
        rintro e w3 ⟨hb3, hq⟩
        rcases hq with ⟨T', ka, kc, rfl, ⟨hS1, hS2⟩, how⟩ | ⟨rfl, hRd⟩
        · have eT : T' = T := Tp.one_order hS1 hS2 HT.out.1 HT.out.2
          subst eT
          have HK3 : Hid (StrsAt w3 T' ka) := own_strsAt how
          have HL3 : Hid (StrsAt w3 T' la) := HT3.out.on hb3
          have HB3 : Hid (Below wr.heap.size wr w3) := HB2.out.trans (hb3.mono HB2.out.size)
          have hTn : T'.length ≤ 1000000 := by have := hS1.len; have := HM.out.n; omega
          have HBR := Lib.hid (bare_post (v := .nilIface) (n := 0) (Or.inl (Or.inl ⟨rfl, rfl, rfl⟩)) (HH.out w3 (HXW.out.trans (HB3.out.mono HXW.out.size))))
          clear hb3 hS1 hS2 how HOR HR HT3
          go_wp2_with fail
          refine HBR.out.mono ?_
          rintro e w4 ⟨rfl, hb4⟩
          have HB4 : Hid (Below wr.heap.size wr w4) := HB3.out.trans (hb4.mono HB3.out.size)
          have HST := Lib.hid (sameStrs_eq (c := kc) (d := lc) (HK3.out.on hb4) (HL3.out.on hb4) hTn)
          clear hb4 HBR
          go_wp2_with fail
          refine HST.out.mono ?_
          rintro e w5 ⟨rfl, hb5⟩
          have HB5 : Hid (Below wr.heap.size wr w5) := HB4.out.trans (hb5.mono HB4.out.size)
          clear hb5 HST
          obtain ⟨w6, hw6⟩ : ∃ w6, w6 = w5.alloc (.cells #[] 9) := ⟨_, rfl⟩
          have hb6 : Below w5.heap.size w5 w6 := by rw [hw6]; exact (Below.refl _ _).alloc (Nat.le_refl _) _
          have hk6 : w6.heap[w5.heap.size]? = some (.cells #[] 9 (0, 0)) := by rw [hw6]; exact new_blk _ _
          have HROW : Hid (w6.ownsRow w5.heap.size 9 1 (.slice (some ⟨w5.heap.size, 0, none⟩) 0 0) 0 []) := ⟨rfl, Or.inr ⟨w5.heap.size, 0, #[], rfl, Nat.le_refl _, hk6, Nat.le_refl _, Nat.zero_le _, rfl, rfl⟩⟩
          have HB6 : Hid (Below wr.heap.size wr w6) := HB5.out.trans (hb6.mono HB5.out.size)
          have HFIN : Hid (∀ (w7 : World) (a7 : Option Addr) (c7 : Nat), Below wr.heap.size wr w7 → StrsAt w7 ch a7 → Calls Tryz.prog 9 #[.map (some ma), .map (some mb), .slice a7 cn c7] w7 (StaleP w7 (sK (K.filter (stP F G ch))))) := fun w7 a7 c7 h1 h2 => by
            have := staleX_post (cc := c7) (HFA.out.on h1) (HFB.out.on h1) (HM.out.on h1) HKF.out h2 HCH.out (by have := HCN.out; omega)
            rw [stX_all, ← HCN.out] at this
            exact this
          have HFIR : Hid (∀ w8 : World, Below wr.heap.size wr w8 → Calls Tryz.prog 10 #[.map (some ma), .map (some mb), .slice ca cn cc] w8 (StaleP w8 (sK (K.filter (stP F G ch))))) := fun w8 h1 => by
            have := rstale_post (cc := cc) (HFA.out.on h1) (HFB.out.on h1) (HM.out.on h1) HKF.out (HS3.out.on (HXW.out.trans (h1.mono HXW.out.size))) HCH.out (by have := HCN.out; omega)
            rw [← HCN.out] at this
            exact this
          have HKN : Hid ((sK (K.filter (stP F G ch))).length ≤ 1000000) := by
            show _ ≤ _
            rw [sK_len]
            have h1 := List.length_filter_le (stP F G ch) K
            have h2 := HM.out.n
            omega
          have HEND : Hid (∀ (w7 : World) (a7 : Option Addr) (c7 : Nat), Below wr.heap.size wr w7 → StrsAt w7 ch a7 → True) := fun _ _ _ _ _ => trivial
          obtain ⟨LL, hLL⟩ : ∃ LL, LL = sK (K.filter (stP F G ch)) := ⟨_, rfl⟩
          rw [← hLL] at HFIN HFIR HKN
          clear hb6 hk6 hLL HEND
          cases ca with
          | none =>
            have hc0 := HCC.out rfl
            subst hc0
            have hcn0 : cn = 0 := by
              have h1 := HCN.out
              cases ch with
              | nil => exact h1
              | cons y t =>
                obtain ⟨b, o, q, _⟩ := HS3.out.c 0 (by simp)
                cases q
            subst hcn0
            have hch0 : ch = [] := List.eq_nil_of_length_eq_zero HCN.out.symm
            have HN := Lib.hid (HFIN.out w6 (some ⟨w5.heap.size, 0, none⟩) 0 HB6.out (by rw [hch0]; exact ⟨fun i hi => by simp at hi⟩))
            clear hch0
            rw [hw6] at HROW
            go_wp2_with (at_builtin; refine wpList_append_gn (by rfl) _ _ 22 rfl w5.heap.size 9 i1 1 Tryz.underlying22 hi _ 0 [] rfl HROW.out rfl ?_)
            rw [← hw6]
            clear hw6 HROW HFIN
            go_wp2_with fail
            refine HN.out.mono ?_
            rintro e w8 ⟨sa, sc, rfl, hst8, hb8⟩
            have HB8 : Hid (Below wr.heap.size wr w8) := HB6.out.trans (hb8.mono HB6.out.size)
            have HR8 := Lib.hid (HFIR.out w8 HB8.out)
            have HST8 := Lib.hid hst8
            clear hb8 hst8 HN
            go_wp2_with fail
            refine HR8.out.mono ?_
            rintro e w9 ⟨ra, rc, rfl, hst9, hb9⟩
            have HB9 : Hid (Below wr.heap.size wr w9) := HB8.out.trans (hb9.mono HB8.out.size)
            have HEQ := Lib.hid (sameStrs_eq (c := sc) (d := rc) (HST8.out.on hb9) hst9 HKN.out)
            clear hb9 hst9 HR8 HST8 HFIR
            go_wp2_with fail
            refine HEQ.out.mono ?_
            rintro e w10 ⟨rfl, hb10⟩
            have HB10 : Hid (Below w.heap.size w w10) := HXW.out.trans ((HB9.out.trans (hb10.mono HB9.out.size)).mono HXW.out.size)
            clear hb10 HEQ
            go_wp2_with fail
            go_ret
            exact ⟨rfl, HB10.out⟩
          | some ad =>
            have HNEWS : Hid (∀ j u, (strs ch)[j]? = some u → w6.cell? (ad.add j) = some u) := fun j u hj => by
              have hjl : j < ch.length := by have := (List.getElem?_eq_some_iff.1 hj).1; simpa [strs] using this
              obtain ⟨b, o, q, hbl, hc⟩ := (HS3.out.on (HXW.out.trans (HB6.out.mono HXW.out.size))).c j hjl
              cases q
              rw [Addr.add_lit, hc]
              have : (strs ch)[j]? = some (.string (bs ch[j])) := by simp [strs, List.getElem?_eq_getElem hjl]
              rw [this] at hj
              exact hj
            have HSL : Hid ((strs ch).length = cn * 1) := by show _ = _; rw [HCN.out]; simp [strs]
            have HB6' := HB6
            have hs56 : w5.heap.size ≤ w6.heap.size := by rw [hw6]; simp
            rw [hw6] at HROW HNEWS hs56
            go_wp2_with (at_builtin; refine wpList_append_g (by rfl) _ _ 22 rfl w5.heap.size 9 i1 (.string ⟨#[]⟩) 1 16 Tryz.underlying22 hi hz0 hz1 hz2 rfl (by decide) _ 0 [] rfl HROW.out ad cn cc (strs ch) rfl HSL.out HNEWS.out (by intro u hu; unfold strs at hu; obtain ⟨y, _, rfl⟩ := List.mem_map.1 hu; rfl) (by unfold maxLen; omega) (by omega) hs56 ?_)
            rw [← hw6]
            intro v7 w7 h7 g7 l7
            have hb7 : Below w5.heap.size w6 w7 := (Below.refl _ _).grown g7 (by rw [← hw6] at hs56; exact hs56) (fun k hk => by cases hk; exact Nat.le_refl _)
            have HB7 : Hid (Below wr.heap.size wr w7) := HB6.out.trans (hb7.mono HB5.out.size)
          
            obtain ⟨a7, c7, hv7⟩ := owns_shape h7
            subst hv7
            have HN := Lib.hid (HFIN.out w7 a7 c7 HB7.out (own_strsAt (l := ch) (m := cn) (by rw [← HCN.out]; exact h7)))
            clear hw6 HROW HFIN HNEWS HSL h7 g7 l7 hb7 hs56
            go_wp2_with fail
            refine HN.out.mono ?_
            rintro e w8 ⟨sa, sc, rfl, hst8, hb8⟩
            have HB8 : Hid (Below wr.heap.size wr w8) := HB7.out.trans (hb8.mono HB7.out.size)
            have HR8 := Lib.hid (HFIR.out w8 HB8.out)
            have HST8 := Lib.hid hst8
            clear hb8 hst8 HN
            go_wp2_with fail
            refine HR8.out.mono ?_
            rintro e w9 ⟨ra, rc, rfl, hst9, hb9⟩
            have HB9 : Hid (Below wr.heap.size wr w9) := HB8.out.trans (hb9.mono HB8.out.size)
            have HEQ := Lib.hid (sameStrs_eq (c := sc) (d := rc) (HST8.out.on hb9) hst9 HKN.out)
            clear hb9 hst9 HR8 HST8 HFIR
            go_wp2_with fail
            refine HEQ.out.mono ?_
            rintro e w10 ⟨rfl, hb10⟩
            have HB10 : Hid (Below w.heap.size w w10) := HXW.out.trans ((HB9.out.trans (hb10.mono HB9.out.size)).mono HXW.out.size)
            clear hb10 HEQ
            go_wp2_with fail
            go_ret
            exact ⟨rfl, HB10.out⟩
        · exact absurd hRd (Tp.Came.no_round HT.out.1)
      · have HRd := Lib.hid hRd
        clear hRd
        go_wp2_with fail
        refine HOR.out.mono ?_
        rintro e w3 ⟨hb3, hq⟩
        rcases hq with ⟨T', ka, kc, rfl, ⟨hS1, hS2⟩, how⟩ | ⟨rfl, hRd⟩
        · exact absurd HRd.out (Tp.Came.no_round hS1)
        · have HB3 : Hid (Below wr.heap.size wr w3) := HB2.out.trans (hb3.mono HB2.out.size)
          have HBR := Lib.hid (bare_post (v := .iface 29 (.int .i64 11)) (n := 11) (Or.inr ⟨rfl, rfl⟩) (HH.out w3 (HXW.out.trans (HB3.out.mono HXW.out.size))))
          clear hb3 hRd HOR HR
          go_wp2_with fail
          refine HBR.out.mono ?_
          rintro e w4 ⟨rfl, hb4⟩
          have HB4 : Hid (Below wr.heap.size wr w4) := HB3.out.trans (hb4.mono HB3.out.size)
          have HST := Lib.hid (sameStrs_eq (w := w4) (l := []) (a := none) (b := none) (c := 0) (d := 0) ⟨fun i hi => by simp at hi⟩ ⟨fun i hi => by simp at hi⟩ (by simp))
          clear hb4 HBR
          go_wp2_with fail
          refine HST.out.mono ?_
          rintro e w5 ⟨rfl, hb5⟩
          have HB5 : Hid (Below wr.heap.size wr w5) := HB4.out.trans (hb5.mono HB4.out.size)
          clear hb5 HST
          obtain ⟨w6, hw6⟩ : ∃ w6, w6 = w5.alloc (.cells #[] 9) := ⟨_, rfl⟩
          have hb6 : Below w5.heap.size w5 w6 := by rw [hw6]; exact (Below.refl _ _).alloc (Nat.le_refl _) _
          have hk6 : w6.heap[w5.heap.size]? = some (.cells #[] 9 (0, 0)) := by rw [hw6]; exact new_blk _ _
          have HROW : Hid (w6.ownsRow w5.heap.size 9 1 (.slice (some ⟨w5.heap.size, 0, none⟩) 0 0) 0 []) := ⟨rfl, Or.inr ⟨w5.heap.size, 0, #[], rfl, Nat.le_refl _, hk6, Nat.le_refl _, Nat.zero_le _, rfl, rfl⟩⟩
          have HB6 : Hid (Below wr.heap.size wr w6) := HB5.out.trans (hb6.mono HB5.out.size)
          have HFIN : Hid (∀ (w7 : World) (a7 : Option Addr) (c7 : Nat), Below wr.heap.size wr w7 → StrsAt w7 ch a7 → Calls Tryz.prog 9 #[.map (some ma), .map (some mb), .slice a7 cn c7] w7 (StaleP w7 (sK (K.filter (stP F G ch))))) := fun w7 a7 c7 h1 h2 => by
            have := staleX_post (cc := c7) (HFA.out.on h1) (HFB.out.on h1) (HM.out.on h1) HKF.out h2 HCH.out (by have := HCN.out; omega)
            rw [stX_all, ← HCN.out] at this
            exact this
          have HFIR : Hid (∀ w8 : World, Below wr.heap.size wr w8 → Calls Tryz.prog 10 #[.map (some ma), .map (some mb), .slice ca cn cc] w8 (StaleP w8 (sK (K.filter (stP F G ch))))) := fun w8 h1 => by
            have := rstale_post (cc := cc) (HFA.out.on h1) (HFB.out.on h1) (HM.out.on h1) HKF.out (HS3.out.on (HXW.out.trans (h1.mono HXW.out.size))) HCH.out (by have := HCN.out; omega)
            rw [← HCN.out] at this
            exact this
          have HKN : Hid ((sK (K.filter (stP F G ch))).length ≤ 1000000) := by
            show _ ≤ _
            rw [sK_len]
            have h1 := List.length_filter_le (stP F G ch) K
            have h2 := HM.out.n
            omega
          have HEND : Hid (∀ (w7 : World) (a7 : Option Addr) (c7 : Nat), Below wr.heap.size wr w7 → StrsAt w7 ch a7 → True) := fun _ _ _ _ _ => trivial
          obtain ⟨LL, hLL⟩ : ∃ LL, LL = sK (K.filter (stP F G ch)) := ⟨_, rfl⟩
          rw [← hLL] at HFIN HFIR HKN
          clear hb6 hk6 hLL HEND
          cases ca with
          | none =>
            have hc0 := HCC.out rfl
            subst hc0
            have hcn0 : cn = 0 := by
              have h1 := HCN.out
              cases ch with
              | nil => exact h1
              | cons y t =>
                obtain ⟨b, o, q, _⟩ := HS3.out.c 0 (by simp)
                cases q
            subst hcn0
            have hch0 : ch = [] := List.eq_nil_of_length_eq_zero HCN.out.symm
            have HN := Lib.hid (HFIN.out w6 (some ⟨w5.heap.size, 0, none⟩) 0 HB6.out (by rw [hch0]; exact ⟨fun i hi => by simp at hi⟩))
            clear hch0
            rw [hw6] at HROW
            go_wp2_with (at_builtin; refine wpList_append_gn (by rfl) _ _ 22 rfl w5.heap.size 9 i1 1 Tryz.underlying22 hi _ 0 [] rfl HROW.out rfl ?_)
            rw [← hw6]
            clear hw6 HROW HFIN
            go_wp2_with fail
            refine HN.out.mono ?_
            rintro e w8 ⟨sa, sc, rfl, hst8, hb8⟩
            have HB8 : Hid (Below wr.heap.size wr w8) := HB6.out.trans (hb8.mono HB6.out.size)
            have HR8 := Lib.hid (HFIR.out w8 HB8.out)
            have HST8 := Lib.hid hst8
            clear hb8 hst8 HN
            go_wp2_with fail
            refine HR8.out.mono ?_
            rintro e w9 ⟨ra, rc, rfl, hst9, hb9⟩
            have HB9 : Hid (Below wr.heap.size wr w9) := HB8.out.trans (hb9.mono HB8.out.size)
            have HEQ := Lib.hid (sameStrs_eq (c := sc) (d := rc) (HST8.out.on hb9) hst9 HKN.out)
            clear hb9 hst9 HR8 HST8 HFIR
            go_wp2_with fail
            refine HEQ.out.mono ?_
            rintro e w10 ⟨rfl, hb10⟩
            have HB10 : Hid (Below w.heap.size w w10) := HXW.out.trans ((HB9.out.trans (hb10.mono HB9.out.size)).mono HXW.out.size)
            clear hb10 HEQ
            go_wp2_with fail
            go_ret
            exact ⟨rfl, HB10.out⟩
          | some ad =>
            have HNEWS : Hid (∀ j u, (strs ch)[j]? = some u → w6.cell? (ad.add j) = some u) := fun j u hj => by
              have hjl : j < ch.length := by have := (List.getElem?_eq_some_iff.1 hj).1; simpa [strs] using this
              obtain ⟨b, o, q, hbl, hc⟩ := (HS3.out.on (HXW.out.trans (HB6.out.mono HXW.out.size))).c j hjl
              cases q
              rw [Addr.add_lit, hc]
              have : (strs ch)[j]? = some (.string (bs ch[j])) := by simp [strs, List.getElem?_eq_getElem hjl]
              rw [this] at hj
              exact hj
            have HSL : Hid ((strs ch).length = cn * 1) := by show _ = _; rw [HCN.out]; simp [strs]
            have HB6' := HB6
            have hs56 : w5.heap.size ≤ w6.heap.size := by rw [hw6]; simp
            rw [hw6] at HROW HNEWS hs56
            go_wp2_with (at_builtin; refine wpList_append_g (by rfl) _ _ 22 rfl w5.heap.size 9 i1 (.string ⟨#[]⟩) 1 16 Tryz.underlying22 hi hz0 hz1 hz2 rfl (by decide) _ 0 [] rfl HROW.out ad cn cc (strs ch) rfl HSL.out HNEWS.out (by intro u hu; unfold strs at hu; obtain ⟨y, _, rfl⟩ := List.mem_map.1 hu; rfl) (by unfold maxLen; omega) (by omega) hs56 ?_)
            rw [← hw6]
            intro v7 w7 h7 g7 l7
            have hb7 : Below w5.heap.size w6 w7 := (Below.refl _ _).grown g7 (by rw [← hw6] at hs56; exact hs56) (fun k hk => by cases hk; exact Nat.le_refl _)
            have HB7 : Hid (Below wr.heap.size wr w7) := HB6.out.trans (hb7.mono HB5.out.size)
          
            obtain ⟨a7, c7, hv7⟩ := owns_shape h7
            subst hv7
            have HN := Lib.hid (HFIN.out w7 a7 c7 HB7.out (own_strsAt (l := ch) (m := cn) (by rw [← HCN.out]; exact h7)))
            clear hw6 HROW HFIN HNEWS HSL h7 g7 l7 hb7 hs56
            go_wp2_with fail
            refine HN.out.mono ?_
            rintro e w8 ⟨sa, sc, rfl, hst8, hb8⟩
            have HB8 : Hid (Below wr.heap.size wr w8) := HB7.out.trans (hb8.mono HB7.out.size)
            have HR8 := Lib.hid (HFIR.out w8 HB8.out)
            have HST8 := Lib.hid hst8
            clear hb8 hst8 HN
            go_wp2_with fail
            refine HR8.out.mono ?_
            rintro e w9 ⟨ra, rc, rfl, hst9, hb9⟩
            have HB9 : Hid (Below wr.heap.size wr w9) := HB8.out.trans (hb9.mono HB8.out.size)
            have HEQ := Lib.hid (sameStrs_eq (c := sc) (d := rc) (HST8.out.on hb9) hst9 HKN.out)
            clear hb9 hst9 HR8 HST8 HFIR
            go_wp2_with fail
            refine HEQ.out.mono ?_
            rintro e w10 ⟨rfl, hb10⟩
            have HB10 : Hid (Below w.heap.size w w10) := HXW.out.trans ((HB9.out.trans (hb10.mono HB9.out.size)).mono HXW.out.size)
            clear hb10 HEQ
            go_wp2_with fail
            go_ret
            exact ⟨rfl, HB10.out⟩
end Go.Proofs.YtfcdphgggdioeaaGreatDoor
/- What the row lists of the program's variables, as PlanOrders' walk asks for it. -/
namespace Go.Proofs.YtfcdphgggdioeaaGreatDoor
open Go.RowKit Go.ChangeShapes Go.ChangeAt Go.WideShapes

theorem cString : Tryz.prog.cellsOf 9 = 1 := by kernel_rfl
theorem cInt : Tryz.prog.cellsOf 3 = 1 := by kernel_rfl
theorem strs_of {w : World} {fuel : Nat} {cs : List Value} {ds : List (DataW Unit)} {p : List MemPlace} {n t : Nat} (ht : Tryz.prog.underlying t = some (.array n 9)) (h : DataW.trod (fun _ => ()) Tryz.prog w 0 (fun _ => true) false fuel t cs = some (.agg ds, p)) :
    ∀ (i : Nat) (b : List UInt8), i < n → ds[i]? = some (.lit (.string b)) → cs[i]? = some (.string (bs b)) := by
  obtain ⟨xs, m, _, hx, hl, hn, hf⟩ := DataW.trod_array ht h
  intro i b hi hd
  have hq := hf i hi
  rw [cString, Nat.mul_one] at hq
  have hxi : i < xs.length := by omega
  rw [List.getElem?_eq_getElem hxi] at hq
  obtain ⟨s, h1, h2, _⟩ := DataW.trod_string Tryz.underlying9 hq
  have e1 : ds = xs.map (·.1) := by have := congrArg Prod.fst hx; simpa using this
  rw [e1, List.getElem?_map, List.getElem?_eq_getElem hxi, h2] at hd
  simp at hd
  have h3 := congrArg (·[0]?) h1
  simp [List.getElem?_drop] at h3
  rw [h3, ← hd]
  simp [bs]
theorem gErr : Tryz.prog.globalNamed "errors.errorType" = some 4 := by kernel_rfl
theorem rtRow : (Tryz.prog.cutTypes.find? (·.1 == "internal/reflectlite.rtype")).map (·.2) = some 183 := by kernel_rfl
theorem oneRow : ((List.range 265).filter fun t => Tryz.prog.rowNamed t [101, 114, 114, 111, 114]) = [37] := by kernel_rfl
theorem sizeRow : Tryz.prog.types.size ≤ 265 := of_decide_eq_true (by kernel_rfl)
theorem gFine : Tryz.prog.globalNamed "marquetry/marquetryref.Fine" = some 0 := by kernel_rfl
theorem gFineT : (Tryz.prog.globals[0]?).map (·.type) = some 31 := by kernel_rfl
theorem gRlev : Tryz.prog.globalNamed "marquetry/marquetryref.levels" = some 3 := by kernel_rfl
theorem gRlevT : (Tryz.prog.globals[3]?).map (·.type) = some 191 := by kernel_rfl
theorem gRange : Tryz.prog.globalNamed "strconv.ErrRange" = some 2 := by kernel_rfl
theorem gRangeT : (Tryz.prog.globals[2]?).map (·.type) = some 37 := by kernel_rfl
theorem cErrno : Tryz.prog.cellsOf 29 = 1 := by kernel_rfl
theorem iface_of {P : Program} {w : World} {fuel t : Nat} {cs : List Value} {y : DataW Unit × List MemPlace} {ms : _} (ht : P.underlying t = some (.interface ms)) (h : DataW.trod (fun _ => ()) P w 0 (fun _ => true) false fuel t cs = some y) : ∃ ev, cs = [ev] ∧ (ev = .nilIface ∨ ∃ te pe, ev = .iface te pe) := by
  cases fuel with
  | zero => simp [DataW.trod] at h
  | succ n =>
    match cs, h with
    | [], h => simp [DataW.trod, ht] at h
    | [v], h =>
      refine ⟨v, rfl, ?_⟩
      cases v <;> first | exact Or.inl rfl | exact Or.inr ⟨_, _, rfl⟩ | (simp [DataW.trod, ht] at h)
    | _ :: _ :: _, h => simp [DataW.trod, ht] at h
theorem fine_of {w : World} {fuel : Nat} {cs : List Value} {p : List MemPlace} (h : DataW.trod (fun _ => ()) Tryz.prog w 0 (fun _ => true) false fuel 31 cs = some (.agg [.lit (.int .i64 0), .lit (.int .i64 (-1))], p)) : cs[0]? = some (.int .i64 0) ∧ cs[1]? = some (.int .i64 (-1)) := by
  obtain ⟨y0, y1, m', h2, h3, h4, h5⟩ := trod_struct2 Tryz.underlying31 h
  have h2 := congrArg Prod.fst h2
  simp only [DataW.agg.injEq, List.cons.injEq, and_true] at h2
  simp only [cErrno, cInt] at h4 h5
  obtain ⟨k, h6, h7, _⟩ := DataW.trod_int Tryz.underlying29 h4
  obtain ⟨k', h8, h9, _⟩ := DataW.trod_int Tryz.underlying3 h5
  rw [h7, h9] at h2
  simp only [DataW.lit.injEq, Lit.int.injEq, true_and] at h2
  have g1 := congrArg (·[0]?) h6
  have g2 := congrArg (·[0]?) h8
  simp at g1 g2
  rw [← h2.1] at g1
  rw [← h2.2] at g2
  exact ⟨g1, g2⟩
theorem vars_ofP {W : World} (h : laidMetH Tryz.prog Rows.planOrdersRow.laid W) (hS : W.ShapedOpen Tryz.prog) : Gl W ∧ Hnd W := by
  have hh := laidMetH_iff.1 h
  have h' : laidMet Tryz.prog [("math/bits.deBruijn32tab", Rows.laid_math_bits_deBruijn32tab), ("math/bits.deBruijn64tab", Rows.laid_math_bits_deBruijn64tab), ("internal/strconv.uint64pow10", Rows.laid_internal_strconv_uint64pow10), ("strconv.ErrRange", Rows.laid_strconv_ErrRange), ("strconv.ErrSyntax", Rows.laid_strconv_ErrSyntax), ("marquetry/marquetryref.Fine", Rows.laid_marquetry_marquetryref_Fine), ("marquetry/marquetryref.levels", Rows.laid_marquetry_marquetryref_levels)] W := hh.1
  obtain ⟨ps, ⟨azG, azT, azC, azF, azP, azQ, az1, az2, az3, az4, ⟨bzG, bzT, bzC, bzF, bzP, bzQ, bz1, bz2, bz3, bz4, ⟨czG, czT, czC, czF, czP, czQ, cz1, cz2, cz3, cz4, ⟨dzG, dzT, dzC, dzF, dzP, dzQ, dz1, dz2, dz3, dz4, ⟨ezG, ezT, ezC, ezF, ezP, ezQ, ez1, ez2, ez3, ez4, ⟨fzG, fzT, fzC, fzF, fzP, fzQ, fz1, fz2, fz3, fz4, ⟨gzG, gzT, gzC, gzF, gzP, gzQ, gz1, gz2, gz3, gz4, _⟩, _⟩, _⟩, _⟩, _⟩, _⟩, _⟩, _⟩ := h'
  obtain rfl := Option.some.inj (gRange.symm.trans dz1)
  obtain rfl := Option.some.inj (gRangeT.symm.trans dz2)
  obtain rfl := Option.some.inj (gFine.symm.trans fz1)
  obtain rfl := Option.some.inj (gFineT.symm.trans fz2)
  obtain rfl := Option.some.inj (gRlev.symm.trans gz1)
  obtain rfl := Option.some.inj (gRlevT.symm.trans gz2)
  have hr := strs_of Tryz.underlying191 gz4
  have hf := fine_of fz4
  obtain ⟨ev, hev, hev2⟩ := iface_of Tryz.underlying37 dz4
  have he : handlesMet Tryz.prog [("errors.errorType", Rows.laid_errors_errorType)] W := hh.2
  obtain ⟨name, u, ty, e1, e2, e3, e4, e5⟩ := he _ (List.mem_singleton.2 rfl)
  have en : name = [101, 114, 114, 111, 114] := (Option.some.inj e1).symm
  subst en
  obtain rfl := Option.some.inj (rtRow.symm.trans e2)
  have hmm : ty ∈ (List.range 265).filter fun t => Tryz.prog.rowNamed t [101, 114, 114, 111, 114] := List.mem_filter.2 ⟨List.mem_range.2 (Nat.lt_of_lt_of_le e3 sizeRow), e4⟩
  rw [oneRow] at hmm
  obtain rfl := List.mem_singleton.1 hmm
  have hhd : typeHandle Tryz.prog 37 = .pointer (some ⟨9, 37, none⟩) := by kernel_rfl
  rw [hhd] at e5
  have hcell := World.var?_cell gErr e5 0
  have hml := cell_of_shapedOpen_int (g := 5) (t := 3) (zero := #[.int .i64 0]) (k := .i64) hS (of_decide_eq_true (by kernel_rfl)) (by kernel_rfl) rfl (by kernel_rfl) (by kernel_rfl) Tryz.underlying3
  refine ⟨⟨?_, ?_, hml, fun i hi => ?_, ev, ?_, hev2⟩, by unfold Hnd; simpa using hcell⟩
  · rw [World.var?_cell gFine fz3 0, ← Array.getElem?_toList]; exact hf.1
  · rw [World.var?_cell gFine fz3 1, ← Array.getElem?_toList]; exact hf.2
  · rw [World.var?_cell gRlev gz3 i, ← Array.getElem?_toList]
    match i, hi with
    | 0, _ => exact hr 0 _ (by decide) rfl
    | 1, _ => exact hr 1 _ (by decide) rfl
    | 2, _ => exact hr 2 _ (by decide) rfl
    | 3, _ => exact hr 3 _ (by decide) rfl
    | 4, _ => exact hr 4 _ (by decide) rfl
    | k + 5, hk => exact absurd hk (by omega)
  · rw [World.var?_cell gRange dz3 0, ← Array.getElem?_toList, hev]; rfl
end Go.Proofs.YtfcdphgggdioeaaGreatDoor
