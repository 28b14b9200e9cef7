import Derived.Test.YtijhpokclpdjpaaGreatDoorKJb
import Derived.Deep.RegionLawGrows
import Derived.Defers
import Derived.Recover
/- Reading an object: the walk. -/
namespace Go.Proofs.YtijhpokclpdjpaaGreatDoor
open Go.RowKit
open Ob (Bs)

/- append within a region that draws: where the new slice lies -/
theorem step_append_where {P : Program} {ops : Array Oper} {o : Oper} {a : Act} {w : World} {K : Act → World → Prop} {Q : Exit → Act → World → Prop} {E : Prop}
    (hg : o.guard = none) (s x : Operand) (t : TypeId) (hop : o.op = Op.call { callee := Callee.builtin Builtin.append, args := #[s, x], argTypes := #[t, t] })
    (base : Nat) (e : TypeId) (i : TypeInfo) (z : Value) (size bytes : Nat) (ht : P.underlying t = some (.slice e)) (hi : P.info? e = some i) (hz : i.zero = some z)
    (hsize : i.size = size) (hby : i.bytes = bytes) (hzs : z.cells.size = size) (hsz : 0 < size)
    (v : Value) (n : Nat) (xs : List Value) (hs : a.eval s = v) (hown : w.ownsRow base e size v n xs)
    (ad : Addr) (m c : Nat) (news : List Value) (hx : a.eval x = .slice (some ad) m c) (hl : news.length = m * size) (hnews : ∀ j u, news[j]? = some u → w.cell? (ad.add j) = some u) (h1 : ∀ u ∈ news, u.oneCell' = true)
    (h63 : n + m ≤ maxLen) (hbytes : (n + m) * bytes ≤ 140737488355328) (hbase : base ≤ w.heap.size)
    (hK : ∀ v' w', w'.ownsRow base e size v' (n + m) (xs ++ news) → w.grownBy w' v.ownBlock → (∀ g, v'.ownBlock = some g → v.ownBlock = some g ∨ w.heap.size ≤ g) → K (a.put o.dst v') w') :
    if Region.wanted o (yielded ops a.tmps) = true then Oper.wp P o a w K Q else E := by
  have hw : Region.wanted o (yielded ops a.tmps) = true := by simp [Region.wanted, hg]
  rw [if_pos hw]
  obtain ⟨v', w', r1, r2, r3, r4⟩ := run_append_where (P := P) w base t o.type e i z size bytes ht hi hz hsize hby hzs hsz v n xs hown ad m c news hl hnews h1 h63 hbytes hbase
  unfold Oper.wp
  simp [execOp, hop, resolve, invoke, builtin, hs, hx, r1, Result.andThen]
  exact hK v' w' r2 r3 r4

theorem step_wanted {P : Program} {ops : Array Oper} {o : Oper} {a : Act} {w : World} {K : Act → World → Prop} {Q : Exit → Act → World → Prop} {E : Prop} (hg : o.guard = none) (h : Oper.wp P o a w K Q) : if Region.wanted o (yielded ops a.tmps) = true then Oper.wp P o a w K Q else E := by
  rw [if_pos (by simp [Region.wanted, hg])]; exact h
theorem cell_alloc {w : World} {a : Addr} {v : Value} (h : w.cell? a = some v) (ob : Obj) : (w.alloc ob).cell? a = some v := (World.cell?_alloc_lt _ _ _ (World.block_lt_of_cell? _ _ h)).trans h
theorem below_drew (w : World) : Below w.heap.size w w.drew := (Below.refl _ _).drew
theorem news3 (w : World) (e : Nat) (v0 v1 v2 : Value) : ∀ j u, [v0, v1, v2][j]? = some u → (w.alloc (.cells #[v0, v1, v2] e)).cell? ((⟨w.heap.size, 0, none⟩ : Addr).add j) = some u := by
  intro j u hj
  match j, hj with
  | 0, hj => simp at hj; subst hj; simp [Addr.add]
  | 1, hj => simp at hj; subst hj; simp [Addr.add]
  | 2, hj => simp at hj; subst hj; simp [Addr.add]
theorem rep_len {α : Type} {one : Ob.Rd α} : ∀ {n : Nat} {l r : Bs} {xs : List α}, Ob.repR one n l = some (xs, r) → xs.length = n := by
  intro n
  induction n with
  | zero => intro l r xs h; simp [Ob.repR] at h; rw [h.1]; rfl
  | succ n ih =>
    intro l r xs h
    simp only [Ob.repR] at h
    rcases h1 : one l with _ | ⟨x, r1⟩
    · rw [h1] at h; simp at h
    · rw [h1] at h
      simp only [Option.bind_some] at h
      rcases h2 : Ob.repR one n r1 with _ | ⟨ys, r2⟩
      · rw [h2] at h; simp at h
      · rw [h2] at h
        simp at h
        rw [← h.1]
        simp [ih h2]
theorem list_le {α : Type} {one : Ob.Rd α} {most : Nat} {l r : Bs} {xs : List α} (h : Ob.listR most one l = some (xs, r)) : xs.length ≤ most := by
  unfold Ob.listR at h
  rcases h1 : Ob.manyR most l with _ | ⟨n, r1⟩
  · rw [h1] at h; simp at h
  · rw [h1] at h
    simp only [Option.bind_some] at h
    rw [rep_len h]
    exact many_le h1
theorem entry_bad {w : World} {rb : Nat} {l : Bs} (h : Rst w rb l) (hr : Hid (Ob.enR l = none)) :
    Calls Tryz.prog 93 #[.pointer (some ⟨rb, 0, none⟩)] w fun e w' => e = thrown ∧ Ext rb w w' := by
  refine (entry_any h).mono ?_
  intro e w' hq
  rw [hr.out] at hq
  exact hq
theorem entry_ok {w : World} {rb : Nat} {l r : Bs} {x : Ob.En} (h : Rst w rb l) (hr : Hid (Ob.enR l = some (x, r))) :
    Calls Tryz.prog 93 #[.pointer (some ⟨rb, 0, none⟩)] w fun e w' => e = .returned (.agg #[.int .i64 x.at', .int .i64 x.args, .int .i64 x.locals]) ∧ Rst w' rb r ∧ Ext rb w w' := by
  refine (entry_any h).mono ?_
  intro e w' hq
  rw [hr.out] at hq
  obtain ⟨v, rfl, hv, h1, h2⟩ := hq
  exact ⟨by rw [show v = _ from hv], h1, h2⟩
theorem ownsRow_alloc {w : World} {base e size n : Nat} {v : Value} {xs : List Value} (h : w.ownsRow base e size v n xs) (ob : Obj) : (w.alloc ob).ownsRow base e size v n xs := owns_below h ((Below.refl _ _).alloc (Nat.le_refl _) _)
/- an object in memory, read so -/
def VOb (B : Nat) (o : Ob.O) (v : Value) (w : World) : Prop := ∃ (ob C : Nat) (sv uv vv pv nv cv : Value), v = .pointer (some ⟨ob, 0, none⟩) ∧ B ≤ ob ∧ ob < C ∧ w.heap[ob]? = some (.cells #[.string (bs o.name), sv, uv, vv, pv, nv, cv] 45 (0, 0)) ∧
  Parts w (fun b => B ≤ b ∧ b ≠ ob ∧ b < C) o.syms o.uses o.vars o.names sv uv vv nv ∧ Row w (fun b => C ≤ b) 47 3 pv o.procs.length (cellsOf enC o.procs) ∧ Row w (fun b => C ≤ b) 49 3 cv o.code.length (cellsOf inC o.code)
theorem OS.done {w0 w w' : World} {rb ob C : Nat} {r r' nm : Bs} {ss : List Ob.Sm} {us : List Ob.Us} {vs : List Ob.Gl} {ns : List Bs} {ps : List Ob.En} {cs : List Ob.In} {sv uv vv pv nv cv : Value} (h : OS w0 w rb ob C r nm ss us vs ns ps sv uv vv pv nv) (hx : Ext rb w w') (hr : Rst w' rb r') (ho : w'.ownsRow w.heap.size 49 3 cv cs.length (cellsOf inC cs)) :
    VOb w0.heap.size ⟨nm, ss, us, vs, ps, ns, cs⟩ (.pointer (some ⟨ob, 0, none⟩)) (w'.setCell ⟨ob, 6, none⟩ cv) ∧ Rst (w'.setCell ⟨ob, 6, none⟩ cv) rb r' ∧ Ext rb w0 (w'.setCell ⟨ob, 6, none⟩ cv) := by
  have h1 := h.read hx hr
  have hne : ob ≠ rb := by have := h.rbl; have := h.obl; omega
  have hC := h.obC
  have hCC := h.CC
  refine ⟨⟨ob, C, sv, uv, vv, pv, nv, cv, rfl, h.obl, hC, set_blk 6 cv h1.blk, h1.pt.mono (fun b hb hl => ⟨Below.heap_setCell _ _ _ _ (by simpa using hb.2.1), hb⟩), (Row.of_owns h1.po).mono (fun b hb hl => ⟨Below.heap_setCell _ _ _ _ (by simp; omega), hb.1⟩), (Row.of_owns ho).mono (fun b hb hl => ⟨Below.heap_setCell _ _ _ _ (by simp; omega), by omega⟩)⟩, hr.other ((Ext.refl ob w').set 6 cv) (Ne.symm hne), h1.ext.new ((Ext.refl ob w').set 6 cv) h.obl⟩
set_option maxRecDepth 100000 in
set_option maxHeartbeats 4000000 in
theorem object_any {w : World} {rb : Nat} {l : Bs} (h : Rst w rb l) :
    Calls Tryz.prog 68 #[.pointer (some ⟨rb, 0, none⟩)] w fun e w' => Rp rb w (VOb w.heap.size) (Ob.obR l) e w' := by
  have hmf : ∀ (fn : Fn) (first cap : Array Value) (w : World), (Instr.makeFunc fn first cap).run Tryz.prog w = .ok (.func fn first cap) w := fun _ _ _ _ => rfl
  obtain ⟨i3, hi3, hz30, hz31, hz32⟩ := info_parts Tryz.infoEntry
  have hrl := lt_of_cell h.c
  have HR : Hid (Ob.obR l = (Ob.txtR l).bind fun n => (Ob.listR 20 Ob.symR n.2).bind fun s => (Ob.listR 6 Ob.useR s.2).bind fun u => (Ob.listR 10 Ob.glR u.2).bind fun v => (Ob.listR 10 Ob.txtR v.2).bind fun m => (Ob.repR Ob.enR m.1.length m.2).bind fun p => (Ob.listR 4000 Ob.inR p.2).map fun c => (⟨n.1, s.1, u.1, v.1, p.1, m.1, c.1⟩, c.2)) := rfl
  have HC := Lib.hid (text_any h)
  generalize Ob.obR l = resT at *
  generalize Ob.txtR l = res at *
  clear h
  go_enter Tryz.func68, Tryz.ntmps68
  go_wp2_with fail
  refine HC.out.mono ?_
  intro e w1 hq
  rcases res with _ | ⟨nm, r1⟩
  · obtain ⟨rfl, hx⟩ := hq
    unfold thrown
    go_wp2_with fail
    rw [HR.out]
    exact ⟨rfl, rfl, hx⟩
  · obtain ⟨v, rfl, rfl, hst, hx⟩ := hq
    have HR1 : Hid (resT = (Ob.listR 20 Ob.symR r1).bind fun s => (Ob.listR 6 Ob.useR s.2).bind fun u => (Ob.listR 10 Ob.glR u.2).bind fun v => (Ob.listR 10 Ob.txtR v.2).bind fun m => (Ob.repR Ob.enR m.1.length m.2).bind fun p => (Ob.listR 4000 Ob.inR p.2).map fun c => (⟨nm, s.1, u.1, v.1, p.1, m.1, c.1⟩, c.2)) := HR
    have hos := OS.start (nm := nm) hrl hst hx
    have hal : w1.alloc (.cells #[.string (bs nm), nl, nl, nl, nl, nl, nl] 45) = w1.alloc (.cells #[.string (bs nm), .slice none 0 0, .slice none 0 0, .slice none 0 0, .slice none 0 0, .slice none 0 0, .slice none 0 0] 45) := rfl
    rw [hal] at hos
    have hwo : w.heap.size ≤ w1.heap.size := hx.size
    clear HR HC hst hx hal
    obtain ⟨ob, hob⟩ : ∃ ob, ob = w1.heap.size := ⟨_, rfl⟩
    go_wp2_with fail
    rw [← hob] at hos ⊢
    generalize w1.alloc (.cells #[.string (bs nm), .slice none 0 0, .slice none 0 0, .slice none 0 0, .slice none 0 0, .slice none 0 0, .slice none 0 0] 45) = w2 at *
    have hwob : w.heap.size ≤ ob := by omega
    clear hob hwo
    have HOS0 := Lib.hid hos
    have HC0 := Lib.hid (listSym_any hos.rst 20 (by omega))
    clear hos
    generalize Ob.listR 20 Ob.symR r1 = res at *
    refine HC0.out.mono ?_
    intro e w3 hq
    rcases res with _ | ⟨ss, r2⟩
    · obtain ⟨rfl, hx⟩ := hq
      unfold thrown
      go_wp2_with fail
      rw [HR1.out]
      exact ⟨rfl, rfl, HOS0.out.ext.trans hx⟩
    · obtain ⟨sv, rfl, hv, hst, hx⟩ := hq
      obtain ⟨sva, svc, rfl⟩ := owns_shape hv
      have hos := HOS0.out.setS hx hst hv
      have hosR := HOS0.out.read hx hst
      have kc : w3.cell? ⟨ob, 1, none⟩ = some (.slice none 0 0) := cell_blk hosR.blk
      have kf : w3.frozen? ⟨ob, 1, none⟩ = false := frozen_blk hosR.blk
      have HR2 : Hid (resT = (Ob.listR 6 Ob.useR r2).bind fun u => (Ob.listR 10 Ob.glR u.2).bind fun v => (Ob.listR 10 Ob.txtR v.2).bind fun m => (Ob.repR Ob.enR m.1.length m.2).bind fun p => (Ob.listR 4000 Ob.inR p.2).map fun c => (⟨nm, ss, u.1, v.1, p.1, m.1, c.1⟩, c.2)) := HR1
      clear HOS0 HC0 HR1 hv hst hx hosR
      go_wp2_with fail
      generalize w3.setCell ⟨ob, 1, none⟩ (.slice sva ss.length svc) = w4 at *
      clear kc kf
      have HOS1 := Lib.hid hos
      have HC1 := Lib.hid (listUse_any hos.rst 6 (by omega))
      clear hos
      generalize Ob.listR 6 Ob.useR r2 = res at *
      refine HC1.out.mono ?_
      intro e w5 hq
      rcases res with _ | ⟨us, r3⟩
      · obtain ⟨rfl, hx⟩ := hq
        unfold thrown
        go_wp2_with fail
        rw [HR2.out]
        exact ⟨rfl, rfl, HOS1.out.ext.trans hx⟩
      · obtain ⟨uv, rfl, hv, hst, hx⟩ := hq
        obtain ⟨uva, uvc, rfl⟩ := (let ⟨_, _, h2⟩ := hv; owns_shape h2)
        have hos := HOS1.out.setU hx hst hv
        have hosR := HOS1.out.read hx hst
        have kc : w5.cell? ⟨ob, 2, none⟩ = some (.slice none 0 0) := cell_blk hosR.blk
        have kf : w5.frozen? ⟨ob, 2, none⟩ = false := frozen_blk hosR.blk
        have HR3 : Hid (resT = (Ob.listR 10 Ob.glR r3).bind fun v => (Ob.listR 10 Ob.txtR v.2).bind fun m => (Ob.repR Ob.enR m.1.length m.2).bind fun p => (Ob.listR 4000 Ob.inR p.2).map fun c => (⟨nm, ss, us, v.1, p.1, m.1, c.1⟩, c.2)) := HR2
        clear HOS1 HC1 HR2 hv hst hx hosR
        go_wp2_with fail
        generalize w5.setCell ⟨ob, 2, none⟩ (.slice uva us.length uvc) = w6 at *
        clear kc kf
        have HOS2 := Lib.hid hos
        have HC2 := Lib.hid (listGlobal_any hos.rst 10 (by omega))
        clear hos
        generalize Ob.listR 10 Ob.glR r3 = res at *
        refine HC2.out.mono ?_
        intro e w7 hq
        rcases res with _ | ⟨vs, r4⟩
        · obtain ⟨rfl, hx⟩ := hq
          unfold thrown
          go_wp2_with fail
          rw [HR3.out]
          exact ⟨rfl, rfl, HOS2.out.ext.trans hx⟩
        · obtain ⟨vv, rfl, hv, hst, hx⟩ := hq
          obtain ⟨vva, vvc, rfl⟩ := owns_shape hv
          have hos := HOS2.out.setV hx hst hv
          have hosR := HOS2.out.read hx hst
          have kc : w7.cell? ⟨ob, 3, none⟩ = some (.slice none 0 0) := cell_blk hosR.blk
          have kf : w7.frozen? ⟨ob, 3, none⟩ = false := frozen_blk hosR.blk
          have HR4 : Hid (resT = (Ob.listR 10 Ob.txtR r4).bind fun m => (Ob.repR Ob.enR m.1.length m.2).bind fun p => (Ob.listR 4000 Ob.inR p.2).map fun c => (⟨nm, ss, us, vs, p.1, m.1, c.1⟩, c.2)) := HR3
          clear HOS2 HC2 HR3 hv hst hx hosR
          go_wp2_with fail
          generalize w7.setCell ⟨ob, 3, none⟩ (.slice vva vs.length vvc) = w8 at *
          clear kc kf
          have HOS3 := Lib.hid hos
          have HC3 := Lib.hid (listStr_any hos.rst 10 (by omega))
          have HBN : Hid (∀ xs r, Ob.listR 10 Ob.txtR r4 = some (xs, r) → xs.length ≤ 10) := fun xs r he => list_le he
          clear hos
          generalize Ob.listR 10 Ob.txtR r4 = res at *
          refine HC3.out.mono ?_
          intro e w9 hq
          rcases res with _ | ⟨ns, r5⟩
          · obtain ⟨rfl, hx⟩ := hq
            unfold thrown
            go_wp2_with fail
            rw [HR4.out]
            exact ⟨rfl, rfl, HOS3.out.ext.trans hx⟩
          · obtain ⟨nv, rfl, hv, hst, hx⟩ := hq
            obtain ⟨nva, nvc, rfl⟩ := owns_shape hv
            have hos := HOS3.out.setN hx hst hv
            have hosR := HOS3.out.read hx hst
            have kc : w9.cell? ⟨ob, 5, none⟩ = some (.slice none 0 0) := cell_blk hosR.blk
            have kf : w9.frozen? ⟨ob, 5, none⟩ = false := frozen_blk hosR.blk
            have hns := HBN.out ns r5 rfl
            clear HBN
            have HR5 : Hid (resT = (Ob.repR Ob.enR ns.length r5).bind fun p => (Ob.listR 4000 Ob.inR p.2).map fun c => (⟨nm, ss, us, vs, p.1, ns, c.1⟩, c.2)) := HR4
            clear HOS3 HC3 HR4 hv hst hx hosR
            go_wp2_with fail
            generalize w9.setCell ⟨ob, 5, none⟩ (.slice nva ns.length nvc) = w10 at *
            clear kc kf
            have HP : Hid (∃ resP, Ob.repR Ob.enR ns.length r5 = resP) := ⟨_, rfl⟩
            obtain ⟨resP, hresP⟩ := HP.out
            have HR6 : Hid (resT = resP.bind fun p => (Ob.listR 4000 Ob.inR p.2).map fun c => (⟨nm, ss, us, vs, p.1, ns, c.1⟩, c.2)) := by rw [← hresP]; exact HR5
            have HRP := Lib.hid hresP
            have HOS := Lib.hid hos
            obtain ⟨C, hC⟩ : ∃ C, C = w9.heap.size := ⟨_, rfl⟩
            rw [← hC] at HOS
            clear HP hresP HR5 hos hC
            go_loopg [41] ns.length (fun k vi wr => ∃ (i : Nat) (ps : List Ob.En) (pv : Value) (r' : Bs), i ≤ ns.length ∧ k = ns.length - i ∧ ps.length = i ∧ vi = .int .i64 (i : Int) ∧ Hid (OS w wr rb ob C r' nm ss us vs ns ps (.slice sva ss.length svc) (.slice uva us.length uvc) (.slice vva vs.length vvc) pv (.slice nva ns.length nvc)) ∧ Hid (app ps (Ob.repR Ob.enR (ns.length - i) r') = resP))
            case atStart => exact ⟨0, [], nl, r5, by omega, by omega, rfl, rfl, HOS, by rw [app_nil]; exact HRP⟩
            case round =>
              obtain ⟨i, ps, pv, r', hid, hk, hpl, rfl, HS, HA⟩ := hrel
              clear HOS HRP
              subst hpl
              obtain ⟨pa, pc, rfl⟩ := owns_shape HS.out.po
              by_cases hlt : ps.length < ns.length
              · have hlt' : (ps.length : Int) < (ns.length : Int) := by omega
                have HA1 : Hid (app ps (Ob.repR Ob.enR ((ns.length - (ps.length + 1)) + 1) r') = resP) := by rw [show ns.length - (ps.length + 1) + 1 = ns.length - ps.length by omega]; exact HA
                have hstd := HS.out.rst.ext (below_drew wr)
                have k4 : wr.cell? ⟨ob, 4, none⟩ = some (.slice pa ps.length pc) := cell_blk HS.out.blk
                have hol := lt_blk HS.out.blk
                rcases hres : Ob.enR r' with _ | ⟨x, r2'⟩
                · have HX := Lib.hid hres
                  have HF : Hid (∀ e w', e = thrown ∧ Ext rb wr.drew w' → Rp rb w (VOb w.heap.size) resT e w') := by
                    intro e w' hq
                    rw [HR6.out, ← HA1.out, app_bad HX.out]
                    exact ⟨hq.1, (HS.out.ext.trans (Ext.below (below_drew wr))).trans hq.2⟩
                  clear hres HA HA1 HS HR6
                  go_wp2_with fail
                  go_region_dies
                  all_goals (refine (entry_bad hstd HX).mono ?_; intro e w9 hq; have h0 := hq.1; unfold thrown at h0; subst h0; exact ⟨rfl, HF.out _ _ hq⟩)
                · have HX := Lib.hid hres
                  have HA2 : Hid (app (ps ++ [x]) (Ob.repR Ob.enR (ns.length - (ps.length + 1)) r2') = resP) := by rw [← HA1.out]; exact (app_next HX.out).symm
                  have z4 : wr.frozen? ⟨ob, 4, none⟩ = false := frozen_blk HS.out.blk
                  have HSD : Hid (OS w wr.drew rb ob C r' nm ss us vs ns ps (.slice sva ss.length svc) (.slice uva us.length uvc) (.slice vva vs.length vvc) (.slice pa ps.length pc) (.slice nva ns.length nvc)) := HS.out.read (Ext.below (below_drew wr)) hstd
                  clear hres HA HA1 HS
                  go_wp2_with fail
                  go_region_law (first | (refine step_wanted rfl ?_; go_simp; go_at_call 93; refine (entry_ok hstd HX).mono ?_; rintro e w9 ⟨rfl, hst9, hx9⟩; have hos9 := HSD.out.read hx9 hst9; have k9 : w9.cell? ⟨ob, 4, none⟩ = some (.slice pa ps.length pc) := cell_blk hos9.blk; have z9 : w9.frozen? ⟨ob, 4, none⟩ = false := frozen_blk hos9.blk; have hl9 : ob < w9.heap.size := lt_blk hos9.blk; have k9a : ∀ ob', (w9.alloc ob').cell? ⟨ob, 4, none⟩ = some (.slice pa ps.length pc) := fun ob' => cell_alloc k9 ob') | (refine step_append_where rfl (.tmp 47) (.tmp 50) 41 rfl C 47 i3 (.agg #[.int .i64 0, .int .i64 0, .int .i64 0]) 3 24 Tryz.underlying41 hi3 hz30 hz31 hz32 rfl (by decide) (.slice pa ps.length pc) ps.length (cellsOf enC ps) (by simp [Act.eval]) (ownsRow_alloc hos9.po _) ⟨w9.heap.size, 0, none⟩ 1 1 [.int .i64 x.at', .int .i64 x.args, .int .i64 x.locals] (by simp [Act.eval]) rfl (news3 w9 _ _ _ _) (by intro u hu; simp at hu; rcases hu with rfl | rfl | rfl <;> rfl) (by unfold maxLen; omega) (by omega) (by have := hos9.CC; simp; omega) ?_; intro v' w10 hown10 hgrow10 hwhere10; have hb10 : Below C w9 w10 := ((Below.refl _ _).alloc hos9.CC _).trans ((Below.refl _ _).grown hgrow10 (by have := hos9.CC; simp; omega) (owns_row hos9.po)); have b10 := (hb10.block ob hos9.obC).trans hos9.blk; have k10 : w10.cell? ⟨ob, 4, none⟩ = some (.slice pa ps.length pc) := cell_blk b10; have z10 : w10.frozen? ⟨ob, 4, none⟩ = false := frozen_blk b10; obtain ⟨va, vc, hvv⟩ := owns_shape hown10; subst hvv))
                  all_goals
                    have HOS10 := Lib.hid (hos9.snoc hb10 hown10)
                    clear hgrow10 hwhere10 hown10 hos9 hst9 hstd HSD b10 k10 z10 k9 z9 k4 z4 hb10 k9a hx9
                    go_wp2_with fail
                    go_roundg (ns.length - (ps.length + 1))
                    case measure => omega
                    case rel => exact ⟨ps.length + 1, ps ++ [x], _, r2', by omega, rfl, by simp, by go_num, HOS10, HA2⟩
              · have hlt' : ¬ (ps.length : Int) < (ns.length : Int) := by omega
                have hei : ps.length = ns.length := by omega
                have HA1 : Hid (resP = some (ps, r')) := by
                  show _ = _
                  rw [← HA.out, hei, Nat.sub_self]
                  simp [Ob.repR, app]
                have HR7 : Hid (resT = (Ob.listR 4000 Ob.inR r').map fun c => (⟨nm, ss, us, vs, ps, ns, c.1⟩, c.2)) := by rw [HA1.out] at HR6; exact HR6
                have HC := Lib.hid (listInst_any HS.out.rst 4000 (by omega))
                clear HA HA1 HR6 hei
                generalize Ob.listR 4000 Ob.inR r' = res at *
                go_wp2_with fail
                refine HC.out.mono ?_
                intro e wn hq
                rcases res with _ | ⟨cs, r2'⟩
                · obtain ⟨rfl, hx⟩ := hq
                  unfold thrown
                  go_wp2_with fail
                  rw [HR7.out]
                  exact ⟨rfl, rfl, HS.out.ext.trans hx⟩
                · obtain ⟨cv, rfl, hv, hst, hx⟩ := hq
                  obtain ⟨cva, cvc, rfl⟩ := owns_shape hv
                  have HD := Lib.hid (HS.out.done hx hst hv)
                  have hosR := HS.out.read hx hst
                  have kc : wn.cell? ⟨ob, 6, none⟩ = some (.slice none 0 0) := cell_blk hosR.blk
                  have kf : wn.frozen? ⟨ob, 6, none⟩ = false := frozen_blk hosR.blk
                  clear HS HC hv hst hx hosR
                  go_wp2_with fail
                  go_ret
                  rw [HR7.out]
                  exact ⟨_, rfl, HD.out.1, HD.out.2.1, HD.out.2.2⟩
end Go.Proofs.YtijhpokclpdjpaaGreatDoor
/- read: an object, or an error. -/
namespace Go.Proofs.YtijhpokclpdjpaaGreatDoor
open Go.RowKit
open Ob (Bs)

set_option maxRecDepth 100000 in
set_option maxHeartbeats 400000 in
theorem caught_at (w : World) :
    Calls Tryz.prog 67 #[.iface 24 (.int .i64 3)] w fun e w' => e = .returned (.iface 24 (.int .i64 3)) ∧ w' = w := by
  have hta : ∀ (w : World), (Instr.typeAssert (.iface 24 (.int .i64 3)) 20 24 true).run Tryz.prog w = .ok (.tuple #[.int .i64 3, .bool true]) w := fun w => by kernel_rfl
  go_enter Tryz.func67, Tryz.ntmps67
  go_wp2
  go_ret
  exact ⟨rfl, rfl⟩
set_option maxRecDepth 100000 in
set_option maxHeartbeats 800000 in
theorem late_panicking (mb eb : Nat) (older : List PanicEntry) (w : World) (c0 : (w.cell? ⟨mb, 0, none⟩).isSome = true) (z0 : w.frozen? ⟨mb, 0, none⟩ = false) (ce : (w.cell? ⟨eb, 0, none⟩).isSome = true) (ze : w.frozen? ⟨eb, 0, none⟩ = false) (hne : mb ≠ eb) :
    CallsD Tryz.prog 66 #[.pointer (some ⟨mb, 0, none⟩), .pointer (some ⟨eb, 0, none⟩)] (.panicking ({ v := .iface 24 (.int .i64 3), recovered := false } :: older)) w fun e u' w' =>
      e = .returned (.tuple #[]) ∧ u' = .panicking ({ v := .iface 24 (.int .i64 3), recovered := true } :: older) ∧ w' = (w.setCell ⟨mb, 0, none⟩ (.pointer none)).setCell ⟨eb, 0, none⟩ (.iface 24 (.int .i64 3)) := by
  refine callsD_of_wpS Tryz.func66 rfl fun c₀ cs hu => ?_
  apply wpS_seq
  apply wpS_region
  simp [wpOpsS, go_sem, recoverD, hu, Tryz.ntmps66, Exit.thenS]
  refine wpS_of_wp ?_
  rw [Option.isSome_iff_exists] at c0 ce
  obtain ⟨x0, k0⟩ := c0
  obtain ⟨xe, ke⟩ := ce
  have hne' : eb ≠ mb := fun e => hne e.symm
  generalize hQ : (fun (e : Exit) (a' : Act) (w' : World) => bodyPostS Tryz.prog _ _ _ _ e a' _ w') = Q
  show Code.wp Tryz.prog _ _ { tmps := #[.pointer (some ⟨mb, 0, none⟩), .pointer (some ⟨eb, 0, none⟩), .iface 24 (.int .i64 3), .iface 24 (.int .i64 3), undef, undef, undef, undef], defers := [] } w
  go_wp2_with fail
  refine (caught_at w).mono ?_
  rintro e w' ⟨rfl, rfl⟩
  go_wp2_with fail
  subst hQ
  simp [bodyPostS, results, Tryz.results66]
set_option maxRecDepth 100000 in
set_option maxHeartbeats 800000 in
theorem late_idle (m e : Addr) (w : World) :
    CallsD Tryz.prog 66 #[.pointer (some m), .pointer (some e)] .returning w fun e u' w' => e = .returned (.tuple #[]) ∧ u' = .returning ∧ w' = w := by
  refine callsD_of_wpS Tryz.func66 rfl fun c₀ cs hu => ?_
  apply wpS_seq
  apply wpS_region
  simp [wpOpsS, go_sem, recoverD, hu, Tryz.ntmps66, Exit.thenS]
  refine wpS_of_wp ?_
  generalize hQ : (fun (e : Exit) (a' : Act) (w' : World) => bodyPostS Tryz.prog _ _ _ _ e a' _ w') = Q
  show Code.wp Tryz.prog _ _ { tmps := #[.pointer (some m), .pointer (some e), .nilIface, .nilIface, undef, undef, undef, undef], defers := [] } w
  go_wp2_with fail
  subst hQ
  cases c₀
  simp_all [bodyPostS, results, Tryz.results66]
def ReadP (w : World) (l : Bs) (e : Ending) (w' : World) : Prop :=
  match Ob.obR l with
  | none => e = .returned (.tuple #[.pointer none, .iface 24 (.int .i64 3)])
  | some (O, _) => ∃ a, e = .returned (.tuple #[.pointer (some a), .nilIface]) ∧ VOb w.heap.size O (.pointer (some a)) w'
theorem VOb.keep {B : Nat} {O : Ob.O} {v : Value} {w w' : World} (h : VOb B O v w) (hk : ∀ b, B ≤ b → b < w.heap.size → w'.heap[b]? = w.heap[b]?) : VOb B O v w' := by
  obtain ⟨ob, C, sv, uv, vv, pv, nv, cv, h1, h2, h3, h4, h5, h6, h7⟩ := h
  exact ⟨ob, C, sv, uv, vv, pv, nv, cv, h1, h2, h3, (hk ob h2 (lt_blk h4)).trans h4, h5.mono (fun b hb hl => ⟨hk b hb.1 hl, hb⟩), h6.mono (fun b hb hl => ⟨hk b (by omega) hl, hb⟩), h7.mono (fun b hb hl => ⟨hk b (by omega) hl, hb⟩)⟩
theorem VOb.le {B B' : Nat} {O : Ob.O} {v : Value} {w : World} (h : VOb B O v w) (hB : B' ≤ B) : VOb B' O v w := by
  obtain ⟨ob, C, sv, uv, vv, pv, nv, cv, h1, h2, h3, h4, h5, h6, h7⟩ := h
  exact ⟨ob, C, sv, uv, vv, pv, nv, cv, h1, by omega, h3, h4, h5.mono (fun b hb hl => ⟨rfl, by omega, hb.2⟩), h6, h7⟩
set_option maxRecDepth 100000 in
set_option maxHeartbeats 2000000 in
theorem read_post (w : World) (l : Bs) (hl : l.length ≤ 1000000000) :
    Calls Tryz.prog 41 #[.string (bs l)] w fun e w' => Below w.heap.size w w' ∧ ReadP w l e w' := by
  have hmf : ∀ (fn : Fn) (first cap : Array Value) (w : World), (Instr.makeFunc fn first cap).run Tryz.prog w = .ok (.func fn first cap) w := fun _ _ _ _ => rfl
  obtain ⟨mb, hmb⟩ : ∃ mb, mb = w.heap.size := ⟨_, rfl⟩
  go_enter_defers Tryz.func41, Tryz.ntmps41
  go_wp2_with fail
  have hb0 : Below w.heap.size w (((w.alloc (.cells #[.pointer none] 22)).alloc (.cells #[.nilIface] 28)).alloc (.cells #[.string (bs l)] 106)) := (((Below.refl _ _).alloc (Nat.le_refl _) _).alloc (by simp) _).alloc (by simp; omega) _
  have hsz0 : (((w.alloc (.cells #[.pointer none] 22)).alloc (.cells #[.nilIface] 28)).alloc (.cells #[.string (bs l)] 106)).heap.size = w.heap.size + 3 := by simp
  have hbm : (((w.alloc (.cells #[.pointer none] 22)).alloc (.cells #[.nilIface] 28)).alloc (.cells #[.string (bs l)] 106)).heap[w.heap.size]? = some (.cells #[.pointer none] 22 (0, 0)) := (Below.heap_alloc _ _ _ (by simp; omega)).trans ((Below.heap_alloc _ _ _ (by simp)).trans (new_blk _ _))
  have hbe : (((w.alloc (.cells #[.pointer none] 22)).alloc (.cells #[.nilIface] 28)).alloc (.cells #[.string (bs l)] 106)).heap[w.heap.size + 1]? = some (.cells #[.nilIface] 28 (0, 0)) := by
    rw [Below.heap_alloc _ _ _ (by simp)]
    have := new_blk (w.alloc (.cells #[.pointer none] 22)) (.cells #[.nilIface] 28)
    simpa using this
  have hbr : (((w.alloc (.cells #[.pointer none] 22)).alloc (.cells #[.nilIface] 28)).alloc (.cells #[.string (bs l)] 106)).heap[w.heap.size + 1 + 1]? = some (.cells #[.string (bs l)] 106 (0, 0)) := by
    have := new_blk ((w.alloc (.cells #[.pointer none] 22)).alloc (.cells #[.nilIface] 28)) (.cells #[.string (bs l)] 106)
    simpa using this
  generalize ((w.alloc (.cells #[.pointer none] 22)).alloc (.cells #[.nilIface] 28)).alloc (.cells #[.string (bs l)] 106) = w1 at hb0 hsz0 hbm hbe hbr ⊢
  have hrst : Rst w1 (w.heap.size + 1 + 1) l := ⟨(cell_blk hbr).trans rfl, frozen_blk hbr, hl⟩
  have HB0 : Hid (Below mb w w1) := by rw [hmb]; exact hb0
  have HMB : Hid (w.heap.size = mb) := hmb.symm
  have hsz1 : w1.heap.size = mb + 3 := by omega
  rw [← hmb] at hbm hbe hbr hrst ⊢
  have HC := Lib.hid (object_any hrst)
  have HP : Hid (∀ e w', ReadP w l e w' ↔ (match Ob.obR l with
    | none => e = .returned (.tuple #[.pointer none, .iface 24 (.int .i64 3)])
    | some (O, _) => ∃ a, e = .returned (.tuple #[.pointer (some a), .nilIface]) ∧ VOb mb O (.pointer (some a)) w')) := by
    intro e w'; rw [hmb]; exact Iff.rfl
  clear hb0 hsz0 hmb hrst hbr
  generalize Ob.obR l = res at *
  refine HC.out.mono ?_
  intro e w6 hq
  rcases res with _ | ⟨O, r⟩
  · obtain ⟨rfl, hx⟩ := hq
    have e1 := (hx.block mb (by omega) (by omega)).trans hbm
    have e2 := (hx.block (mb + 1) (by omega) (by omega)).trans hbe
    have hb6 : Below mb w1 w6 := hx.toBelow (by omega) (by omega)
    have a2 : ((w6.setCell ⟨mb, 0, none⟩ (.pointer none)).setCell ⟨mb + 1, 0, none⟩ (.iface 24 (.int .i64 3))).heap[mb]? = some (.cells #[.pointer none] 22 (0, 0)) := (Below.heap_setCell _ _ _ _ (by simp)).trans (set_blk 0 (.pointer none) e1)
    have a3 : ((w6.setCell ⟨mb, 0, none⟩ (.pointer none)).setCell ⟨mb + 1, 0, none⟩ (.iface 24 (.int .i64 3))).heap[mb + 1]? = some (.cells #[.iface 24 (.int .i64 3)] 28 (0, 0)) := set_blk 0 (.iface 24 (.int .i64 3)) ((Below.heap_setCell _ _ _ _ (by simp)).trans e2)
    have hbd : Below mb w6 ((w6.setCell ⟨mb, 0, none⟩ (.pointer none)).setCell ⟨mb + 1, 0, none⟩ (.iface 24 (.int .i64 3))) := below_set (below_set (Below.refl _ _) (Nat.le_refl _) 0 _) (by simp) 0 _
    unfold thrown
    go_wp2_with fail
    refine leaves_cons (f := 66) (args := #[.pointer (some ⟨mb, 0, none⟩), .pointer (some ⟨mb + 1, 0, none⟩)]) (by simp) (by simp [go_sem]) ?_
    refine (late_panicking mb (mb + 1) [] w6 (by rw [cell_blk e1]; rfl) (frozen_blk e1) (by rw [cell_blk e2]; rfl) (frozen_blk e2) (by omega)).mono ?_
    rintro e u' w'' ⟨rfl, rfl, hw⟩
    rw [← hw] at a2 a3 hbd
    have k1 : w''.cell? ⟨mb, 0, none⟩ = some (.pointer none) := cell_blk a2
    have k2 : w''.cell? ⟨mb + 1, 0, none⟩ = some (.iface 24 (.int .i64 3)) := cell_blk a3
    have hfin : Below w.heap.size w w'' ∧ ReadP w l (.returned (.tuple #[.pointer none, .iface 24 (.int .i64 3)])) w'' := ⟨by rw [HMB.out]; exact (HB0.out.trans hb6).trans hbd, (HP.out _ _).2 rfl⟩
    clear hw
    simp [Leaves, settle, results, Tryz.results41, go_sem, k1, k2]
    exact hfin
  · obtain ⟨v, rfl, hv, hst, hx⟩ := hq
    have hv' := hv
    obtain ⟨ob, C, sv, uv, vv, pv, nv, cv, rfl, hobl, _⟩ := hv'
    have HV := Lib.hid hv
    have e1 := (hx.block mb (by omega) (by omega)).trans hbm
    have e2 := (hx.block (mb + 1) (by omega) (by omega)).trans hbe
    have hb6 : Below mb w1 w6 := hx.toBelow (by omega) (by omega)
    have y1 : w6.cell? ⟨mb, 0, none⟩ = some (.pointer none) := cell_blk e1
    have y2 : w6.cell? ⟨mb + 1, 0, none⟩ = some .nilIface := cell_blk e2
    have z1 : w6.frozen? ⟨mb, 0, none⟩ = false := frozen_blk e1
    have z2 : w6.frozen? ⟨mb + 1, 0, none⟩ = false := frozen_blk e2
    clear hv hst HC
    go_wp2_with fail
    have a2 : ((w6.setCell ⟨mb, 0, none⟩ (.pointer (some ⟨ob, 0, none⟩))).setCell ⟨mb + 1, 0, none⟩ .nilIface).heap[mb]? = some (.cells #[.pointer (some ⟨ob, 0, none⟩)] 22 (0, 0)) := (Below.heap_setCell _ _ _ _ (by simp)).trans (set_blk 0 _ e1)
    have a3 : ((w6.setCell ⟨mb, 0, none⟩ (.pointer (some ⟨ob, 0, none⟩))).setCell ⟨mb + 1, 0, none⟩ .nilIface).heap[mb + 1]? = some (.cells #[.nilIface] 28 (0, 0)) := set_blk 0 .nilIface ((Below.heap_setCell _ _ _ _ (by simp)).trans e2)
    have hbd : Below mb w6 ((w6.setCell ⟨mb, 0, none⟩ (.pointer (some ⟨ob, 0, none⟩))).setCell ⟨mb + 1, 0, none⟩ .nilIface) := below_set (below_set (Below.refl _ _) (Nat.le_refl _) 0 _) (by simp) 0 _
    have hvd : VOb mb O (.pointer (some ⟨ob, 0, none⟩)) ((w6.setCell ⟨mb, 0, none⟩ (.pointer (some ⟨ob, 0, none⟩))).setCell ⟨mb + 1, 0, none⟩ .nilIface) := (HV.out.keep (fun b hb _ => (Below.heap_setCell _ _ _ _ (by simp; omega)).trans (Below.heap_setCell _ _ _ _ (by simp; omega)))).le (by omega)
    generalize (w6.setCell ⟨mb, 0, none⟩ (.pointer (some ⟨ob, 0, none⟩))).setCell ⟨mb + 1, 0, none⟩ .nilIface = wd at *
    have k1 : wd.cell? ⟨mb, 0, none⟩ = some (.pointer (some ⟨ob, 0, none⟩)) := cell_blk a2
    have k2 : wd.cell? ⟨mb + 1, 0, none⟩ = some .nilIface := cell_blk a3
    have hfin : Below w.heap.size w wd ∧ ReadP w l (.returned (.tuple #[.pointer (some ⟨ob, 0, none⟩), .nilIface])) wd := ⟨by rw [HMB.out]; exact (HB0.out.trans hb6).trans hbd, (HP.out _ _).2 ⟨_, rfl, hvd⟩⟩
    refine leaves_cons (f := 66) (args := #[.pointer (some ⟨mb, 0, none⟩), .pointer (some ⟨mb + 1, 0, none⟩)]) (by simp) (by simp [go_sem]) ?_
    refine (late_idle ⟨mb, 0, none⟩ ⟨mb + 1, 0, none⟩ wd).mono ?_
    rintro e u' w'' ⟨rfl, rfl, rfl⟩
    simp [Leaves, settle, results, Tryz.results41, go_sem, k1, k2]
    exact hfin
end Go.Proofs.YtijhpokclpdjpaaGreatDoor
/- Writing: what the writer has; a number. -/
namespace Go.Proofs.YtijhpokclpdjpaaGreatDoor
open Go.RowKit
open Ob (Bs)

theorem Tryz.infoU8 : (Tryz.prog.info? 5).map (fun i => (i.zero, i.size, i.bytes)) = some (some (.int .u8 0), 1, 1) := by kernel_rfl
def u8s (l : List UInt8) : List Value := l.map fun b => Value.int .u8 b.toNat
theorem u8s_append (a b : List UInt8) : u8s (a ++ b) = u8s a ++ u8s b := by simp [u8s]
/- the writer's own block: the bytes so far -/
structure Wst (w : World) (wb : Nat) (v : Value) (l : Bs) : Prop where
  c : w.cell? ⟨wb, 0, none⟩ = some v
  fz : w.frozen? ⟨wb, 0, none⟩ = false
  own : w.ownsRow (wb + 1) 5 1 v l.length (u8s l)
/- what is written: that block, the bytes' own, and new ones -/
structure Wr (wb : Nat) (w : World) (v : Value) (w' : World) (v' : Value) : Prop where
  os : w'.os = w.os
  tape : w'.tape = w.tape
  output : w'.output = w.output
  size : w.heap.size ≤ w'.heap.size
  block : ∀ k, k < w.heap.size → k ≠ wb → v.ownBlock ≠ some k → w'.heap[k]? = w.heap[k]?
  lies : ∀ g, v'.ownBlock = some g → v.ownBlock = some g ∨ w.heap.size ≤ g
theorem Wr.refl (wb : Nat) (w : World) (v : Value) : Wr wb w v w v := ⟨rfl, rfl, rfl, Nat.le_refl _, fun _ _ _ _ => rfl, fun _ h => Or.inl h⟩
theorem Wr.trans {wb : Nat} {w w1 w2 : World} {v v1 v2 : Value} (h : Wr wb w v w1 v1) (k : Wr wb w1 v1 w2 v2) : Wr wb w v w2 v2 :=
  ⟨k.os.trans h.os, k.tape.trans h.tape, k.output.trans h.output, Nat.le_trans h.size k.size,
   fun i hi hb hv => (k.block i (Nat.lt_of_lt_of_le hi h.size) hb (fun e => (h.lies i e).elim hv (Nat.not_le.2 hi))).trans (h.block i hi hb hv),
   fun g hg => (k.lies g hg).elim (h.lies g) (fun e => Or.inr (Nat.le_trans h.size e))⟩
theorem Wr.of {wb : Nat} {w w' : World} {v : Value} (h : Below w.heap.size w w') : Wr wb w v w' v := ⟨h.os, h.tape, h.output, h.size, fun k hk _ _ => h.block k hk, fun _ h => Or.inl h⟩
theorem Wr.toBelow {wb : Nat} {w w' : World} {v v' : Value} (h : Wr wb w v w' v') (hs : wb ≤ w.heap.size) (hv : ∀ g, v.ownBlock = some g → wb ≤ g) : Below wb w w' :=
  ⟨h.os, h.tape, h.output, h.size, fun k hk => h.block k (by omega) (by omega) (fun e => by have := hv k e; omega)⟩
theorem Wst.below {w w' : World} {wb : Nat} {v : Value} {l : Bs} (h : Wst w wb v l) (k : Below w.heap.size w w') : Wst w' wb v l := by
  have hl := lt_of_cell h.c
  exact ⟨(k.cell (p := ⟨wb, 0, none⟩) hl).trans h.c, (k.frozen (p := ⟨wb, 0, none⟩) hl).trans h.fz, owns_below h.own k⟩
theorem Wst.push {w w3 : World} {wb : Nat} {v v' : Value} {l s : Bs} (h : Wst w wb v l) (ho : w3.ownsRow (wb + 1) 5 1 v' (l.length + s.length) (u8s l ++ u8s s)) (hx : Exact v v' w w3) (hb : Below (wb + 1) w w3) :
    Wst (w3.setCell ⟨wb, 0, none⟩ v') wb v' (l ++ s) ∧ Wr wb w v (w3.setCell ⟨wb, 0, none⟩ v') v' := by
  have hc := (hb.cell (p := ⟨wb, 0, none⟩) (by simp)).trans h.c
  refine ⟨⟨World.cell?_setCell_same _ _ _ hc, ?_, ?_⟩, ⟨hb.os, hb.tape, hb.output, by simpa using hb.size, fun k hk h1 h2 => (Below.heap_setCell _ _ _ _ (by simpa using h1)).trans (hx.block k hk h2), fun g hg => hx.lies g hg⟩⟩
  · have := (hb.frozen (p := ⟨wb, 0, none⟩) (by simp)).trans h.fz
    simpa using this
  · rw [u8s_append, List.length_append]
    exact owns_keep ho (fun b h1 _ _ => Below.heap_setCell _ _ _ _ (by simp; omega))
theorem vb_len (u : Nat) : ∀ k, u < 128 ^ k → (Ob.vb u).length ≤ max k 1 := by
  induction u using Nat.strongRecOn with
  | ind u ih =>
    intro k hk
    unfold Ob.vb
    by_cases h : u < 128
    · rw [if_pos h]; simp; omega
    · rw [if_neg h]
      cases k with
      | zero => simp at hk; omega
      | succ k =>
        have := ih (u / 128) (by omega) k (by rw [Nat.pow_succ] at hk; omega)
        cases k with
        | zero => simp at hk; omega
        | succ k => simp; omega
theorem num_len {n : Int} (h : Ob.I64 n) : (Ob.num n).length ≤ 10 := by
  have := vb_len (Ob.zig n) 10 (by have := Ob.zig_lt h; omega)
  unfold Ob.num; omega
theorem nums_len : ∀ (ns : List Int), (∀ n ∈ ns, Ob.I64 n) → ((ns.map Ob.num).flatten).length ≤ 10 * ns.length := by
  intro ns
  induction ns with
  | nil => intro _; simp
  | cons n l ih =>
    intro h
    have h1 := num_len (h n (by simp))
    have h2 := ih (fun x hx => h x (by simp [hx]))
    simp only [List.map_cons, List.flatten_cons, List.length_append, List.length_cons]
    omega
theorem zig_pos {n : Int} (h : Ob.I64 n) (h0 : ¬ n < 0) : IntKind.u64.wrap (IntKind.u64.wrap n * 2) = (Ob.zig n : Int) := by
  unfold Ob.I64 at h
  unfold Ob.zig
  rw [if_neg h0, IntKind.wrap_u64, IntKind.wrap_u64]
  omega
theorem zig_neg {n : Int} (h : Ob.I64 n) (h0 : n < 0) : ∃ b : Nat, IntKind.u64.wrap (IntKind.u64.wrap n * 2) = (b : Int) ∧ Go.bits .xor .u64 IntKind.u64.max (b : Int) = (Ob.zig n : Int) := by
  unfold Ob.I64 at h
  refine ⟨(2 * n + 18446744073709551616).toNat, ?_, ?_⟩
  · rw [IntKind.wrap_u64, IntKind.wrap_u64]; omega
  · have e : IntKind.u64.max = 18446744073709551615 := rfl
    rw [e, not64 _ (by omega)]
    unfold Ob.zig
    rw [if_pos h0]
    omega
theorem oneInt (k : IntKind) (x : Int) : ∀ u ∈ [Value.int k x], u.oneCell' = true := by intro y hy; simp at hy; subst hy; rfl
def Wrote (wb : Nat) (w : World) (v : Value) (l : Bs) (e : Ending) (w' : World) : Prop := e = .returned (.tuple #[]) ∧ ∃ v', Wst w' wb v' l ∧ Wr wb w v w' v'
set_option maxRecDepth 100000 in
set_option maxHeartbeats 1000000 in
theorem numbers_any {w : World} {wb nb : Nat} {v : Value} {l : Bs} (h : Wst w wb v l) (ns : List Int) (hns : ∀ n ∈ ns, Ob.I64 n) (hb : w.heap[nb]? = some (.cells (ns.map fun n => Value.int .i64 n).toArray 2 (0, 0))) (h1 : nb ≠ wb) (h2 : v.ownBlock ≠ some nb) (hl : l.length + 10 * ns.length ≤ 900000) :
    Calls Tryz.prog 47 #[.pointer (some ⟨wb, 0, none⟩), .slice (some ⟨nb, 0, none⟩) ns.length ns.length] w (Wrote wb w v (l ++ (ns.map Ob.num).flatten)) := by
  have hnl : (ns.length : Int) ≤ 900000 := by omega
  have HB := Lib.hid hb
  have HN := Lib.hid hns
  have HS := Lib.hid h
  have hnb := lt_blk hb
  clear hb hns h
  go_enter Tryz.func47, Tryz.ntmps47
  go_wp2_with fail
  go_loopg [9] ns.length (fun k vi wr => ∃ (i : Nat) (v' : Value), i ≤ ns.length ∧ k = ns.length - i ∧ vi = .int .i64 (i : Int) ∧ Hid (Wst wr wb v' (l ++ ((ns.take i).map Ob.num).flatten)) ∧ Hid (Wr wb w v wr v'))
  case atStart => exact ⟨0, v, by omega, by omega, rfl, by simpa using HS, Wr.refl _ _ _⟩
  case round =>
    obtain ⟨i, v1, hid, hk, rfl, HST, HW⟩ := hrel
    clear HS
    by_cases hlt : i < ns.length
    · have hlt' : (i : Int) < (ns.length : Int) := by omega
      have hc : wr.cell? ⟨nb, i, none⟩ = some (.int .i64 ns[i]) := by
        rw [cell_blk ((HW.out.block nb hnb h1 h2).trans HB.out)]; simp [hlt]
      have hn := HN.out ns[i] (List.getElem_mem hlt)
      have hsn : l ++ ((ns.take i).map Ob.num).flatten ++ Ob.vb (Ob.zig ns[i]) = l ++ ((ns.take (i + 1)).map Ob.num).flatten := by
        rw [List.take_succ_eq_append_getElem hlt, List.map_append, List.flatten_append, List.append_assoc]; simp [Ob.num]
      generalize ns[i] = n at *
      have hTL : (l ++ ((ns.take (i + 1)).map Ob.num).flatten).length ≤ 900000 := by
        have := nums_len (ns.take (i + 1)) (fun x hx => HN.out x (List.mem_of_mem_take hx))
        simp only [List.length_append]
        have h3 : (ns.take (i + 1)).length ≤ ns.length := List.length_take_le' _ _
        omega
      have HT : Hid (l ++ ((ns.take i).map Ob.num).flatten ++ Ob.vb (Ob.zig n) = l ++ ((ns.take (i + 1)).map Ob.num).flatten) := hsn
      clear hsn
      obtain ⟨T, hT⟩ : ∃ T, l ++ ((ns.take (i + 1)).map Ob.num).flatten = T := ⟨_, rfl⟩
      rw [hT] at HT hTL
      have HTT := Lib.hid hT
      clear hT
      have hzl := Ob.zig_lt hn
      have hcase : (n < 0 ∧ ∃ b : Nat, IntKind.u64.wrap (IntKind.u64.wrap n * 2) = (b : Int) ∧ Go.bits .xor .u64 IntKind.u64.max (b : Int) = (Ob.zig n : Int)) ∨ (¬ n < 0 ∧ IntKind.u64.wrap (IntKind.u64.wrap n * 2) = (Ob.zig n : Int)) := by
        by_cases h0 : n < 0
        · exact Or.inl ⟨h0, zig_neg hn h0⟩
        · exact Or.inr ⟨h0, zig_pos hn h0⟩
      generalize Ob.zig n = z at *
      clear hn
      rcases hcase with ⟨h0, b, ez1, ez2⟩ | ⟨h0, ez1⟩
      all_goals
        go_wp2_with fail
        go_loopg [6] z (fun k vu wr' => ∃ (u : Nat) (v2 : Value) (m : Bs), k = u ∧ vu = .int .u64 (u : Int) ∧ u < 18446744073709551616 ∧ Hid (Wst wr' wb v2 m) ∧ Hid (Wr wb w v wr' v2) ∧ Hid (m ++ Ob.vb u = T))
        case atStart => exact ⟨z, v1, _, rfl, rfl, hzl, HST, HW, HT⟩
        case round =>
          obtain ⟨u, v2, m, hk2, rfl, hu, HS2, HW2, HT2⟩ := hrel
          clear HST HW HT hc
          have hml : m.length < 900000 := by
            have := congrArg List.length HT2.out
            have h3 := Ob.vb_pos u
            rw [List.length_append] at this
            omega
          obtain ⟨ao, cap, rfl⟩ := owns_shape HS2.out.own
          have kc := HS2.out.c
          have kf := HS2.out.fz
          have hwl := lt_of_cell kc
          have hown := HS2.out.own
          by_cases hge : u < 128
          · have hge' : (u : Int) < 128 := by omega
            have ew : IntKind.u8.wrap (u : Int) = (u : Int) := by rw [IntKind.wrap_u8']; omega
            have HV : Hid (Ob.vb u = [UInt8.ofNat u]) := by unfold Ob.vb; rw [if_pos hge]; exact rfl
            have hcn : (u : Int) = (((UInt8.ofNat u).toNat : Nat) : Int) := by rw [UInt8.toNat_ofNat']; omega
            have HCN := Lib.hid hcn
            clear hge hcn
            go_wp2_with (at_builtin; refine wpList_elem (size := 1) rfl _ _ 62 rfl Tryz.underlying62 Tryz.infoU8 rfl (by decide) (by decide) rfl hown [.int .u8 (u : Int)] rfl (oneInt _ _) rfl (by omega) (by omega) ?_)
            intro v' w3 hown3 hex3 hb3
            have hc3 := (hb3.cell (p := ⟨wb, 0, none⟩) (by simp)).trans kc
            have hf3 := (hb3.frozen (p := ⟨wb, 0, none⟩) (by simp)).trans kf
            have hown4 : w3.ownsRow (wb + 1) 5 1 v' (m.length + [UInt8.ofNat u].length) (u8s m ++ u8s [UInt8.ofNat u]) := by
              have e : u8s [UInt8.ofNat u] = [.int .u8 (u : Int)] := by show [Value.int .u8 _] = _; rw [HCN.out]
              rw [e]; exact hown3
            obtain ⟨p1, p2⟩ := HS2.out.push hown4 hex3 hb3
            have HP1 := Lib.hid p1
            have HP2 := Lib.hid (HW2.out.trans p2)
            have HPT : Hid (m ++ [UInt8.ofNat u] = T) := by rw [← HT2.out, HV.out]; exact rfl
            obtain ⟨a3, c3, rfl⟩ := owns_shape hown3
            clear hown3 hown4 hex3 hb3 p1 p2 hown HS2 HW2 HT2 HV HCN kc kf
            go_wp2_with fail
            go_roundg (ns.length - (i + 1))
            case measure => omega
            case rel => exact ⟨i + 1, _, by omega, rfl, by go_num, by rw [HTT.out, ← HPT.out]; exact HP1, HP2⟩
          · have hge' : ¬ (u : Int) < 128 := by omega
            obtain ⟨q, hq⟩ : ∃ q, q = u % 256 := ⟨_, rfl⟩
            have ew : IntKind.u8.wrap (u : Int) = (q : Int) := by rw [IntKind.wrap_u8']; omega
            have eo := or128 q (by omega)
            obtain ⟨c, hcc⟩ : ∃ c, c = q % 128 + 128 := ⟨_, rfl⟩
            rw [← hcc] at eo
            have HV : Hid (Ob.vb u = UInt8.ofNat c :: Ob.vb (u / 128)) := by
              show _ = _
              rw [Ob.vb, if_neg hge, hcc, hq, show u % 256 % 128 = u % 128 by omega]
            have hcn : (c : Int) = (((UInt8.ofNat c).toNat : Nat) : Int) := by rw [UInt8.toNat_ofNat']; omega
            have HCN := Lib.hid hcn
            have hud : u / 128 < u := by omega
            clear hge hcn hcc hq
            go_wp2_with (at_builtin; refine wpList_elem (size := 1) rfl _ _ 62 rfl Tryz.underlying62 Tryz.infoU8 rfl (by decide) (by decide) rfl hown [.int .u8 (c : Int)] rfl (oneInt _ _) rfl (by omega) (by omega) ?_)
            intro v' w3 hown3 hex3 hb3
            have hc3 := (hb3.cell (p := ⟨wb, 0, none⟩) (by simp)).trans kc
            have hf3 := (hb3.frozen (p := ⟨wb, 0, none⟩) (by simp)).trans kf
            have hown4 : w3.ownsRow (wb + 1) 5 1 v' (m.length + [UInt8.ofNat c].length) (u8s m ++ u8s [UInt8.ofNat c]) := by
              have e : u8s [UInt8.ofNat c] = [.int .u8 (c : Int)] := by show [Value.int .u8 _] = _; rw [HCN.out]
              rw [e]; exact hown3
            obtain ⟨p1, p2⟩ := HS2.out.push hown4 hex3 hb3
            have HP1 := Lib.hid p1
            have HP2 := Lib.hid (HW2.out.trans p2)
            have HPT : Hid (m ++ [UInt8.ofNat c] ++ Ob.vb (u / 128) = T) := by rw [← HT2.out, HV.out]; show _ = _; simp
            obtain ⟨a3, c3, rfl⟩ := owns_shape hown3
            clear hown3 hown4 hex3 hb3 p1 p2 hown HS2 HW2 HT2 HV HCN kc kf
            go_wp2_with fail
            go_roundg (u / 128)
            case measure => omega
            case rel => exact ⟨u / 128, _, _, rfl, by go_num, by omega, HP1, HP2, HPT⟩
    · have hlt' : ¬ (i : Int) < (ns.length : Int) := by omega
      have hei : i = ns.length := by omega
      have HF : Hid (Wst wr wb v1 (l ++ (ns.map Ob.num).flatten)) := by rw [hei, List.take_length] at HST; exact HST
      clear HST hei
      go_wp2_with fail
      exact bodyPost_end (results_none rfl _ _ _) rfl ⟨rfl, v1, HF.out, HW.out⟩
end Go.Proofs.YtijhpokclpdjpaaGreatDoor
/- Writing: how many, a text, names, a flag. -/
namespace Go.Proofs.YtijhpokclpdjpaaGreatDoor
open Go.RowKit
open Ob (Bs)

theorem Wst.notNew {w : World} {wb : Nat} {v : Value} {l : Bs} (h : Wst w wb v l) : v.ownBlock ≠ some w.heap.size := fun e => by have := owns_lt h.own _ e; omega
theorem Wst.le {w : World} {wb : Nat} {v : Value} {l : Bs} (h : Wst w wb v l) : wb + 1 ≤ w.heap.size := lt_of_cell h.c
/- numbers of which the row is new -/
theorem numbers_new {w : World} {wb : Nat} {v : Value} {l : Bs} (h : Wst w wb v l) (ns : List Int) (hns : ∀ n ∈ ns, Ob.I64 n) (hl : l.length + 10 * ns.length ≤ 900000) :
    Calls Tryz.prog 47 #[.pointer (some ⟨wb, 0, none⟩), .slice (some ⟨w.heap.size, 0, none⟩) ns.length ns.length] (w.alloc (.cells (ns.map fun n => Value.int .i64 n).toArray 2)) (Wrote wb w v (l ++ (ns.map Ob.num).flatten)) := by
  have hb : Below w.heap.size w (w.alloc (.cells (ns.map fun n => Value.int .i64 n).toArray 2)) := (Below.refl _ _).alloc (Nat.le_refl _) _
  refine (numbers_any (h.below hb) ns hns (new_blk _ _) (by have := h.le; omega) h.notNew hl).mono ?_
  rintro e w' ⟨rfl, v', h1, h2⟩
  exact ⟨rfl, v', h1, (Wr.of hb).trans h2⟩
theorem number1 {w : World} {wb : Nat} {v : Value} {l : Bs} (h : Wst w wb v l) (n : Int) (hn : Ob.I64 n) (hl : l.length + 10 ≤ 900000) :
    Calls Tryz.prog 47 #[.pointer (some ⟨wb, 0, none⟩), .slice (some ⟨w.heap.size, 0, none⟩) 1 1] (w.alloc (.cells #[.int .i64 n] 2)) (Wrote wb w v (l ++ Ob.num n)) := by
  have := numbers_new h [n] (by simpa using hn) (by simpa using hl)
  simpa using this
theorem number2 {w : World} {wb : Nat} {v : Value} {l : Bs} (h : Wst w wb v l) (n m : Int) (hn : Ob.I64 n) (hm : Ob.I64 m) (hl : l.length + 20 ≤ 900000) :
    Calls Tryz.prog 47 #[.pointer (some ⟨wb, 0, none⟩), .slice (some ⟨w.heap.size, 0, none⟩) 2 2] (w.alloc (.cells #[.int .i64 n, .int .i64 m] 2)) (Wrote wb w v (l ++ (Ob.num n ++ Ob.num m))) := by
  have := numbers_new h [n, m] (by simp [hn, hm]) (by simpa using hl)
  simpa using this
theorem number3 {w : World} {wb : Nat} {v : Value} {l : Bs} (h : Wst w wb v l) (n m k : Int) (hn : Ob.I64 n) (hm : Ob.I64 m) (hk : Ob.I64 k) (hl : l.length + 30 ≤ 900000) :
    Calls Tryz.prog 47 #[.pointer (some ⟨wb, 0, none⟩), .slice (some ⟨w.heap.size, 0, none⟩) 3 3] (w.alloc (.cells #[.int .i64 n, .int .i64 m, .int .i64 k] 2)) (Wrote wb w v (l ++ (Ob.num n ++ Ob.num m ++ Ob.num k))) := by
  have := numbers_new h [n, m, k] (by simp [hn, hm, hk]) (by simpa using hl)
  simpa using this
set_option maxRecDepth 100000 in
set_option maxHeartbeats 400000 in
theorem many_w {w : World} {wb : Nat} {v : Value} {l : Bs} (h : Wst w wb v l) (n : Int) (hn : Ob.I64 n) (hl : l.length + 10 ≤ 900000) :
    Calls Tryz.prog 46 #[.pointer (some ⟨wb, 0, none⟩), .int .i64 n] w (Wrote wb w v (l ++ Ob.num n)) := by
  have HC := Lib.hid (number1 h n hn hl)
  clear h
  go_enter Tryz.func46, Tryz.ntmps46
  go_wp2_with fail
  refine HC.out.mono ?_
  rintro e w1 ⟨rfl, v1, h1, h2⟩
  go_wp2_with fail
  exact bodyPost_end (results_none rfl _ _ _) rfl ⟨rfl, v1, h1, h2⟩
theorem wpList_str {ops : Array Oper} {rest : List Oper} {o : Oper} {a : Act} {Q : Exit → Act → World → Prop} (hgd : o.guard = none) (sl x : Operand)
    (ho : o.op = .call { callee := .builtin .append, args := #[sl, x], argTypes := #[62, 9] })
    {w : World} {wb : Nat} {v : Value} {l : Bs} (hb : Wst w wb v l) (s : Bs) (hs : a.eval sl = v) (hx : a.eval x = .string (bs s)) (hl : l.length + s.length ≤ 900000)
    (h : ∀ v' w', w'.ownsRow (wb + 1) 5 1 v' (l.length + s.length) (u8s l ++ u8s s) → Exact v v' w w' → Below (wb + 1) w w' → wpList Tryz.prog ops Q rest (a.put o.dst v') w') : wpList Tryz.prog ops Q (o :: rest) a w := by
  obtain ⟨i0, hi0, hz0, hz1, hz2⟩ := info_parts Tryz.infoU8
  refine wpList_append_where_string w hgd sl x 62 9 ho (wb + 1) 5 i0 Tryz.underlying62 Tryz.underlying9 hi0 hz0 hz1 hz2 v l.length (u8s l) hs hb.own (bs s) hx (by rw [bs_size]; unfold maxLen; omega) (by rw [bs_size]; omega) hb.le ?_
  intro v' w' h1 h2 h4
  refine h v' w' ?_ h4 ((Below.refl _ _).grown h2 hb.le (owns_row hb.own))
  rw [bs_size] at h1
  exact h1
set_option maxRecDepth 100000 in
set_option maxHeartbeats 400000 in
theorem text_w {w : World} {wb : Nat} {v : Value} {l : Bs} (h : Wst w wb v l) (s : Bs) (hl : l.length + 10 + s.length ≤ 900000) :
    Calls Tryz.prog 45 #[.pointer (some ⟨wb, 0, none⟩), .string (bs s)] w (Wrote wb w v (l ++ Ob.txt s)) := by
  have hs := bs_size s
  have HNL := Lib.hid (num_len (n := (s.length : Int)) (by unfold Ob.I64; omega))
  have HC := Lib.hid (many_w h (s.length : Int) (by unfold Ob.I64; omega) (by omega))
  have HTX : Hid (l ++ Ob.txt s = l ++ Ob.num (s.length : Int) ++ s) := by show _ = _; simp [Ob.txt]
  rw [HTX.out]
  clear h HTX
  go_enter Tryz.func45, Tryz.ntmps45
  go_wp2_with fail
  refine HC.out.mono ?_
  rintro e w1 ⟨rfl, v1, h1, h2⟩
  obtain ⟨ao, cap, rfl⟩ := owns_shape h1.own
  have kc := h1.c
  have kf := h1.fz
  have HL : Hid ((l ++ Ob.num (s.length : Int)).length + s.length ≤ 900000) := by have := HNL.out; show _ ≤ _; simp only [List.length_append]; omega
  generalize l ++ Ob.num (s.length : Int) = m at *
  go_wp2_with (at_builtin; refine wpList_str rfl _ _ rfl h1 s rfl rfl HL.out ?_)
  intro v' w3 hown3 hex3 hb3
  have hc3 := (hb3.cell (p := ⟨wb, 0, none⟩) (by simp)).trans kc
  have hf3 := (hb3.frozen (p := ⟨wb, 0, none⟩) (by simp)).trans kf
  obtain ⟨p1, p2⟩ := h1.push hown3 hex3 hb3
  have HP1 := Lib.hid p1
  have HP2 := Lib.hid (h2.trans p2)
  obtain ⟨a3, c3, rfl⟩ := owns_shape hown3
  clear hown3 hex3 hb3 p1 p2 h1 h2 kc kf HC
  go_wp2_with fail
  exact bodyPost_end (results_none rfl _ _ _) rfl ⟨rfl, _, HP1.out, HP2.out⟩
set_option maxRecDepth 100000 in
set_option maxHeartbeats 400000 in
theorem flag_w {w : World} {wb : Nat} {v : Value} {l : Bs} (h : Wst w wb v l) (b : Bool) (hl : l.length + 1 ≤ 900000) :
    Calls Tryz.prog 49 #[.pointer (some ⟨wb, 0, none⟩), .bool b] w (Wrote wb w v (l ++ [if b then 1 else 0])) := by
  obtain ⟨ao, cap, rfl⟩ := owns_shape h.own
  have kc := h.c
  have kf := h.fz
  have hwl := lt_of_cell kc
  have hown := h.own
  cases b
  · go_enter Tryz.func49, Tryz.ntmps49
    go_wp2_with (at_builtin; refine wpList_elem (size := 1) rfl _ _ 62 rfl Tryz.underlying62 Tryz.infoU8 rfl (by decide) (by decide) rfl hown [.int .u8 0] rfl (oneInt _ _) rfl (by omega) (by omega) ?_)
    intro v' w3 hown3 hex3 hb3
    have hc3 := (hb3.cell (p := ⟨wb, 0, none⟩) (by simp)).trans kc
    have hf3 := (hb3.frozen (p := ⟨wb, 0, none⟩) (by simp)).trans kf
    obtain ⟨p1, p2⟩ := h.push (s := [0]) hown3 hex3 hb3
    have HP1 := Lib.hid p1
    have HP2 := Lib.hid p2
    obtain ⟨a3, c3, rfl⟩ := owns_shape hown3
    clear hown3 hex3 hb3 p1 p2 kc kf h hown
    go_wp2_with fail
    exact bodyPost_end (results_none rfl _ _ _) rfl ⟨rfl, _, HP1.out, HP2.out⟩
  · go_enter Tryz.func49, Tryz.ntmps49
    go_wp2_with (at_builtin; refine wpList_elem (size := 1) rfl _ _ 62 rfl Tryz.underlying62 Tryz.infoU8 rfl (by decide) (by decide) rfl hown [.int .u8 1] rfl (oneInt _ _) rfl (by omega) (by omega) ?_)
    intro v' w3 hown3 hex3 hb3
    have hc3 := (hb3.cell (p := ⟨wb, 0, none⟩) (by simp)).trans kc
    have hf3 := (hb3.frozen (p := ⟨wb, 0, none⟩) (by simp)).trans kf
    obtain ⟨p1, p2⟩ := h.push (s := [1]) hown3 hex3 hb3
    have HP1 := Lib.hid p1
    have HP2 := Lib.hid p2
    obtain ⟨a3, c3, rfl⟩ := owns_shape hown3
    clear hown3 hex3 hb3 p1 p2 kc kf h hown
    go_wp2_with fail
    exact bodyPost_end (results_none rfl _ _ _) rfl ⟨rfl, _, HP1.out, HP2.out⟩
end Go.Proofs.YtijhpokclpdjpaaGreatDoor
