/- Reading an object: the walk. -/
import Derived.Test.YtljnddcddclmeaaJ10
import Derived.Deep.RegionLawGrows
namespace Go.Proofs.Ytljnddcddclmeaa
open Go.RowKit
open Ob (Bs)

/- append within a region that draws: where the new slice lies -/
theorem step_append_where {P : Program} {ops : Array Oper} {o : Oper} {a : Act} {w : World} {K : Act → World → Prop} {Q : Exit → Act → World → Prop} {E : Prop}
    (hg : o.guard = none) (s x : Operand) (t : TypeId) (hop : o.op = Op.call { callee := Callee.builtin Builtin.append, args := #[s, x], argTypes := #[t, t] })
    (base : Nat) (e : TypeId) (i : TypeInfo) (z : Value) (size bytes : Nat) (ht : P.underlying t = some (.slice e)) (hi : P.info? e = some i) (hz : i.zero = some z)
    (hsize : i.size = size) (hby : i.bytes = bytes) (hzs : z.cells.size = size) (hsz : 0 < size)
    (v : Value) (n : Nat) (xs : List Value) (hs : a.eval s = v) (hown : w.ownsRow base e size v n xs)
    (ad : Addr) (m c : Nat) (news : List Value) (hx : a.eval x = .slice (some ad) m c) (hl : news.length = m * size) (hnews : ∀ j u, news[j]? = some u → w.cell? (ad.add j) = some u) (h1 : ∀ u ∈ news, u.oneCell' = true)
    (h63 : n + m ≤ maxLen) (hbytes : (n + m) * bytes ≤ 140737488355328) (hbase : base ≤ w.heap.size)
    (hK : ∀ v' w', w'.ownsRow base e size v' (n + m) (xs ++ news) → w.grownBy w' v.ownBlock → (∀ g, v'.ownBlock = some g → v.ownBlock = some g ∨ w.heap.size ≤ g) → K (a.put o.dst v') w') :
    if Region.wanted o (yielded ops a.tmps) = true then Oper.wp P o a w K Q else E := by
  have hw : Region.wanted o (yielded ops a.tmps) = true := by simp [Region.wanted, hg]
  rw [if_pos hw]
  obtain ⟨v', w', r1, r2, r3, r4⟩ := run_append_where (P := P) w base t o.type e i z size bytes ht hi hz hsize hby hzs hsz v n xs hown ad m c news hl hnews h1 h63 hbytes hbase
  unfold Oper.wp
  simp [execOp, hop, resolve, invoke, builtin, hs, hx, r1, Result.andThen]
  exact hK v' w' r2 r3 r4

theorem step_wanted {P : Program} {ops : Array Oper} {o : Oper} {a : Act} {w : World} {K : Act → World → Prop} {Q : Exit → Act → World → Prop} {E : Prop} (hg : o.guard = none) (h : Oper.wp P o a w K Q) : if Region.wanted o (yielded ops a.tmps) = true then Oper.wp P o a w K Q else E := by
  rw [if_pos (by simp [Region.wanted, hg])]; exact h
theorem cell_alloc {w : World} {a : Addr} {v : Value} (h : w.cell? a = some v) (ob : Obj) : (w.alloc ob).cell? a = some v := (World.cell?_alloc_lt _ _ _ (World.block_lt_of_cell? _ _ h)).trans h
theorem below_drew (w : World) : Below w.heap.size w w.drew := (Below.refl _ _).drew
theorem news3 (w : World) (e : Nat) (v0 v1 v2 : Value) : ∀ j u, [v0, v1, v2][j]? = some u → (w.alloc (.cells #[v0, v1, v2] e)).cell? ((⟨w.heap.size, 0, none⟩ : Addr).add j) = some u := by
  intro j u hj
  match j, hj with
  | 0, hj => simp at hj; subst hj; simp [Addr.add]
  | 1, hj => simp at hj; subst hj; simp [Addr.add]
  | 2, hj => simp at hj; subst hj; simp [Addr.add]
theorem rep_len {α : Type} {one : Ob.Rd α} : ∀ {n : Nat} {l r : Bs} {xs : List α}, Ob.repR one n l = some (xs, r) → xs.length = n := by
  intro n
  induction n with
  | zero => intro l r xs h; simp [Ob.repR] at h; rw [h.1]; rfl
  | succ n ih =>
    intro l r xs h
    simp only [Ob.repR] at h
    rcases h1 : one l with _ | ⟨x, r1⟩
    · rw [h1] at h; simp at h
    · rw [h1] at h
      simp only [Option.bind_some] at h
      rcases h2 : Ob.repR one n r1 with _ | ⟨ys, r2⟩
      · rw [h2] at h; simp at h
      · rw [h2] at h
        simp at h
        rw [← h.1]
        simp [ih h2]
theorem list_le {α : Type} {one : Ob.Rd α} {most : Nat} {l r : Bs} {xs : List α} (h : Ob.listR most one l = some (xs, r)) : xs.length ≤ most := by
  unfold Ob.listR at h
  rcases h1 : Ob.manyR most l with _ | ⟨n, r1⟩
  · rw [h1] at h; simp at h
  · rw [h1] at h
    simp only [Option.bind_some] at h
    rw [rep_len h]
    exact many_le h1
theorem entry_bad {w : World} {rb : Nat} {l : Bs} (h : Rst w rb l) (hr : Hid (Ob.enR l = none)) :
    Calls Try.prog 70 #[.pointer (some ⟨rb, 0, none⟩)] w fun e w' => e = thrown ∧ Ext rb w w' := by
  refine (entry_any h).mono ?_
  intro e w' hq
  rw [hr.out] at hq
  exact hq
theorem entry_ok {w : World} {rb : Nat} {l r : Bs} {x : Ob.En} (h : Rst w rb l) (hr : Hid (Ob.enR l = some (x, r))) :
    Calls Try.prog 70 #[.pointer (some ⟨rb, 0, none⟩)] w fun e w' => e = .returned (.agg #[.int .i64 x.at', .int .i64 x.args, .int .i64 x.locals]) ∧ Rst w' rb r ∧ Ext rb w w' := by
  refine (entry_any h).mono ?_
  intro e w' hq
  rw [hr.out] at hq
  obtain ⟨v, rfl, hv, h1, h2⟩ := hq
  exact ⟨by rw [show v = _ from hv], h1, h2⟩
theorem ownsRow_alloc {w : World} {base e size n : Nat} {v : Value} {xs : List Value} (h : w.ownsRow base e size v n xs) (ob : Obj) : (w.alloc ob).ownsRow base e size v n xs := owns_below h ((Below.refl _ _).alloc (Nat.le_refl _) _)
/- an object in memory, read so -/
def VOb (B : Nat) (o : Ob.O) (v : Value) (w : World) : Prop := ∃ (ob C : Nat) (sv uv vv pv nv cv : Value), v = .pointer (some ⟨ob, 0, none⟩) ∧ B ≤ ob ∧ ob < C ∧ w.heap[ob]? = some (.cells #[.string (bs o.name), sv, uv, vv, pv, nv, cv] 42 (0, 0)) ∧
  Parts w (fun b => B ≤ b ∧ b ≠ ob ∧ b < C) o.syms o.uses o.vars o.names sv uv vv nv ∧ Row w (fun b => C ≤ b) 35 3 pv o.procs.length (cellsOf enC o.procs) ∧ Row w (fun b => C ≤ b) 45 3 cv o.code.length (cellsOf inC o.code)
theorem OS.done {w0 w w' : World} {rb ob C : Nat} {r r' nm : Bs} {ss : List Ob.Sm} {us : List Ob.Us} {vs : List Ob.Gl} {ns : List Bs} {ps : List Ob.En} {cs : List Ob.In} {sv uv vv pv nv cv : Value} (h : OS w0 w rb ob C r nm ss us vs ns ps sv uv vv pv nv) (hx : Ext rb w w') (hr : Rst w' rb r') (ho : w'.ownsRow w.heap.size 45 3 cv cs.length (cellsOf inC cs)) :
    VOb w0.heap.size ⟨nm, ss, us, vs, ps, ns, cs⟩ (.pointer (some ⟨ob, 0, none⟩)) (w'.setCell ⟨ob, 6, none⟩ cv) ∧ Rst (w'.setCell ⟨ob, 6, none⟩ cv) rb r' ∧ Ext rb w0 (w'.setCell ⟨ob, 6, none⟩ cv) := by
  have h1 := h.read hx hr
  have hne : ob ≠ rb := by have := h.rbl; have := h.obl; omega
  have hC := h.obC
  have hCC := h.CC
  refine ⟨⟨ob, C, sv, uv, vv, pv, nv, cv, rfl, h.obl, hC, set_blk 6 cv h1.blk, h1.pt.mono (fun b hb hl => ⟨Below.heap_setCell _ _ _ _ (by simpa using hb.2.1), hb⟩), (Row.of_owns h1.po).mono (fun b hb hl => ⟨Below.heap_setCell _ _ _ _ (by simp; omega), hb.1⟩), (Row.of_owns ho).mono (fun b hb hl => ⟨Below.heap_setCell _ _ _ _ (by simp; omega), by omega⟩)⟩, hr.other ((Ext.refl ob w').set 6 cv) (Ne.symm hne), h1.ext.new ((Ext.refl ob w').set 6 cv) h.obl⟩
set_option maxRecDepth 100000 in
set_option maxHeartbeats 4000000 in
theorem object_any {w : World} {rb : Nat} {l : Bs} (h : Rst w rb l) :
    Calls Try.prog 41 #[.pointer (some ⟨rb, 0, none⟩)] w fun e w' => Rp rb w (VOb w.heap.size) (Ob.obR l) e w' := by
  have hmf : ∀ (fn : Fn) (first cap : Array Value) (w : World), (Instr.makeFunc fn first cap).run Try.prog w = .ok (.func fn first cap) w := fun _ _ _ _ => rfl
  obtain ⟨i3, hi3, hz30, hz31, hz32⟩ := info_parts Try.infoEntry
  have hrl := lt_of_cell h.c
  have HR : Hid (Ob.obR l = (Ob.txtR l).bind fun n => (Ob.listR 20 Ob.symR n.2).bind fun s => (Ob.listR 6 Ob.useR s.2).bind fun u => (Ob.listR 10 Ob.glR u.2).bind fun v => (Ob.listR 10 Ob.txtR v.2).bind fun m => (Ob.repR Ob.enR m.1.length m.2).bind fun p => (Ob.listR 4000 Ob.inR p.2).map fun c => (⟨n.1, s.1, u.1, v.1, p.1, m.1, c.1⟩, c.2)) := rfl
  have HC := Lib.hid (text_any h)
  generalize Ob.obR l = resT at *
  generalize Ob.txtR l = res at *
  clear h
  go_enter Try.func41, Try.ntmps41
  go_wp2_with fail
  refine HC.out.mono ?_
  intro e w1 hq
  rcases res with _ | ⟨nm, r1⟩
  · obtain ⟨rfl, hx⟩ := hq
    unfold thrown
    go_wp2_with fail
    rw [HR.out]
    exact ⟨rfl, rfl, hx⟩
  · obtain ⟨v, rfl, rfl, hst, hx⟩ := hq
    have HR1 : Hid (resT = (Ob.listR 20 Ob.symR r1).bind fun s => (Ob.listR 6 Ob.useR s.2).bind fun u => (Ob.listR 10 Ob.glR u.2).bind fun v => (Ob.listR 10 Ob.txtR v.2).bind fun m => (Ob.repR Ob.enR m.1.length m.2).bind fun p => (Ob.listR 4000 Ob.inR p.2).map fun c => (⟨nm, s.1, u.1, v.1, p.1, m.1, c.1⟩, c.2)) := HR
    have hos := OS.start (nm := nm) hrl hst hx
    have hal : w1.alloc (.cells #[.string (bs nm), nl, nl, nl, nl, nl, nl] 42) = w1.alloc (.cells #[.string (bs nm), .slice none 0 0, .slice none 0 0, .slice none 0 0, .slice none 0 0, .slice none 0 0, .slice none 0 0] 42) := rfl
    rw [hal] at hos
    have hwo : w.heap.size ≤ w1.heap.size := hx.size
    clear HR HC hst hx hal
    obtain ⟨ob, hob⟩ : ∃ ob, ob = w1.heap.size := ⟨_, rfl⟩
    go_wp2_with fail
    rw [← hob] at hos ⊢
    generalize w1.alloc (.cells #[.string (bs nm), .slice none 0 0, .slice none 0 0, .slice none 0 0, .slice none 0 0, .slice none 0 0, .slice none 0 0] 42) = w2 at *
    have hwob : w.heap.size ≤ ob := by omega
    clear hob hwo
    have HOS0 := Lib.hid hos
    have HC0 := Lib.hid (listSym_any hos.rst 20 (by omega))
    clear hos
    generalize Ob.listR 20 Ob.symR r1 = res at *
    refine HC0.out.mono ?_
    intro e w3 hq
    rcases res with _ | ⟨ss, r2⟩
    · obtain ⟨rfl, hx⟩ := hq
      unfold thrown
      go_wp2_with fail
      rw [HR1.out]
      exact ⟨rfl, rfl, HOS0.out.ext.trans hx⟩
    · obtain ⟨sv, rfl, hv, hst, hx⟩ := hq
      obtain ⟨sva, svc, rfl⟩ := owns_shape hv
      have hos := HOS0.out.setS hx hst hv
      have hosR := HOS0.out.read hx hst
      have kc : w3.cell? ⟨ob, 1, none⟩ = some (.slice none 0 0) := cell_blk hosR.blk
      have kf : w3.frozen? ⟨ob, 1, none⟩ = false := frozen_blk hosR.blk
      have HR2 : Hid (resT = (Ob.listR 6 Ob.useR r2).bind fun u => (Ob.listR 10 Ob.glR u.2).bind fun v => (Ob.listR 10 Ob.txtR v.2).bind fun m => (Ob.repR Ob.enR m.1.length m.2).bind fun p => (Ob.listR 4000 Ob.inR p.2).map fun c => (⟨nm, ss, u.1, v.1, p.1, m.1, c.1⟩, c.2)) := HR1
      clear HOS0 HC0 HR1 hv hst hx hosR
      go_wp2_with fail
      generalize w3.setCell ⟨ob, 1, none⟩ (.slice sva ss.length svc) = w4 at *
      clear kc kf
      have HOS1 := Lib.hid hos
      have HC1 := Lib.hid (listUse_any hos.rst 6 (by omega))
      clear hos
      generalize Ob.listR 6 Ob.useR r2 = res at *
      refine HC1.out.mono ?_
      intro e w5 hq
      rcases res with _ | ⟨us, r3⟩
      · obtain ⟨rfl, hx⟩ := hq
        unfold thrown
        go_wp2_with fail
        rw [HR2.out]
        exact ⟨rfl, rfl, HOS1.out.ext.trans hx⟩
      · obtain ⟨uv, rfl, hv, hst, hx⟩ := hq
        obtain ⟨uva, uvc, rfl⟩ := (let ⟨_, _, h2⟩ := hv; owns_shape h2)
        have hos := HOS1.out.setU hx hst hv
        have hosR := HOS1.out.read hx hst
        have kc : w5.cell? ⟨ob, 2, none⟩ = some (.slice none 0 0) := cell_blk hosR.blk
        have kf : w5.frozen? ⟨ob, 2, none⟩ = false := frozen_blk hosR.blk
        have HR3 : Hid (resT = (Ob.listR 10 Ob.glR r3).bind fun v => (Ob.listR 10 Ob.txtR v.2).bind fun m => (Ob.repR Ob.enR m.1.length m.2).bind fun p => (Ob.listR 4000 Ob.inR p.2).map fun c => (⟨nm, ss, us, v.1, p.1, m.1, c.1⟩, c.2)) := HR2
        clear HOS1 HC1 HR2 hv hst hx hosR
        go_wp2_with fail
        generalize w5.setCell ⟨ob, 2, none⟩ (.slice uva us.length uvc) = w6 at *
        clear kc kf
        have HOS2 := Lib.hid hos
        have HC2 := Lib.hid (listGlobal_any hos.rst 10 (by omega))
        clear hos
        generalize Ob.listR 10 Ob.glR r3 = res at *
        refine HC2.out.mono ?_
        intro e w7 hq
        rcases res with _ | ⟨vs, r4⟩
        · obtain ⟨rfl, hx⟩ := hq
          unfold thrown
          go_wp2_with fail
          rw [HR3.out]
          exact ⟨rfl, rfl, HOS2.out.ext.trans hx⟩
        · obtain ⟨vv, rfl, hv, hst, hx⟩ := hq
          obtain ⟨vva, vvc, rfl⟩ := owns_shape hv
          have hos := HOS2.out.setV hx hst hv
          have hosR := HOS2.out.read hx hst
          have kc : w7.cell? ⟨ob, 3, none⟩ = some (.slice none 0 0) := cell_blk hosR.blk
          have kf : w7.frozen? ⟨ob, 3, none⟩ = false := frozen_blk hosR.blk
          have HR4 : Hid (resT = (Ob.listR 10 Ob.txtR r4).bind fun m => (Ob.repR Ob.enR m.1.length m.2).bind fun p => (Ob.listR 4000 Ob.inR p.2).map fun c => (⟨nm, ss, us, vs, p.1, m.1, c.1⟩, c.2)) := HR3
          clear HOS2 HC2 HR3 hv hst hx hosR
          go_wp2_with fail
          generalize w7.setCell ⟨ob, 3, none⟩ (.slice vva vs.length vvc) = w8 at *
          clear kc kf
          have HOS3 := Lib.hid hos
          have HC3 := Lib.hid (listStr_any hos.rst 10 (by omega))
          have HBN : Hid (∀ xs r, Ob.listR 10 Ob.txtR r4 = some (xs, r) → xs.length ≤ 10) := fun xs r he => list_le he
          clear hos
          generalize Ob.listR 10 Ob.txtR r4 = res at *
          refine HC3.out.mono ?_
          intro e w9 hq
          rcases res with _ | ⟨ns, r5⟩
          · obtain ⟨rfl, hx⟩ := hq
            unfold thrown
            go_wp2_with fail
            rw [HR4.out]
            exact ⟨rfl, rfl, HOS3.out.ext.trans hx⟩
          · obtain ⟨nv, rfl, hv, hst, hx⟩ := hq
            obtain ⟨nva, nvc, rfl⟩ := owns_shape hv
            have hos := HOS3.out.setN hx hst hv
            have hosR := HOS3.out.read hx hst
            have kc : w9.cell? ⟨ob, 5, none⟩ = some (.slice none 0 0) := cell_blk hosR.blk
            have kf : w9.frozen? ⟨ob, 5, none⟩ = false := frozen_blk hosR.blk
            have hns := HBN.out ns r5 rfl
            clear HBN
            have HR5 : Hid (resT = (Ob.repR Ob.enR ns.length r5).bind fun p => (Ob.listR 4000 Ob.inR p.2).map fun c => (⟨nm, ss, us, vs, p.1, ns, c.1⟩, c.2)) := HR4
            clear HOS3 HC3 HR4 hv hst hx hosR
            go_wp2_with fail
            generalize w9.setCell ⟨ob, 5, none⟩ (.slice nva ns.length nvc) = w10 at *
            clear kc kf
            have HP : Hid (∃ resP, Ob.repR Ob.enR ns.length r5 = resP) := ⟨_, rfl⟩
            obtain ⟨resP, hresP⟩ := HP.out
            have HR6 : Hid (resT = resP.bind fun p => (Ob.listR 4000 Ob.inR p.2).map fun c => (⟨nm, ss, us, vs, p.1, ns, c.1⟩, c.2)) := by rw [← hresP]; exact HR5
            have HRP := Lib.hid hresP
            have HOS := Lib.hid hos
            obtain ⟨C, hC⟩ : ∃ C, C = w9.heap.size := ⟨_, rfl⟩
            rw [← hC] at HOS
            clear HP hresP HR5 hos hC
            go_loopg [41] ns.length (fun k vi wr => ∃ (i : Nat) (ps : List Ob.En) (pv : Value) (r' : Bs), i ≤ ns.length ∧ k = ns.length - i ∧ ps.length = i ∧ vi = .int .i64 (i : Int) ∧ Hid (OS w wr rb ob C r' nm ss us vs ns ps (.slice sva ss.length svc) (.slice uva us.length uvc) (.slice vva vs.length vvc) pv (.slice nva ns.length nvc)) ∧ Hid (app ps (Ob.repR Ob.enR (ns.length - i) r') = resP))
            case atStart => exact ⟨0, [], nl, r5, by omega, by omega, rfl, rfl, HOS, by rw [app_nil]; exact HRP⟩
            case round =>
              obtain ⟨i, ps, pv, r', hid, hk, hpl, rfl, HS, HA⟩ := hrel
              clear HOS HRP
              subst hpl
              obtain ⟨pa, pc, rfl⟩ := owns_shape HS.out.po
              by_cases hlt : ps.length < ns.length
              · have hlt' : (ps.length : Int) < (ns.length : Int) := by omega
                have HA1 : Hid (app ps (Ob.repR Ob.enR ((ns.length - (ps.length + 1)) + 1) r') = resP) := by rw [show ns.length - (ps.length + 1) + 1 = ns.length - ps.length by omega]; exact HA
                have hstd := HS.out.rst.ext (below_drew wr)
                have k4 : wr.cell? ⟨ob, 4, none⟩ = some (.slice pa ps.length pc) := cell_blk HS.out.blk
                have hol := lt_blk HS.out.blk
                rcases hres : Ob.enR r' with _ | ⟨x, r2'⟩
                · have HX := Lib.hid hres
                  have HF : Hid (∀ e w', e = thrown ∧ Ext rb wr.drew w' → Rp rb w (VOb w.heap.size) resT e w') := by
                    intro e w' hq
                    rw [HR6.out, ← HA1.out, app_bad HX.out]
                    exact ⟨hq.1, (HS.out.ext.trans (Ext.below (below_drew wr))).trans hq.2⟩
                  clear hres HA HA1 HS HR6
                  go_wp2_with fail
                  go_region_dies
                  all_goals (refine (entry_bad hstd HX).mono ?_; intro e w9 hq; have h0 := hq.1; unfold thrown at h0; subst h0; exact ⟨rfl, HF.out _ _ hq⟩)
                · have HX := Lib.hid hres
                  have HA2 : Hid (app (ps ++ [x]) (Ob.repR Ob.enR (ns.length - (ps.length + 1)) r2') = resP) := by rw [← HA1.out]; exact (app_next HX.out).symm
                  have z4 : wr.frozen? ⟨ob, 4, none⟩ = false := frozen_blk HS.out.blk
                  have HSD : Hid (OS w wr.drew rb ob C r' nm ss us vs ns ps (.slice sva ss.length svc) (.slice uva us.length uvc) (.slice vva vs.length vvc) (.slice pa ps.length pc) (.slice nva ns.length nvc)) := HS.out.read (Ext.below (below_drew wr)) hstd
                  clear hres HA HA1 HS
                  go_wp2_with fail
                  go_region_law (first | (refine step_wanted rfl ?_; go_simp; go_at_call 70; refine (entry_ok hstd HX).mono ?_; rintro e w9 ⟨rfl, hst9, hx9⟩; have hos9 := HSD.out.read hx9 hst9; have k9 : w9.cell? ⟨ob, 4, none⟩ = some (.slice pa ps.length pc) := cell_blk hos9.blk; have z9 : w9.frozen? ⟨ob, 4, none⟩ = false := frozen_blk hos9.blk; have hl9 : ob < w9.heap.size := lt_blk hos9.blk; have k9a : ∀ ob', (w9.alloc ob').cell? ⟨ob, 4, none⟩ = some (.slice pa ps.length pc) := fun ob' => cell_alloc k9 ob') | (refine step_append_where rfl (.tmp 47) (.tmp 50) 33 rfl C 35 i3 (.agg #[.int .i64 0, .int .i64 0, .int .i64 0]) 3 24 Try.underlying33 hi3 hz30 hz31 hz32 rfl (by decide) (.slice pa ps.length pc) ps.length (cellsOf enC ps) (by simp [Act.eval]) (ownsRow_alloc hos9.po _) ⟨w9.heap.size, 0, none⟩ 1 1 [.int .i64 x.at', .int .i64 x.args, .int .i64 x.locals] (by simp [Act.eval]) rfl (news3 w9 _ _ _ _) (by intro u hu; simp at hu; rcases hu with rfl | rfl | rfl <;> rfl) (by unfold maxLen; omega) (by omega) (by have := hos9.CC; simp; omega) ?_; intro v' w10 hown10 hgrow10 hwhere10; have hb10 : Below C w9 w10 := ((Below.refl _ _).alloc hos9.CC _).trans ((Below.refl _ _).grown hgrow10 (by have := hos9.CC; simp; omega) (owns_row hos9.po)); have b10 := (hb10.block ob hos9.obC).trans hos9.blk; have k10 : w10.cell? ⟨ob, 4, none⟩ = some (.slice pa ps.length pc) := cell_blk b10; have z10 : w10.frozen? ⟨ob, 4, none⟩ = false := frozen_blk b10; obtain ⟨va, vc, hvv⟩ := owns_shape hown10; subst hvv))
                  all_goals
                    have HOS10 := Lib.hid (hos9.snoc hb10 hown10)
                    clear hgrow10 hwhere10 hown10 hos9 hst9 hstd HSD b10 k10 z10 k9 z9 k4 z4 hb10 k9a hx9
                    go_wp2_with fail
                    go_roundg (ns.length - (ps.length + 1))
                    case measure => omega
                    case rel => exact ⟨ps.length + 1, ps ++ [x], _, r2', by omega, rfl, by simp, by go_num, HOS10, HA2⟩
              · have hlt' : ¬ (ps.length : Int) < (ns.length : Int) := by omega
                have hei : ps.length = ns.length := by omega
                have HA1 : Hid (resP = some (ps, r')) := by
                  show _ = _
                  rw [← HA.out, hei, Nat.sub_self]
                  simp [Ob.repR, app]
                have HR7 : Hid (resT = (Ob.listR 4000 Ob.inR r').map fun c => (⟨nm, ss, us, vs, ps, ns, c.1⟩, c.2)) := by rw [HA1.out] at HR6; exact HR6
                have HC := Lib.hid (listInst_any HS.out.rst 4000 (by omega))
                clear HA HA1 HR6 hei
                generalize Ob.listR 4000 Ob.inR r' = res at *
                go_wp2_with fail
                refine HC.out.mono ?_
                intro e wn hq
                rcases res with _ | ⟨cs, r2'⟩
                · obtain ⟨rfl, hx⟩ := hq
                  unfold thrown
                  go_wp2_with fail
                  rw [HR7.out]
                  exact ⟨rfl, rfl, HS.out.ext.trans hx⟩
                · obtain ⟨cv, rfl, hv, hst, hx⟩ := hq
                  obtain ⟨cva, cvc, rfl⟩ := owns_shape hv
                  have HD := Lib.hid (HS.out.done hx hst hv)
                  have hosR := HS.out.read hx hst
                  have kc : wn.cell? ⟨ob, 6, none⟩ = some (.slice none 0 0) := cell_blk hosR.blk
                  have kf : wn.frozen? ⟨ob, 6, none⟩ = false := frozen_blk hosR.blk
                  clear HS HC hv hst hx hosR
                  go_wp2_with fail
                  go_ret
                  rw [HR7.out]
                  exact ⟨_, rfl, HD.out.1, HD.out.2.1, HD.out.2.2⟩
end Go.Proofs.Ytljnddcddclmeaa
