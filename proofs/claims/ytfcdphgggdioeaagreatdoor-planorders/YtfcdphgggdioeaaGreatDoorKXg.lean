import Derived.Test.YtfcdphgggdioeaaGreatDoorKXf
import Derived.Test.YtfcdphgggdioeaaGreatDoorKWa
import Derived.Test.YtfcdphgggdioeaaGreatDoorKWb
import Derived.Deep.CutRange
import Derived.Deep.DeepCutAuto
/- The document's reader: one PROC. -/
namespace Go.Proofs.YtfcdphgggdioeaaGreatDoor
open Go.RowKit
open Tp (Tok hd tx at' stp X S Pr)
open Nr (Fl fine Sx tk tkS fl mu nm nu nms nex naft nval nsx npar nloc nbody npr)
def PrPost (q : Rp) (ts : List Tok) (w : World) (y : Pr × Sx) (e : Ending) (w' : World) : Prop :=
  ∃ (name : ByteArray) (pos : Int) (seen : Bool) (pa va ba : Option Addr) (pn pc vn vc bn bc : Nat), e = .returned (.agg (pcells name pos seen (.slice pa pn pc) (.slice va vn vc) (.slice ba bn bc))) ∧
    (y.2.2 = fine → VPr w.heap.size y.1 (.agg (pcells name pos seen (.slice pa pn pc) (.slice va vn vc) (.slice ba bn bc))) w') ∧ RX w' q ts y.2 ∧ Ext q.rb w w'
theorem nms_most : ∀ (g most : Nat) (l : List (List UInt8)) (s : Sx) (y : List (List UInt8) × Sx), nms g most l s = some y → l.length ≤ most → y.1.length ≤ most := by
  intro g
  induction g with
  | zero => intro most l s y h; cases h
  | succ g ih =>
    intro most l s y h hl
    rw [nms] at h
    split at h
    · obtain rfl := Option.some.inj h; exact hl
    · split at h
      · exact ih _ _ _ _ h (by simp; omega)
      · obtain rfl := Option.some.inj h; simp; omega
theorem npar_most {g : Nat} {s : Sx} {y : List (List UInt8) × Sx} (h : npar g s = some y) : y.1.length ≤ 10 := by
  unfold npar at h
  split at h
  · obtain ⟨z, h1, h2⟩ := bind_some' h
    have := Option.some.inj h2
    rw [← this]
    exact nms_most _ _ _ _ z h1 (by simp)
  · obtain rfl := Option.some.inj h; simp
set_option maxRecDepth 100000 in
set_option maxHeartbeats 4000000 in
theorem rproc_post {q : Rp} {ts : List Tok} {g : Nat} {w : World} {r : List Tok} {y : Pr × Sx} (h : RS w q ts r fine) (hy : npr g (r, fine) = some y) :
    Calls Tryz.prog 20 #[.pointer (some ⟨q.rb, 0, none⟩)] w fun e w' => PrPost q ts w y e w' := by
  have hpl := lt_of_cell h.c0
  have HS : Hid (∀ W r' z, RS W q ts r' fine → nsx g 0 0 0 [] (r', fine) = some z → Calls Tryz.prog 21 #[.pointer (some ⟨q.rb, 0, none⟩), .int .i64 0] W fun e w' => SPost q ts W z e w') := fun W r' z hW hz => (stmts_allR q ts g).1 W r' 0 z hW (by omega) hz
  obtain ⟨i, n, c, d0, d2a, hn0⟩ := atCells (s := (r, fine)) h
  have d2 : w.cell? ⟨q.tb, i + 2, none⟩ = some (.int .i64 (at' r : Int)) := d2a
  clear d2a
  have htb := lt_of_cell d2
  unfold npr at hy
  dsimp only at hy
  obtain ⟨pos, hpos⟩ : ∃ pos, pos = at' r := ⟨_, rfl⟩
  rw [← hpos] at d2 hy
  obtain ⟨ps, hps, hy⟩ := bind_some' hy
  obtain ⟨vs, hvs, hy⟩ := bind_some' hy
  obtain ⟨b, hb, hy⟩ := bind_some' hy
  have HY := Lib.hid (Option.some.inj hy).symm
  have HPS := Lib.hid hps
  have HVS := Lib.hid hvs
  have HBD := Lib.hid hb
  have hpl10 := npar_most hps
  clear hy hps hvs hb
  have bA : Below w.heap.size w (w.alloc (.cells (pcells ⟨#[]⟩ 0 false (.slice none 0 0) (.slice none 0 0) (.slice none 0 0)) 62)) := (Below.refl _ _).alloc (Nat.le_refl _) _
  have kA := new_blk w (.cells (pcells ⟨#[]⟩ 0 false (.slice none 0 0) (.slice none 0 0) (.slice none 0 0)) 62)
  obtain ⟨wA, hwA⟩ : ∃ wA, wA = w.alloc (.cells (pcells ⟨#[]⟩ 0 false (.slice none 0 0) (.slice none 0 0) (.slice none 0 0)) 62) := ⟨_, rfl⟩
  have hszA : wA.heap.size = w.heap.size + 1 := by rw [hwA]; simp
  rw [← hwA] at bA kA
  have bB : Below wA.heap.size wA (wA.alloc (.cells (pcells ⟨#[]⟩ pos false (.slice none 0 0) (.slice none 0 0) (.slice none 0 0)) 62)) := (Below.refl _ _).alloc (Nat.le_refl _) _
  have kB := new_blk wA (.cells (pcells ⟨#[]⟩ pos false (.slice none 0 0) (.slice none 0 0) (.slice none 0 0)) 62)
  have hbb := bA.trans (bB.mono bA.size)
  have hst0 := h.below hbb
  have hx : Ext q.rb w (wA.alloc (.cells (pcells ⟨#[]⟩ pos false (.slice none 0 0) (.slice none 0 0) (.slice none 0 0)) 62)) := Ext.below hbb
  have kr := (bB.block w.heap.size (by omega)).trans kA
  obtain ⟨rb0, hrb⟩ : ∃ rb0, rb0 = w.heap.size := ⟨_, rfl⟩
  obtain ⟨sb, hsb⟩ : ∃ sb, sb = w.heap.size + 1 := ⟨_, rfl⟩
  have HWB : Hid ((w.alloc (.cells #[.string ⟨#[]⟩, .int .i64 0, .bool false, .slice none 0 0, .slice none 0 0, .slice none 0 0] 62)).alloc (.cells #[.string ⟨#[]⟩, .int .i64 (pos : Int), .bool false, .slice none 0 0, .slice none 0 0, .slice none 0 0] 62) = wA.alloc (.cells (pcells ⟨#[]⟩ pos false (.slice none 0 0) (.slice none 0 0) (.slice none 0 0)) 62)) := by rw [hwA]; rfl
  rw [hszA] at kB
  clear hwA hpos bA kA bB hbb h hszA
  go_enter Tryz.func20, Tryz.ntmps20
  go_wp2_with fail
  rw [HWB.out]
  generalize wA.alloc (.cells (pcells ⟨#[]⟩ pos false (.slice none 0 0) (.slice none 0 0) (.slice none 0 0)) 62) = w1 at *
  rw [← hsb] at kB ⊢
  rw [← hrb] at kr ⊢
  have hrw : w.heap.size ≤ rb0 := by omega
  have hsw : w.heap.size ≤ sb := by omega
  have hrs : rb0 < sb := by omega
  have hqr : q.rb < rb0 := by omega
  have hqs : q.rb < sb := by omega
  clear HWB hrb hsb d0 d2 htb
  have hk : w1.heap[sb]? = some (.cells #[.string ⟨#[]⟩, .int .i64 (pos : Int), .bool false, .slice none 0 0, .slice none 0 0, .slice none 0 0] 62 (0, 0)) := kB
  have hr : w1.heap[rb0]? = some (.cells #[.string ⟨#[]⟩, .int .i64 0, .bool false, .slice none 0 0, .slice none 0 0, .slice none 0 0] 62 (0, 0)) := kr
  have hst : RX w1 q ts (r, fine) := hst0
  clear kB kr hst0
  refine (rmust_s hst Tp.wProc (by decide) _ rfl).mono ?_
  rintro e w2 ⟨rfl, hst2, hxx⟩
  replace hk := (hxx.block sb (lt_blk hk) (by omega)).trans hk
  replace hr := (hxx.block rb0 (lt_blk hr) (by omega)).trans hr
  replace hx := hx.trans hxx
  replace hst := hst2
  clear hst2 hxx
  go_wp2_with fail
  have HN := Lib.hid (rname_s hst)
  generalize nm (mu Tp.wProc (r, fine)) = nn at *
  obtain ⟨a1, s1⟩ := nn
  refine (HN.out).mono ?_
  rintro e w3 ⟨rfl, hst2, hxx⟩
  replace hk := (hxx.block sb (lt_blk hk) (by omega)).trans hk
  replace hr := (hxx.block rb0 (lt_blk hr) (by omega)).trans hr
  replace hx := hx.trans hxx
  replace hst := hst2
  clear hst2 hxx
  clear HN
  have kc : ∀ i, w3.cell? ⟨sb, i, none⟩ = _ := fun i => cell_blk hk
  have kz : ∀ i, w3.frozen? ⟨sb, i, none⟩ = false := fun i => frozen_blk hk
  have ksl := lt_blk hk
  obtain ⟨hst2, hx2, hk2⟩ := fld (i := 0) (v := .string (bs a1)) hst hx hk hsw hpl
  have hk2 : (w3.setCell ⟨sb, 0, none⟩ (.string (bs a1))).heap[sb]? = some (.cells #[.string (bs a1), .int .i64 (pos : Int), .bool false, .slice none 0 0, .slice none 0 0, .slice none 0 0] 62 (0, 0)) := hk2
  have hr2 : (w3.setCell ⟨sb, 0, none⟩ (.string (bs a1))).heap[rb0]? = some (.cells #[.string ⟨#[]⟩, .int .i64 0, .bool false, .slice none 0 0, .slice none 0 0, .slice none 0 0] 62 (0, 0)) := by rw [Below.heap_setCell _ _ _ _ (by simp; omega)]; exact hr
  clear hst hx hk hr
  have hst := hst2
  have hx := hx2
  have hk := hk2
  have hr := hr2
  clear hst2 hx2 hk2 hr2
  go_wp2_with fail
  clear kc kz ksl
  generalize w3.setCell ⟨sb, 0, none⟩ (.string (bs a1)) = w4 at *
  have hst : RX w4 q ts s1 := hst
  refine (rtake_s hst Tp.mStar (by decide) _ rfl).mono ?_
  rintro e w5 ⟨rfl, hst2, hxx⟩
  replace hk := (hxx.block sb (lt_blk hk) (by omega)).trans hk
  replace hr := (hxx.block rb0 (lt_blk hr) (by omega)).trans hr
  replace hx := hx.trans hxx
  replace hst := hst2
  clear hst2 hxx
  have HPS : Hid (npar g (mu Tp.mLp (tkS Tp.mStar s1)) = some ps) := HPS
  generalize htk : tk Tp.mStar s1 = bst at *
  have HBS := Lib.hid htk
  clear htk
  have kc : ∀ i, w5.cell? ⟨sb, i, none⟩ = _ := fun i => cell_blk hk
  have kz : ∀ i, w5.frozen? ⟨sb, i, none⟩ = false := fun i => frozen_blk hk
  have ksl := lt_blk hk
  obtain ⟨hst2, hx2, hk2⟩ := fld (i := 2) (v := .bool bst) hst hx hk hsw hpl
  have hk2 : (w5.setCell ⟨sb, 2, none⟩ (.bool bst)).heap[sb]? = some (.cells #[.string (bs a1), .int .i64 (pos : Int), .bool bst, .slice none 0 0, .slice none 0 0, .slice none 0 0] 62 (0, 0)) := hk2
  have hr2 : (w5.setCell ⟨sb, 2, none⟩ (.bool bst)).heap[rb0]? = some (.cells #[.string ⟨#[]⟩, .int .i64 0, .bool false, .slice none 0 0, .slice none 0 0, .slice none 0 0] 62 (0, 0)) := by rw [Below.heap_setCell _ _ _ _ (by simp; omega)]; exact hr
  clear hst hx hk hr
  have hst := hst2
  have hx := hx2
  have hk := hk2
  have hr := hr2
  clear hst2 hx2 hk2 hr2
  go_wp2_with fail
  clear kc kz ksl
  generalize w5.setCell ⟨sb, 2, none⟩ (.bool bst) = w6 at *
  refine (rmust_s hst Tp.mLp (by decide) _ rfl).mono ?_
  rintro e w7 ⟨rfl, hst2, hxx⟩
  replace hk := (hxx.block sb (lt_blk hk) (by omega)).trans hk
  replace hr := (hxx.block rb0 (lt_blk hr) (by omega)).trans hr
  replace hx := hx.trans hxx
  replace hst := hst2
  clear hst2 hxx
  generalize mu Tp.mLp (tkS Tp.mStar s1) = s4 at *
  obtain ⟨r4, b4⟩ := s4
  have hst : RS w7 q ts r4 b4 := hst
  go_upto_region 6 with fail
  go_cut [28] from 22 (fun v28 wc => ∃ bb : Bool, v28 = .bool bb ∧ Hid (wc.heap[sb]? = some (.cells #[.string (bs a1), .int .i64 (pos : Int), .bool bst, .slice none 0 0, .slice none 0 0, .slice none 0 0] 62 (0, 0))) ∧ Hid (wc.heap[rb0]? = some (.cells #[.string ⟨#[]⟩, .int .i64 0, .bool false, .slice none 0 0, .slice none 0 0, .slice none 0 0] 62 (0, 0))) ∧ Hid (Ext q.rb w wc) ∧ Hid (bb = false → ps.1 = [] ∧ RX wc q ts ps.2) ∧ Hid (bb = true → ∃ z, RS wc q ts r4 fine ∧ nms g 10 [] (r4, fine) = some z ∧ ps = (z.1, mu Tp.mRp z.2)))
  case first =>
    by_cases hf4 : b4 = fine
    rotate_left
    · have hps : ps = ([], (r4, b4)) := by
        have := HPS.out
        unfold npar at this
        rw [if_neg (fun h => hf4 h.1)] at this
        rw [← Option.some.inj this]
        have e : tkS Tp.mRp (r4, b4) = (r4, b4) := by unfold tkS; rw [if_neg (fun h => hf4 h.1)]
        rw [e]
      subst hps
      have HB := Lib.hid (rok_b hst hf4)
      clear hf4 HPS
      go_wp2_with fail
      refine HB.out.mono ?_
      rintro e wb ⟨rfl, hb⟩
      have hk' := Lib.hid ((hb.block sb (lt_blk hk)).trans hk)
      have hr' := Lib.hid ((hb.block rb0 (lt_blk hr)).trans hr)
      have hx' := Lib.hid (hx.trans (Ext.below hb))
      have hst' : RX wb q ts (r4, b4) := hst.below hb
      clear hk hr hx hst hb HB
      go_wp2_with fail
      go_meet
      case rel => exact ⟨false, rfl, hk', hr', hx', fun _ => ⟨trivial, hst'⟩, (fun h => by cases h)⟩
    · subst hf4
      have HB := Lib.hid (rok_f hst)
      go_wp2_with fail
      refine HB.out.mono ?_
      rintro e wb ⟨rfl, hb⟩
      replace hk := (hb.block sb (lt_blk hk)).trans hk
      replace hr := (hb.block rb0 (lt_blk hr)).trans hr
      replace hx := hx.trans (Ext.below hb)
      have hst' : RX wb q ts (r4, fine) := hst.below hb
      clear hst hb HB
      go_wp2_with fail
      refine (rtake_s hst' Tp.mRp (by decide) _ rfl).mono ?_
      rintro e wc ⟨rfl, hst2, hxx⟩
      have hk' := Lib.hid ((hxx.block sb (lt_blk hk) (by omega)).trans hk)
      have hr' := Lib.hid ((hxx.block rb0 (lt_blk hr) (by omega)).trans hr)
      have hx' := Lib.hid (hx.trans hxx)
      clear hst' hxx hk hr hx
      cases htk : tk Tp.mRp (r4, fine) with
      | true =>
        obtain ⟨_, htx, htS⟩ := tk_true htk
        have htx : tx r4 = Tp.mRp := htx
        rw [htS] at hst2
        have hps : ps = ([], (stp r4, fine)) := by
          have := HPS.out
          unfold npar at this
          rw [if_neg (fun h => h.2 htx), htS] at this
          exact (Option.some.inj this).symm
        subst hps
        clear htk htx htS HPS
        go_wp2_with fail
        go_meet
        case rel => exact ⟨false, rfl, hk', hr', hx', fun _ => ⟨trivial, hst2⟩, (fun h => by cases h)⟩
      | false =>
        rw [tk_false htk] at hst2
        have hntx : ¬ tx r4 = Tp.mRp := fun e => of_decide_eq_false htk ⟨rfl, e⟩
        have hps : ∃ z, nms g 10 [] (r4, fine) = some z ∧ ps = (z.1, mu Tp.mRp z.2) := by
          have := HPS.out
          unfold npar at this
          rw [if_pos ⟨rfl, hntx⟩] at this
          obtain ⟨z, h1, h2⟩ := bind_some' this
          exact ⟨z, h1, (Option.some.inj h2).symm⟩
        have HZ := Lib.hid hps
        clear htk hntx HPS hps
        go_wp2_with fail
        go_meet
        case rel => exact ⟨true, rfl, hk', hr', hx', (fun h => by cases h), fun _ => HZ.out.imp fun z hz => ⟨hst2, hz⟩⟩
  case rest =>
    obtain ⟨bb, rfl, HK, HR, HX, HB0, HB1⟩ := hcut
    clear hst hk hr hx HPS
    go_upto_if 28 with fail
    go_cut [] from 29 (fun wc => ∃ (pa : Option Addr) (pc : Nat), Hid (wc.heap[sb]? = some (.cells #[.string (bs a1), .int .i64 (pos : Int), .bool bst, .slice pa ps.1.length pc, .slice none 0 0, .slice none 0 0] 62 (0, 0))) ∧ Hid (wc.heap[rb0]? = some (.cells #[.string ⟨#[]⟩, .int .i64 0, .bool false, .slice none 0 0, .slice none 0 0, .slice none 0 0] 62 (0, 0))) ∧ RX wc q ts ps.2 ∧ Hid (Ext q.rb w wc) ∧ Hid (wc.ownsRow (sb + 1) 9 1 (.slice pa ps.1.length pc) ps.1.length (strs ps.1)))
    case first =>
      cases bb with
      | false =>
        obtain ⟨hp1, hp2⟩ := HB0.out rfl
        obtain ⟨p1, p2⟩ := ps
        simp only at hp1 hp2
        subst hp1
        clear HB0 HB1
        go_wp2_with fail
        go_meet
        case rel => exact ⟨none, 0, HK, HR, hp2, HX, World.ownsRow_nil _ _ _ _⟩
      | true =>
        obtain ⟨z, hst2, hz, hps⟩ := HB1.out rfl
        subst hps
        have HC := Lib.hid (rnames_s (s := (r4, fine)) hst2 rfl 10 g (by omega) z hz)
        have hk := HK.out
        have hr := HR.out
        have hx := HX.out
        have hsl := lt_blk hk
        clear hz HK HR HX HB0 HB1 hst2
        go_wp2_with fail
        refine HC.out.mono ?_
        rintro e wd ⟨v, rfl, hown, hst3, hxx⟩
        obtain ⟨pa, pc, rfl⟩ := owns_shape hown
        replace hk := (hxx.block sb (lt_blk hk) (by omega)).trans hk
        replace hr := (hxx.block rb0 (lt_blk hr) (by omega)).trans hr
        replace hx := hx.trans hxx
        have c3 : wd.cell? ⟨sb, 3, none⟩ = some (.slice none 0 0) := cell_blk hk
        have z3 : wd.frozen? ⟨sb, 3, none⟩ = false := frozen_blk hk
        obtain ⟨hst4, hx4, hk4⟩ := fld (i := 3) (v := .slice pa z.1.length pc) hst3 hx hk hsw hpl
        have hr4 : (wd.setCell ⟨sb, 3, none⟩ (.slice pa z.1.length pc)).heap[rb0]? = some (.cells #[.string ⟨#[]⟩, .int .i64 0, .bool false, .slice none 0 0, .slice none 0 0, .slice none 0 0] 62 (0, 0)) := by rw [Below.heap_setCell _ _ _ _ (by simp; omega)]; exact hr
        have hown4 := owns_ext (owns_base hown (show sb + 1 ≤ wc.heap.size by omega)) ((Ext.refl sb wd).set 3 (.slice pa z.1.length pc)) (by omega)
        have hk4 : (wd.setCell ⟨sb, 3, none⟩ (.slice pa z.1.length pc)).heap[sb]? = some (.cells #[.string (bs a1), .int .i64 (pos : Int), .bool bst, .slice pa z.1.length pc, .slice none 0 0, .slice none 0 0] 62 (0, 0)) := hk4
        clear hst3 hx hk hr hown hxx HC
        go_wp2_with fail
        clear c3 z3
        generalize wd.setCell ⟨sb, 3, none⟩ (.slice pa z.1.length pc) = we at *
        refine (rmust_s hst4 Tp.mRp (by decide) _ rfl).mono ?_
        rintro e wf ⟨rfl, hst5, hxx⟩
        have hk' := Lib.hid ((hxx.block sb (lt_blk hk4) (by omega)).trans hk4)
        have hr' := Lib.hid ((hxx.block rb0 (lt_blk hr4) (by omega)).trans hr4)
        have hx' := Lib.hid (hx4.trans hxx)
        have ho' := Lib.hid (owns_ext hown4 hxx (by omega))
        clear hst4 hx4 hk4 hr4 hown4 hxx
        go_wp2_with fail
        go_meet
        case rel => exact ⟨pa, pc, hk', hr', hst5, hx', ho'⟩
    case rest =>
      obtain ⟨pa, pc, HK2, HR2, hst, HX2, HP⟩ := hcut
      have hk := HK2.out
      have hr := HR2.out
      have hx := HX2.out
      clear HK2 HR2 HX2 HK HR HX HB0 HB1
      rename_i wc
      obtain ⟨wp, hwp⟩ : ∃ wp, wp = wc := ⟨_, rfl⟩
      subst hwp
      go_wp2_with fail
      refine (rmust_s hst Tp.mSemi (by decide) _ rfl).mono ?_
      rintro e w8 ⟨rfl, hst2, hxx⟩
      replace hk := (hxx.block sb (lt_blk hk) (by omega)).trans hk
      replace hr := (hxx.block rb0 (lt_blk hr) (by omega)).trans hr
      replace hx := hx.trans hxx
      replace HP := Lib.hid (owns_ext HP.out hxx (by omega))
      replace hst := hst2
      clear hst2 hxx
      generalize mu Tp.mSemi ps.2 = s7 at *
      go_wp2_with fail
      refine (rtake_s hst Tp.wVar (by decide) _ rfl).mono ?_
      rintro e w9 ⟨rfl, hst2, hxx⟩
      replace hk := (hxx.block sb (lt_blk hk) (by omega)).trans hk
      replace hr := (hxx.block rb0 (lt_blk hr) (by omega)).trans hr
      replace hx := hx.trans hxx
      replace HP := Lib.hid (owns_ext HP.out hxx (by omega))
      replace hst := hst2
      clear hst2 hxx
      generalize htv : tk Tp.wVar s7 = tv at *
      have HTV := Lib.hid htv
      have HK := Lib.hid hk
      have HR := Lib.hid hr
      have HX := Lib.hid hx
      clear htv hk hr hx
      go_upto_if 37 with fail
      go_cut [] from 38 (fun wc => ∃ (va : Option Addr) (vc : Nat), Hid (wc.heap[sb]? = some (.cells #[.string (bs a1), .int .i64 (pos : Int), .bool bst, .slice pa ps.1.length pc, .slice va vs.1.length vc, .slice none 0 0] 62 (0, 0))) ∧ Hid (wc.heap[rb0]? = some (.cells #[.string ⟨#[]⟩, .int .i64 0, .bool false, .slice none 0 0, .slice none 0 0, .slice none 0 0] 62 (0, 0))) ∧ RX wc q ts vs.2 ∧ Hid (Ext q.rb w wc) ∧ Hid (wc.ownsRow (sb + 1) 9 1 (.slice pa ps.1.length pc) ps.1.length (strs ps.1)) ∧ Hid (wc.ownsRow (sb + 1) 9 1 (.slice va vs.1.length vc) vs.1.length (strs vs.1)))
      case first =>
        cases tv with
        | false =>
          have hvs : vs = ([], s7) := by
            have := HVS.out
            unfold nloc at this
            rw [if_neg (by rw [HTV.out]; simp)] at this
            exact (Option.some.inj this).symm
          subst hvs
          rw [tk_false HTV.out] at hst
          clear HVS HTV
          go_wp2_with fail
          go_meet
          case rel => exact ⟨none, 0, HK, HR, hst, HX, HP, World.ownsRow_nil _ _ _ _⟩
        | true =>
          obtain ⟨_, _, htS⟩ := tk_true HTV.out
          have hvs : ∃ z, nms g (10 - ps.1.length) [] (stp s7.1, fine) = some z ∧ vs = (z.1, mu Tp.mSemi z.2) := by
            have := HVS.out
            unfold nloc at this
            rw [if_pos HTV.out, htS] at this
            obtain ⟨z, h1, h2⟩ := bind_some' this
            exact ⟨z, h1, (Option.some.inj h2).symm⟩
          obtain ⟨z, hz, hvs⟩ := hvs
          subst hvs
          rw [htS] at hst
          have HC0 := rnames_s (s := (stp s7.1, fine)) hst rfl (10 - ps.1.length) g (by omega) z hz
          have e10 : ((10 - ps.1.length : Nat) : Int) = 10 - (ps.1.length : Int) := by omega
          rw [e10] at HC0
          have HC := Lib.hid HC0
          have hk := HK.out
          have hr := HR.out
          have hx := HX.out
          have hsl := lt_blk hk
          have c3 : w9.cell? ⟨sb, 3, none⟩ = some (.slice pa ps.1.length pc) := cell_blk hk
          have hpi : (ps.1.length : Int) ≤ 10 := by omega
          clear hz HK HR HX HVS HTV hst htS HC0 e10
          go_wp2_with fail
          clear c3
          refine HC.out.mono ?_
          rintro e wd ⟨v, rfl, hown, hst3, hxx⟩
          obtain ⟨va, vc, rfl⟩ := owns_shape hown
          replace hk := (hxx.block sb (lt_blk hk) (by omega)).trans hk
          replace hr := (hxx.block rb0 (lt_blk hr) (by omega)).trans hr
          replace hx := hx.trans hxx
          replace HP := Lib.hid (owns_ext HP.out hxx (by omega))
          have c4 : wd.cell? ⟨sb, 4, none⟩ = some (.slice none 0 0) := cell_blk hk
          have z4 : wd.frozen? ⟨sb, 4, none⟩ = false := frozen_blk hk
          obtain ⟨hst4, hx4, hk4⟩ := fld (i := 4) (v := .slice va z.1.length vc) hst3 hx hk hsw hpl
          have hr4 : (wd.setCell ⟨sb, 4, none⟩ (.slice va z.1.length vc)).heap[rb0]? = some (.cells #[.string ⟨#[]⟩, .int .i64 0, .bool false, .slice none 0 0, .slice none 0 0, .slice none 0 0] 62 (0, 0)) := by rw [Below.heap_setCell _ _ _ _ (by simp; omega)]; exact hr
          have hown4 := owns_ext (owns_base hown (show sb + 1 ≤ w9.heap.size by omega)) ((Ext.refl sb wd).set 4 (.slice va z.1.length vc)) (by omega)
          replace HP := Lib.hid (owns_ext HP.out ((Ext.refl sb wd).set 4 (.slice va z.1.length vc)) (by omega))
          have hk4 : (wd.setCell ⟨sb, 4, none⟩ (.slice va z.1.length vc)).heap[sb]? = some (.cells #[.string (bs a1), .int .i64 (pos : Int), .bool bst, .slice pa ps.1.length pc, .slice va z.1.length vc, .slice none 0 0] 62 (0, 0)) := hk4
          clear hst3 hx hk hr hown hxx HC
          go_wp2_with fail
          clear c4 z4
          generalize wd.setCell ⟨sb, 4, none⟩ (.slice va z.1.length vc) = we at *
          refine (rmust_s hst4 Tp.mSemi (by decide) _ rfl).mono ?_
          rintro e wf ⟨rfl, hst5, hxx⟩
          have hk' := Lib.hid ((hxx.block sb (lt_blk hk4) (by omega)).trans hk4)
          have hr' := Lib.hid ((hxx.block rb0 (lt_blk hr4) (by omega)).trans hr4)
          have hx' := Lib.hid (hx4.trans hxx)
          have ho' := Lib.hid (owns_ext hown4 hxx (by omega))
          have hp' := Lib.hid (owns_ext HP.out hxx (by omega))
          clear hst4 hx4 hk4 hr4 hown4 hxx HP
          go_wp2_with fail
          go_meet
          case rel => exact ⟨va, vc, hk', hr', hst5, hx', hp', ho'⟩
      case rest =>
        clear hst HP
        obtain ⟨va, vc, HK2, HR2, hst, HX2, HP, HV⟩ := hcut
        have hk := HK2.out
        have hr := HR2.out
        have hx := HX2.out
        clear HK2 HR2 HX2 HK HR HX HVS HTV
        rename_i wc
        obtain ⟨wq, hwq⟩ : ∃ wq, wq = wc := ⟨_, rfl⟩
        subst hwq
        go_wp2_with fail
        refine (rmust_s hst Tp.wBegin (by decide) _ rfl).mono ?_
        rintro e w10 ⟨rfl, hst2, hxx⟩
        replace hk := (hxx.block sb (lt_blk hk) (by omega)).trans hk
        replace hr := (hxx.block rb0 (lt_blk hr) (by omega)).trans hr
        replace hx := hx.trans hxx
        replace HP := Lib.hid (owns_ext HP.out hxx (by omega))
        replace HV := Lib.hid (owns_ext HV.out hxx (by omega))
        replace hst := hst2
        clear hst2 hxx
        generalize mu Tp.wBegin vs.2 = s10 at *
        obtain ⟨r10, b10⟩ := s10
        have hst : RS w10 q ts r10 b10 := hst
        go_wp2_with fail
        refine (rok_any hst).mono ?_
        rintro e w11 ⟨rfl, hbb⟩
        have hst2 := hst.below hbb
        replace hk := (hbb.block sb (lt_blk hk)).trans hk
        replace hr := (hbb.block rb0 (lt_blk hr)).trans hr
        replace hx := hx.trans (Ext.below hbb)
        replace HP := Lib.hid (owns_ext HP.out (Ext.below (b := q.rb) hbb) (by omega))
        replace HV := Lib.hid (owns_ext HV.out (Ext.below (b := q.rb) hbb) (by omega))
        clear hst hbb
        have hst := hst2
        clear hst2
        have HK := Lib.hid hk
        have HR := Lib.hid hr
        have HX := Lib.hid hx
        clear hk hr hx
        generalize hdb : decide (b10 = fine) = db at *
        have HDB := Lib.hid hdb
        clear hdb
        go_upto_if 50 with fail
        go_cut [] from 51 (fun wc => ∃ (ba : Option Addr) (bn bc : Nat), Hid (wc.heap[sb]? = some (.cells #[.string (bs a1), .int .i64 (pos : Int), .bool bst, .slice pa ps.1.length pc, .slice va vs.1.length vc, .slice ba bn bc] 62 (0, 0))) ∧ Hid (wc.heap[rb0]? = some (.cells #[.string ⟨#[]⟩, .int .i64 0, .bool false, .slice none 0 0, .slice none 0 0, .slice none 0 0] 62 (0, 0))) ∧ RX wc q ts b.2 ∧ Hid (Ext q.rb w wc) ∧ Hid (wc.ownsRow (sb + 1) 9 1 (.slice pa ps.1.length pc) ps.1.length (strs ps.1)) ∧ Hid (wc.ownsRow (sb + 1) 9 1 (.slice va vs.1.length vc) vs.1.length (strs vs.1)) ∧ Hid (b.2.2 = fine → bn = b.1.length ∧ VO (sb + 1) b.1 (.slice ba bn bc) wc))
        case first =>
          cases db with
          | false =>
            have hnf : ¬ b10 = fine := of_decide_eq_false HDB.out
            have hbe : b = ([], (r10, b10)) := by
              have := HBD.out
              unfold nbody at this
              rw [if_neg hnf] at this
              exact (Option.some.inj this).symm
            subst hbe
            have HNF := Lib.hid hnf
            clear HBD HDB hnf
            go_wp2_with fail
            go_meet
            case rel => exact ⟨none, 0, 0, HK, HR, hst, HX, HP, HV, fun hf => absurd hf HNF.out⟩
          | true =>
            have hf : b10 = fine := of_decide_eq_true HDB.out
            subst hf
            have hz : nsx g 0 0 0 [] (r10, fine) = some b := by
              have := HBD.out
              unfold nbody at this
              rw [if_pos rfl] at this
              exact this
            have HC := Lib.hid (HS.out w11 r10 b hst hz)
            have hk := HK.out
            have hr := HR.out
            have hx := HX.out
            have hsl := lt_blk hk
            clear hz HK HR HX HBD HDB hst
            go_wp2_with fail
            refine HC.out.mono ?_
            rintro e wd ⟨ba, bn, bc, rfl, hl, hst3, hxx⟩
            replace hk := (hxx.block sb (lt_blk hk) (by omega)).trans hk
            replace hr := (hxx.block rb0 (lt_blk hr) (by omega)).trans hr
            replace hx := hx.trans hxx
            replace HP := Lib.hid (owns_ext HP.out hxx (by omega))
            replace HV := Lib.hid (owns_ext HV.out hxx (by omega))
            have c5 : wd.cell? ⟨sb, 5, none⟩ = some (.slice none 0 0) := cell_blk hk
            have z5 : wd.frozen? ⟨sb, 5, none⟩ = false := frozen_blk hk
            obtain ⟨hst4, hx4, hk4⟩ := fld (i := 5) (v := .slice ba bn bc) hst3 hx hk hsw hpl
            have hr4 : (wd.setCell ⟨sb, 5, none⟩ (.slice ba bn bc)).heap[rb0]? = some (.cells #[.string ⟨#[]⟩, .int .i64 0, .bool false, .slice none 0 0, .slice none 0 0, .slice none 0 0] 62 (0, 0)) := by rw [Below.heap_setCell _ _ _ _ (by simp; omega)]; exact hr
            replace HP := Lib.hid (owns_ext HP.out ((Ext.refl sb wd).set 5 (.slice ba bn bc)) (by omega))
            replace HV := Lib.hid (owns_ext HV.out ((Ext.refl sb wd).set 5 (.slice ba bn bc)) (by omega))
            have HL : Hid (b.2.2 = fine → bn = b.1.length ∧ VO (sb + 1) b.1 (.slice ba bn bc) (wd.setCell ⟨sb, 5, none⟩ (.slice ba bn bc))) := fun hf => by
              have h1 := VL.ext (b := sb) ((Ext.refl sb wd).set 5 (.slice ba bn bc)) (show sb < sb + 1 by omega) ((hl hf).base (show sb + 1 ≤ w11.heap.size by omega))
              obtain ⟨_, _, e⟩ := h1.shape
              cases e
              exact ⟨rfl, h1.vo⟩
            have HK4 : Hid ((wd.setCell ⟨sb, 5, none⟩ (.slice ba bn bc)).heap[sb]? = some (.cells #[.string (bs a1), .int .i64 (pos : Int), .bool bst, .slice pa ps.1.length pc, .slice va vs.1.length vc, .slice ba bn bc] 62 (0, 0))) := hk4
            have HR4 := Lib.hid hr4
            have HX4 := Lib.hid hx4
            clear hst3 hx hk hr hl hxx HC hk4 hr4 hx4
            go_wp2_with fail
            clear c5 z5
            go_meet
            case rel => exact ⟨ba, bn, bc, HK4, HR4, hst4, HX4, HP, HV, HL⟩
        case rest =>
          clear hst HP HV
          obtain ⟨ba, bn, bc, HK2, HR2, hst, HX2, HP, HV, HL⟩ := hcut
          have hk := HK2.out
          have hr := HR2.out
          have hx := HX2.out
          clear HK2 HR2 HX2 HK HR HX HBD HDB
          rename_i wc
          obtain ⟨wr0, hwr⟩ : ∃ wr0, wr0 = wc := ⟨_, rfl⟩
          subst hwr
          go_wp2_with fail
          refine (rmust_s hst Tp.wEnd (by decide) _ rfl).mono ?_
          rintro e w13 ⟨rfl, hst2, hxx⟩
          replace hk := (hxx.block sb (lt_blk hk) (by omega)).trans hk
          replace hr := (hxx.block rb0 (lt_blk hr) (by omega)).trans hr
          replace hx := hx.trans hxx
          replace HP := Lib.hid (owns_ext HP.out hxx (by omega))
          replace HV := Lib.hid (owns_ext HV.out hxx (by omega))
          have HL2 : Hid (b.2.2 = fine → bn = b.1.length ∧ VO (sb + 1) b.1 (.slice ba bn bc) w13) := fun hf => ⟨(HL.out hf).1, VO.ext hxx (by omega) (HL.out hf).2⟩
          replace HL := HL2
          clear HL2
          replace hst := hst2
          clear hst2 hxx
          go_wp2_with fail
          refine (rmust_s hst Tp.mSemi (by decide) _ rfl).mono ?_
          rintro e w14 ⟨rfl, hst2, hxx⟩
          replace hk := (hxx.block sb (lt_blk hk) (by omega)).trans hk
          replace hr := (hxx.block rb0 (lt_blk hr) (by omega)).trans hr
          replace hx := hx.trans hxx
          replace HP := Lib.hid (owns_ext HP.out hxx (by omega))
          replace HV := Lib.hid (owns_ext HV.out hxx (by omega))
          have HL2 : Hid (b.2.2 = fine → bn = b.1.length ∧ VO (sb + 1) b.1 (.slice ba bn bc) w14) := fun hf => ⟨(HL.out hf).1, VO.ext hxx (by omega) (HL.out hf).2⟩
          replace HL := HL2
          clear HL2
          replace hst := hst2
          clear hst2 hxx
          have hfin : PrPost q ts w y (.returned (.agg (pcells (bs a1) pos bst (.slice pa ps.1.length pc) (.slice va vs.1.length vc) (.slice ba bn bc)))) ((((((w14.setCell ⟨rb0, 0, none⟩ (.string (bs a1))).setCell ⟨rb0, 1, none⟩ (.int .i64 (pos : Int))).setCell ⟨rb0, 2, none⟩ (.bool bst)).setCell ⟨rb0, 3, none⟩ (.slice pa ps.1.length pc)).setCell ⟨rb0, 4, none⟩ (.slice va vs.1.length vc)).setCell ⟨rb0, 5, none⟩ (.slice ba bn bc)) := by
            have hbS := below_set6 w14 rb0 (.string (bs a1)) (.int .i64 (pos : Int)) (.bool bst) (.slice pa ps.1.length pc) (.slice va vs.1.length vc) (.slice ba bn bc)
            have hxS := ext_set6 w14 rb0 (.string (bs a1)) (.int .i64 (pos : Int)) (.bool bst) (.slice pa ps.1.length pc) (.slice va vs.1.length vc) (.slice ba bn bc)
            rw [HY.out]
            refine ⟨bs a1, pos, bst, pa, va, ba, ps.1.length, pc, vs.1.length, vc, bn, bc, rfl, fun hf => ?_, hst.belowB hbS (by omega), hx.trans' (hbS.mono hrw)⟩
            obtain ⟨e1, e2⟩ := HL.out (mu_fine (mu_fine hf))
            subst e1
            exact ⟨pa, va, ba, pc, vc, bc, rfl, owns_base (owns_ext HP.out hxS (by omega)) (by omega), owns_base (owns_ext HV.out hxS (by omega)) (by omega), (VO.ext hxS (by omega) e2).base (by omega)⟩
          have HF := Lib.hid hfin
          have ks : ∀ i, w14.cell? ⟨sb, i, none⟩ = (#[.string (bs a1), .int .i64 (pos : Int), .bool bst, .slice pa ps.1.length pc, .slice va vs.1.length vc, .slice ba bn bc] : Array Value)[i]? := fun i => cell_blk hk
          have kr : ∀ i, w14.cell? ⟨rb0, i, none⟩ = (#[.string ⟨#[]⟩, .int .i64 0, .bool false, .slice none 0 0, .slice none 0 0, .slice none 0 0] : Array Value)[i]? := fun i => cell_blk hr
          have zr : ∀ i, w14.frozen? ⟨rb0, i, none⟩ = false := fun i => frozen_blk hr
          have hrl := lt_blk hr
          have hsl := lt_blk hk
          clear hk hr hst hx HP HV HL hfin
          go_wp2_with fail
          exact bodyPost_ret (v := .agg (pcells (bs a1) pos bst (.slice pa ps.1.length pc) (.slice va vs.1.length vc) (.slice ba bn bc))) (by simp [results, Tryz.results20, go_sem, kr, pcells]) rfl HF.out
end Go.Proofs.YtfcdphgggdioeaaGreatDoor
/- The document's reader: tokens, what is cut off at a place. -/
namespace Go.Proofs.YtfcdphgggdioeaaGreatDoor
open Go.RowKit
open Tp (Tok hd tx at' stp)
open Nr (Fl fine)
set_option maxRecDepth 100000 in
set_option maxHeartbeats 400000 in
theorem rlow_any (w : World) (c : UInt8) : Calls Tryz.prog 38 #[.int .u8 (c.toNat : Int)] w fun e w' => e = .returned (.bool (Tp.letter c)) ∧ w' = w := by
  have HR : Hid (Tp.letter c = (decide (97 ≤ c.toNat) && decide (c.toNat ≤ 122))) := by show _ = _; unfold Tp.letter; rw [Bool.decide_and]
  generalize Tp.letter c = r at *
  by_cases h1 : 97 ≤ c.toNat
  · have g1 : (97 : Int) ≤ (c.toNat : Int) := by omega
    by_cases h2 : c.toNat ≤ 122
    · have g2 : (c.toNat : Int) ≤ 122 := by omega
      go_enter Tryz.func38, Tryz.ntmps38
      go_wp2_with fail
      go_ret
      exact ⟨by rw [HR.out, decide_eq_true h1, decide_eq_true h2]; rfl, rfl⟩
    · have g2 : ¬ (c.toNat : Int) ≤ 122 := by omega
      go_enter Tryz.func38, Tryz.ntmps38
      go_wp2_with fail
      go_ret
      exact ⟨by rw [HR.out, decide_eq_true h1, decide_eq_false h2]; rfl, rfl⟩
  · have g1 : ¬ (97 : Int) ≤ (c.toNat : Int) := by omega
    go_enter Tryz.func38, Tryz.ntmps38
    go_wp2_with fail
    go_ret
    exact ⟨by rw [HR.out, decide_eq_false h1]; rfl, rfl⟩
set_option maxRecDepth 100000 in
set_option maxHeartbeats 400000 in
theorem rdig_any (w : World) (c : UInt8) : Calls Tryz.prog 39 #[.int .u8 (c.toNat : Int)] w fun e w' => e = .returned (.bool (Tp.digit c)) ∧ w' = w := by
  have HR : Hid (Tp.digit c = (decide (48 ≤ c.toNat) && decide (c.toNat ≤ 57))) := by show _ = _; unfold Tp.digit; rw [Bool.decide_and]
  generalize Tp.digit c = r at *
  by_cases h1 : 48 ≤ c.toNat
  · have g1 : (48 : Int) ≤ (c.toNat : Int) := by omega
    by_cases h2 : c.toNat ≤ 57
    · have g2 : (c.toNat : Int) ≤ 57 := by omega
      go_enter Tryz.func39, Tryz.ntmps39
      go_wp2_with fail
      go_ret
      exact ⟨by rw [HR.out, decide_eq_true h1, decide_eq_true h2]; rfl, rfl⟩
    · have g2 : ¬ (c.toNat : Int) ≤ 57 := by omega
      go_enter Tryz.func39, Tryz.ntmps39
      go_wp2_with fail
      go_ret
      exact ⟨by rw [HR.out, decide_eq_true h1, decide_eq_false h2]; rfl, rfl⟩
  · have g1 : ¬ (48 : Int) ≤ (c.toNat : Int) := by omega
    go_enter Tryz.func39, Tryz.ntmps39
    go_wp2_with fail
    go_ret
    exact ⟨by rw [HR.out, decide_eq_false h1]; rfl, rfl⟩
def markW : List UInt8 := [58, 61, 32, 60, 61, 32, 62, 61, 32, 35, 32, 61, 32, 60, 32, 62, 32, 43, 32, 45, 32, 42, 32, 40, 32, 41, 32, 91, 32, 93, 32, 44, 32, 59, 32, 58, 32, 46]
theorem mark_one (s : List UInt8) : oneB s markW = decide (s ∈ Tp.marks) := by
  have h := oneB_iff (s := s) (ws := Tp.marks) (y := markW) (by decide) (by decide)
  rw [Bool.eq_iff_iff, h, decide_eq_true_iff]
open Tp in
theorem rcut_mark {c : UInt8} {l : List UInt8} (h1 : letter c = false) (h2 : digit c = false) : Tp.cut (c :: l) = if 2 ≤ (c :: l).length ∧ (c :: l).take 2 ∈ marks then some (3, 2) else if [c] ∈ marks then some (3, 1) else none := by
  have e0 : Tp.cut (c :: l) = (marks.find? (fun m => m.isPrefixOf (c :: l))).map (fun m => (3, m.length)) := by
    show (if letter c = true then _ else if digit c = true then _ else _) = _
    rw [if_neg (by rw [h1]; simp), if_neg (by rw [h2]; simp)]
  rw [e0]
  clear e0
  cases l with
  | nil =>
    rw [if_neg (by simp)]
    by_cases hc : [c] ∈ marks
    · rw [if_pos hc]
      simp only [marks, List.mem_cons, List.not_mem_nil, or_false] at hc
      rcases hc with hc | hc | hc | hc | hc | hc | hc | hc | hc | hc | hc | hc | hc | hc | hc | hc | hc | hc <;> first | (exfalso; revert hc; simp [mSet, mLe, mGe]; done) | (cases hc; rfl)
    · rw [if_neg hc]
      have : marks.find? (fun m => m.isPrefixOf [c]) = none := by
        rw [List.find?_eq_none]
        intro m hm hp
        have hp := List.isPrefixOf_iff_prefix.1 hp
        have hl : m ≠ [] := (by decide : ∀ m ∈ marks, m ≠ []) m hm
        have : m = [c] := by
          obtain ⟨t, ht⟩ := hp
          cases m with
          | nil => exact absurd rfl hl
          | cons a m => simp at ht; simp [ht]
        exact hc (this ▸ hm)
      rw [this]; rfl
  | cons d t =>
    by_cases h3 : [c, d] ∈ marks
    · rw [if_pos ⟨by simp, by simpa using h3⟩]
      simp only [marks, List.mem_cons, List.not_mem_nil, or_false] at h3
      rcases h3 with hc | hc | hc | hc | hc | hc | hc | hc | hc | hc | hc | hc | hc | hc | hc | hc | hc | hc <;> first | (exfalso; revert hc; simp [mNe, mEq, mLt, mGt, mPlus, mMinus, mStar, mLp, mRp, mLb, mRb, mComma, mSemi, mColon, mDot]; done) | (cases hc; rfl)
    · rw [if_neg (fun h => h3 (by simpa using h.2))]
      have h58 : ¬ (c = 58 ∧ d = 61) := fun h => h3 (by rw [h.1, h.2]; decide)
      have h60 : ¬ (c = 60 ∧ d = 61) := fun h => h3 (by rw [h.1, h.2]; decide)
      have h62 : ¬ (c = 62 ∧ d = 61) := fun h => h3 (by rw [h.1, h.2]; decide)
      have hf : marks.find? (fun m => m.isPrefixOf (c :: d :: t)) = if [c] ∈ marks then some [c] else none := by
        have e3 : ∀ x : UInt8, ([x, 61] : List UInt8).isPrefixOf (c :: d :: t) = decide (c = x ∧ d = 61) := fun x => by
          rw [Bool.eq_iff_iff, decide_eq_true_iff]
          simp [List.isPrefixOf]
          constructor
          · rintro ⟨h, h'⟩; exact ⟨h.symm, h'.symm⟩
          · rintro ⟨h, h'⟩; exact ⟨h.symm, h'.symm⟩
        have e4 : marks.find? (fun m => m.isPrefixOf (c :: d :: t)) = [mNe, mEq, mLt, mGt, mPlus, mMinus, mStar, mLp, mRp, mLb, mRb, mComma, mSemi, mColon, mDot].find? (fun m => m.isPrefixOf (c :: d :: t)) := by
          show List.find? _ (mSet :: mLe :: mGe :: _) = _
          rw [List.find?_cons_of_neg (by rw [show mSet = [58, 61] from rfl, e3]; simpa using h58), List.find?_cons_of_neg (by rw [show mLe = [60, 61] from rfl, e3]; simpa using h60), List.find?_cons_of_neg (by rw [show mGe = [62, 61] from rfl, e3]; simpa using h62)]
        rw [e4]
        by_cases hc : [c] ∈ marks
        · rw [if_pos hc]
          simp only [marks, List.mem_cons, List.not_mem_nil, or_false] at hc
          rcases hc with hc | hc | hc | hc | hc | hc | hc | hc | hc | hc | hc | hc | hc | hc | hc | hc | hc | hc <;> first | (exfalso; revert hc; simp [mSet, mLe, mGe]; done) | (cases hc; rfl)
        · rw [if_neg hc, List.find?_eq_none]
          intro m hm hp
          have hp := List.isPrefixOf_iff_prefix.1 hp
          have hl : m.length = 1 := (by decide : ∀ m ∈ [mNe, mEq, mLt, mGt, mPlus, mMinus, mStar, mLp, mRp, mLb, mRb, mComma, mSemi, mColon, mDot], m.length = 1) m hm
          have : m = [c] := by
            obtain ⟨t', ht⟩ := hp
            cases m with
            | nil => simp at hl
            | cons a m =>
              simp at hl ht
              subst hl
              simp [ht.1]
          refine hc (this ▸ ?_)
          show m ∈ mSet :: mLe :: mGe :: _
          exact List.mem_cons_of_mem _ (List.mem_cons_of_mem _ (List.mem_cons_of_mem _ hm))
      rw [hf]
      by_cases hc : [c] ∈ marks
      · rw [if_pos hc, if_pos hc]; rfl
      · rw [if_neg hc, if_neg hc]; rfl
end Go.Proofs.YtfcdphgggdioeaaGreatDoor
