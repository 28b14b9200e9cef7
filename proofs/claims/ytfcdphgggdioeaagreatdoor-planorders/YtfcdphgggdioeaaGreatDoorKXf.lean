import Derived.Test.YtfcdphgggdioeaaGreatDoorKXe
/- The document's reader: one STMT. -/
namespace Go.Proofs.YtfcdphgggdioeaaGreatDoor
open Go.RowKit
open Tp (Tok hd tx at' stp X S)
open Nr (Fl fine Sx tk tkS fl mu nm nu nms nex naft nval nsx rs3 blk)
theorem nsx2 (g deep : Nat) (r : List Tok) : nsx (g + 1) 2 deep 0 [] (r, fine) = (if tx r = Tp.wReturn then (nval g (stp r, fine)).bind fun y => some ([⟨4, at' r, [], [], y.1, [], []⟩], y.2)
      else if tx r = Tp.wWrite then (nval g (stp r, fine)).bind fun y => some ([⟨5, at' r, [], [], y.1, [], []⟩], y.2)
      else if tx r = Tp.wWhile then (nval g (stp r, fine)).bind fun y => (blk g deep (mu Tp.wDo y.2)).bind fun z => some ([⟨3, at' r, [], [], y.1, z.1, []⟩], mu Tp.wEnd z.2)
      else if tx r = Tp.wIf then (nsx g 3 deep (at' r) [] (stp r, fine)).bind fun y => some (y.1, mu Tp.wEnd y.2)
      else (nex g 6 0 0 [] (r, fine)).bind fun y =>
        if Tp.codeOf y.1 = 6 then some ([⟨6, at' r, [], [], y.1, [], []⟩], y.2)
        else (nval g (mu Tp.mSet (if y.2.2 = fine ∧ Tp.modOf y.1 ≠ [] then fl 3 y.2 else y.2))).bind fun z => some ([⟨1, at' r, Tp.nameOf y.1, Tp.leftOf y.1, z.1, [], []⟩], z.2)) := by
  rw [nsx, if_neg (by omega), if_neg (by omega), if_pos rfl]; rfl
theorem tfin {q : Rp} {ts : List Tok} {w W : World} {rb0 B : Nat} {y : List S × Sx} {c p : Int} {nm : ByteArray} {ia va ta ea : Option Addr} {tn tc en ec : Nat} (hst : RX W q ts y.2) (hx : Ext q.rb w W) (hrw : w.heap.size ≤ rb0) (hq : q.rb < w.heap.size) (hB : rb0 < B)
    (hv : y.2.2 = fine → VS B y.1 (.agg (scells c p nm (.pointer ia) (.pointer va) (.slice ta tn tc) (.slice ea en ec))) W) :
    TPost q ts w y (.returned (.agg (scells c p nm (.pointer ia) (.pointer va) (.slice ta tn tc) (.slice ea en ec)))) (((((((W.setCell ⟨rb0, 0, none⟩ (.int .i64 c)).setCell ⟨rb0, 1, none⟩ (.int .i64 p)).setCell ⟨rb0, 2, none⟩ (.string nm)).setCell ⟨rb0, 3, none⟩ (.pointer ia)).setCell ⟨rb0, 4, none⟩ (.pointer va)).setCell ⟨rb0, 5, none⟩ (.slice ta tn tc)).setCell ⟨rb0, 6, none⟩ (.slice ea en ec)) := by
  refine ⟨c, p, nm, ia, va, ta, ea, tn, tc, en, ec, rfl, fun hf => ?_, hst.belowB (below_set7 W rb0 _ _ _ _ _ _ _) (by omega), hx.trans' ((below_set7 W rb0 _ _ _ _ _ _ _).mono hrw)⟩
  exact (VS.ext (b := rb0) (ext_set7 W rb0 _ _ _ _ _ _ _) hB (hv hf)).base (by omega)
theorem nval_back {g : Nat} {s : Sx} {u : List X × Sx} (h : nval g s = some u) (hf : u.2.2 = fine) : s.2 = fine := by
  unfold nval at h
  by_cases hs : s.2 = fine
  · exact hs
  · rw [if_neg hs] at h
    obtain rfl := Option.some.inj h
    exact hf
theorem s3_back {z : Sx} {m : List UInt8} (h : (if z.2 = fine ∧ m ≠ [] then fl 3 z else z).2 = fine) : z.2 = fine := by
  split at h
  · rename_i hc; exact hc.1
  · exact h
set_option maxRecDepth 100000 in
set_option maxHeartbeats 6000000 in
theorem rstmt_post {q : Rp} {ts : List Tok} {g : Nat} (hS : StsR q ts g) (hK : RstR q ts g) : StR q ts (g + 1) := by
  intro w r deep y h hd hy
  rw [nsx2] at hy
  have HY := Lib.hid hy
  have hpl := lt_of_cell h.c0
  have hdi : (deep : Int) ≤ 10 := by omega
  have HS : Hid (∀ W r' z, RS W q ts r' fine → nsx g 0 (deep + 1) 0 [] (r', fine) = some z → Calls Tryz.prog 21 #[.pointer (some ⟨q.rb, 0, none⟩), .int .i64 ((deep : Int) + 1)] W fun e w' => SPost q ts W z e w') := fun W r' z hW hz => hS W r' (deep + 1) z hW (by omega) hz
  have HK : Hid (∀ W r' a' sb' c' z, RS W q ts r' fine → W.heap[sb']? = some (.cells (scells c' a' ⟨#[]⟩ (.pointer none) (.pointer none) (.slice none 0 0) (.slice none 0 0)) 97 (0, 0)) → q.rb < sb' → nsx g 3 deep a' [] (r', fine) = some z → Calls Tryz.prog 66 #[.pointer (some ⟨q.rb, 0, none⟩), .pointer (some ⟨sb', 0, none⟩), .int .i64 (deep : Int)] W fun e w' => KPost q ts W sb' a' z e w') := fun W r' a' sb' c' z hW h1 h2 hz => hK W r' deep a' sb' c' z hW h1 h2 hd hz
  have HR : Hid (∀ W z, RS W q ts r fine → nex g 6 0 0 [] (r, fine) = some z → Calls Tryz.prog 67 #[.pointer (some ⟨q.rb, 0, none⟩), .int .i64 0] W fun e w' => RefPost q ts W (at' r) z e w') := fun W z hW hz => (expr_allR q ts g).2.2 W r 0 z hW (by omega) hz
  clear hS hK hy
  obtain ⟨i, n, c, d0, d2a, hn0⟩ := atCells (s := (r, fine)) h
  have d2 : w.cell? ⟨q.tb, i + 2, none⟩ = some (.int .i64 (at' r : Int)) := d2a
  clear d2a
  have htb := lt_of_cell d2
  obtain ⟨pos, hpos⟩ : ∃ pos, pos = at' r := ⟨_, rfl⟩
  rw [← hpos] at d2 HY HR
  have bA : Below w.heap.size w (w.alloc (.cells (scells 0 0 ⟨#[]⟩ (.pointer none) (.pointer none) (.slice none 0 0) (.slice none 0 0)) 97)) := (Below.refl _ _).alloc (Nat.le_refl _) _
  have kA := new_blk w (.cells (scells 0 0 ⟨#[]⟩ (.pointer none) (.pointer none) (.slice none 0 0) (.slice none 0 0)) 97)
  obtain ⟨wA, hwA⟩ : ∃ wA, wA = w.alloc (.cells (scells 0 0 ⟨#[]⟩ (.pointer none) (.pointer none) (.slice none 0 0) (.slice none 0 0)) 97) := ⟨_, rfl⟩
  have hszA : wA.heap.size = w.heap.size + 1 := by rw [hwA]; simp
  rw [← hwA] at bA kA
  have bB : Below wA.heap.size wA (wA.alloc (.cells (scells 0 pos ⟨#[]⟩ (.pointer none) (.pointer none) (.slice none 0 0) (.slice none 0 0)) 97)) := (Below.refl _ _).alloc (Nat.le_refl _) _
  have kB := new_blk wA (.cells (scells 0 pos ⟨#[]⟩ (.pointer none) (.pointer none) (.slice none 0 0) (.slice none 0 0)) 97)
  have hbb := bA.trans (bB.mono bA.size)
  have hst := h.below hbb
  have hx : Ext q.rb w (wA.alloc (.cells (scells 0 pos ⟨#[]⟩ (.pointer none) (.pointer none) (.slice none 0 0) (.slice none 0 0)) 97)) := Ext.below hbb
  have kr := (bB.block w.heap.size (by omega)).trans kA
  obtain ⟨rb0, hrb⟩ : ∃ rb0, rb0 = w.heap.size := ⟨_, rfl⟩
  obtain ⟨sb, hsb⟩ : ∃ sb, sb = w.heap.size + 1 := ⟨_, rfl⟩
  have HWB : Hid ((w.alloc (.cells #[.int .i64 0, .int .i64 0, .string ⟨#[]⟩, .pointer none, .pointer none, .slice none 0 0, .slice none 0 0] 97)).alloc (.cells #[.int .i64 0, .int .i64 (pos : Int), .string ⟨#[]⟩, .pointer none, .pointer none, .slice none 0 0, .slice none 0 0] 97) = wA.alloc (.cells (scells 0 pos ⟨#[]⟩ (.pointer none) (.pointer none) (.slice none 0 0) (.slice none 0 0)) 97)) := by rw [hwA]; rfl
  have HPO := Lib.hid hpos
  rw [hszA] at kB
  clear hwA hpos bA kA bB hbb h hszA
  go_enter Tryz.func42, Tryz.ntmps42
  go_wp2_with fail
  rw [HWB.out]
  generalize wA.alloc (.cells (scells 0 pos ⟨#[]⟩ (.pointer none) (.pointer none) (.slice none 0 0) (.slice none 0 0)) 97) = w1 at *
  rw [← hsb] at kB ⊢
  rw [← hrb] at kr ⊢
  have hrw : w.heap.size ≤ rb0 := by omega
  have hsw : w.heap.size ≤ sb := by omega
  have hrs : rb0 < sb := by omega
  have hqr : q.rb < rb0 := by omega
  have hqs : q.rb < sb := by omega
  clear HWB hrb hsb d0 d2 htb
  have hk1 : w1.heap[sb]? = some (.cells #[.int .i64 0, .int .i64 (pos : Int), .string ⟨#[]⟩, .pointer none, .pointer none, .slice none 0 0, .slice none 0 0] 97 (0, 0)) := kB
  have hr1 : w1.heap[rb0]? = some (.cells #[.int .i64 0, .int .i64 0, .string ⟨#[]⟩, .pointer none, .pointer none, .slice none 0 0, .slice none 0 0] 97 (0, 0)) := kr
  have hst1 : RX w1 q ts (r, fine) := hst
  have hx1 := hx
  clear kB kr hst hx
  refine (rtake_s hst1 Tp.wReturn (by decide) _ rfl).mono ?_
  rintro e w2 ⟨rfl, hst2, hxx⟩
  have hk2 := (hxx.block sb (lt_blk hk1) (by omega)).trans hk1
  have hr2 := (hxx.block rb0 (lt_blk hr1) (by omega)).trans hr1
  have hx2 := hx1.trans hxx
  clear hst1 hk1 hr1 hx1 hxx
  cases ht1 : tk Tp.wReturn (r, fine) with
  | true =>
    obtain ⟨_, htx, htS⟩ := tk_true ht1
    rw [htS] at hst2
    have htx : tx r = Tp.wReturn := htx
    have hy := HY.out
    rw [if_pos htx] at hy
    obtain ⟨x, hx0, hyx⟩ := bind_some' hy
    have HYX : Hid (y = ([⟨4, pos, [], [], x.1, [], []⟩], x.2)) := (Option.some.inj hyx).symm
    have HC := Lib.hid (rvalue_s hst2 g x hx0)
    have hszk := hx2.size
    have hlsk := lt_blk hk2
    clear htx htS hy hx0 hyx ht1
    go_wp2_with fail
    refine HC.out.mono ?_
    rintro e wv ⟨p, rfl, hv, hstv, hxv⟩
    have hkv : wv.heap[sb]? = some (.cells #[.int .i64 0, .int .i64 (pos : Int), .string ⟨#[]⟩, .pointer none, .pointer none, .slice none 0 0, .slice none 0 0] 97 (0, 0)) := (hxv.block sb (lt_blk hk2) (by omega)).trans hk2
    have hrv := (hxv.block rb0 (lt_blk hr2) (by omega)).trans hr2
    have hxv' := hx2.trans hxv
    obtain ⟨hsta, hxa, hka⟩ := fld (i := 0) (v := .int .i64 4) hstv hxv' hkv hsw hpl
    obtain ⟨hstF, hxF, hkF⟩ := fld (i := 4) (v := .pointer p) hsta hxa hka hsw hpl
    have HF := Lib.hid (tfin (y := y) (c := 4) (p := (pos : Int)) (nm := ⟨#[]⟩) (ia := none) (va := p) (ta := none) (ea := none) (tn := 0) (tc := 0) (en := 0) (ec := 0) (B := sb + 1) (by rw [HYX.out]; exact hstF) hxF hrw hpl (by omega) (fun hf => by
      rw [HYX.out] at hf ⊢
      exact VS.node (code := 4) (name := []) (Or.inl ⟨rfl, rfl⟩) (Or.inr (VX.ext (b := sb) (((Ext.refl sb wv).set 0 _).set 4 _) (by omega) ((hv hf).base (by omega)))) (Or.inl ⟨rfl, rfl⟩) (Or.inl ⟨rfl, rfl⟩)))
    clear hv hstv hxv hxv' hsta hxa hka hstF hxF hkF HC hst2 hk2 hr2 hx2
    have ks : ∀ i, wv.cell? ⟨sb, i, none⟩ = (#[.int .i64 0, .int .i64 (pos : Int), .string ⟨#[]⟩, .pointer none, .pointer none, .slice none 0 0, .slice none 0 0] : Array Value)[i]? := fun i => cell_blk hkv
    have zs : ∀ i, wv.frozen? ⟨sb, i, none⟩ = false := fun i => frozen_blk hkv
    have kr : ∀ i, wv.cell? ⟨rb0, i, none⟩ = (#[.int .i64 0, .int .i64 0, .string ⟨#[]⟩, .pointer none, .pointer none, .slice none 0 0, .slice none 0 0] : Array Value)[i]? := fun i => cell_blk hrv
    have zr : ∀ i, wv.frozen? ⟨rb0, i, none⟩ = false := fun i => frozen_blk hrv
    have hrl := lt_blk hrv
    have hsl := lt_blk hkv
    clear hkv hrv
    go_wp2_with fail
    exact bodyPost_ret (v := .agg (scells 4 pos ⟨#[]⟩ (.pointer none) (.pointer p) (.slice none 0 0) (.slice none 0 0))) (by simp [results, Tryz.results42, go_sem, kr, scells]) rfl HF.out
  | false =>
    rw [tk_false ht1] at hst2
    have hn1 : ¬ tx r = Tp.wReturn := fun e => of_decide_eq_false ht1 ⟨rfl, e⟩
    clear ht1
    go_wp2_with fail
    refine (rtake_s hst2 Tp.wWrite (by decide) _ rfl).mono ?_
    rintro e w3 ⟨rfl, hst3, hxx⟩
    have hk3 := (hxx.block sb (lt_blk hk2) (by omega)).trans hk2
    have hr3 := (hxx.block rb0 (lt_blk hr2) (by omega)).trans hr2
    have hx3 := hx2.trans hxx
    clear hst2 hk2 hr2 hx2 hxx
    cases ht2 : tk Tp.wWrite (r, fine) with
    | true =>
      obtain ⟨_, htx, htS⟩ := tk_true ht2
      rw [htS] at hst3
      have htx : tx r = Tp.wWrite := htx
      have hy := HY.out
      rw [if_neg hn1, if_pos htx] at hy
      obtain ⟨x, hx0, hyx⟩ := bind_some' hy
      have HYX : Hid (y = ([⟨5, pos, [], [], x.1, [], []⟩], x.2)) := (Option.some.inj hyx).symm
      have HC := Lib.hid (rvalue_s hst3 g x hx0)
      have hszk := hx3.size
      have hlsk := lt_blk hk3
      clear htx htS hy hx0 hyx ht2
      go_wp2_with fail
      refine HC.out.mono ?_
      rintro e wv ⟨p, rfl, hv, hstv, hxv⟩
      have hkv : wv.heap[sb]? = some (.cells #[.int .i64 0, .int .i64 (pos : Int), .string ⟨#[]⟩, .pointer none, .pointer none, .slice none 0 0, .slice none 0 0] 97 (0, 0)) := (hxv.block sb (lt_blk hk3) (by omega)).trans hk3
      have hrv := (hxv.block rb0 (lt_blk hr3) (by omega)).trans hr3
      have hxv' := hx3.trans hxv
      obtain ⟨hsta, hxa, hka⟩ := fld (i := 0) (v := .int .i64 5) hstv hxv' hkv hsw hpl
      obtain ⟨hstF, hxF, hkF⟩ := fld (i := 4) (v := .pointer p) hsta hxa hka hsw hpl
      have HF := Lib.hid (tfin (y := y) (c := 5) (p := (pos : Int)) (nm := ⟨#[]⟩) (ia := none) (va := p) (ta := none) (ea := none) (tn := 0) (tc := 0) (en := 0) (ec := 0) (B := sb + 1) (by rw [HYX.out]; exact hstF) hxF hrw hpl (by omega) (fun hf => by
        rw [HYX.out] at hf ⊢
        exact VS.node (code := 5) (name := []) (Or.inl ⟨rfl, rfl⟩) (Or.inr (VX.ext (b := sb) (((Ext.refl sb wv).set 0 _).set 4 _) (by omega) ((hv hf).base (by omega)))) (Or.inl ⟨rfl, rfl⟩) (Or.inl ⟨rfl, rfl⟩)))
      clear hv hstv hxv hxv' hsta hxa hka hstF hxF hkF HC hst3 hk3 hr3 hx3
      have ks : ∀ i, wv.cell? ⟨sb, i, none⟩ = (#[.int .i64 0, .int .i64 (pos : Int), .string ⟨#[]⟩, .pointer none, .pointer none, .slice none 0 0, .slice none 0 0] : Array Value)[i]? := fun i => cell_blk hkv
      have zs : ∀ i, wv.frozen? ⟨sb, i, none⟩ = false := fun i => frozen_blk hkv
      have kr : ∀ i, wv.cell? ⟨rb0, i, none⟩ = (#[.int .i64 0, .int .i64 0, .string ⟨#[]⟩, .pointer none, .pointer none, .slice none 0 0, .slice none 0 0] : Array Value)[i]? := fun i => cell_blk hrv
      have zr : ∀ i, wv.frozen? ⟨rb0, i, none⟩ = false := fun i => frozen_blk hrv
      have hrl := lt_blk hrv
      have hsl := lt_blk hkv
      clear hkv hrv
      go_wp2_with fail
      exact bodyPost_ret (v := .agg (scells 5 pos ⟨#[]⟩ (.pointer none) (.pointer p) (.slice none 0 0) (.slice none 0 0))) (by simp [results, Tryz.results42, go_sem, kr, scells]) rfl HF.out
    | false =>
      rw [tk_false ht2] at hst3
      have hn2 : ¬ tx r = Tp.wWrite := fun e => of_decide_eq_false ht2 ⟨rfl, e⟩
      clear ht2
      go_wp2_with fail
      refine (rtake_s hst3 Tp.wWhile (by decide) _ rfl).mono ?_
      rintro e w4 ⟨rfl, hst4, hxx⟩
      have hk4 := (hxx.block sb (lt_blk hk3) (by omega)).trans hk3
      have hr4 := (hxx.block rb0 (lt_blk hr3) (by omega)).trans hr3
      have hx4 := hx3.trans hxx
      clear hst3 hk3 hr3 hx3 hxx
      cases ht3 : tk Tp.wWhile (r, fine) with
      | true =>
        obtain ⟨_, htx, htS⟩ := tk_true ht3
        rw [htS] at hst4
        have htx : tx r = Tp.wWhile := htx
        have hy := HY.out
        rw [if_neg hn1, if_neg hn2, if_pos htx] at hy
        obtain ⟨x, hx0, hyx⟩ := bind_some' hy
        obtain ⟨z, hz, hyz⟩ := bind_some' hyx
        have HYZ : Hid (y = ([⟨3, pos, [], [], x.1, z.1, []⟩], mu Tp.wEnd z.2)) := (Option.some.inj hyz).symm
        have HZ := Lib.hid hz
        have HC := Lib.hid (rvalue_s hst4 g x hx0)
        have hszk := hx4.size
        have hlsk := lt_blk hk4
        clear htx htS hy hx0 hyx hz hyz ht3
        go_wp2_with fail
        refine HC.out.mono ?_
        rintro e wv ⟨p, rfl, hv, hstv, hxv⟩
        have hkv : wv.heap[sb]? = some (.cells #[.int .i64 0, .int .i64 (pos : Int), .string ⟨#[]⟩, .pointer none, .pointer none, .slice none 0 0, .slice none 0 0] 97 (0, 0)) := (hxv.block sb (lt_blk hk4) (by omega)).trans hk4
        have hrv := (hxv.block rb0 (lt_blk hr4) (by omega)).trans hr4
        have hxv' := hx4.trans hxv
        have c0 : wv.cell? ⟨sb, 0, none⟩ = some (.int .i64 0) := cell_blk hkv
        have c4 : wv.cell? ⟨sb, 4, none⟩ = some (.pointer none) := cell_blk hkv
        have z0 : wv.frozen? ⟨sb, 0, none⟩ = false := frozen_blk hkv
        have z4 : wv.frozen? ⟨sb, 4, none⟩ = false := frozen_blk hkv
        obtain ⟨hsta, hxa, hka⟩ := fld (i := 0) (v := .int .i64 3) hstv hxv' hkv hsw hpl
        obtain ⟨hst5, hx5, hk5⟩ := fld (i := 4) (v := .pointer p) hsta hxa hka hsw hpl
        have hk5 : ((wv.setCell ⟨sb, 0, none⟩ (.int .i64 3)).setCell ⟨sb, 4, none⟩ (.pointer p)).heap[sb]? = some (.cells #[.int .i64 3, .int .i64 (pos : Int), .string ⟨#[]⟩, .pointer none, .pointer p, .slice none 0 0, .slice none 0 0] 97 (0, 0)) := hk5
        have hr5 : ((wv.setCell ⟨sb, 0, none⟩ (.int .i64 3)).setCell ⟨sb, 4, none⟩ (.pointer p)).heap[rb0]? = some (.cells #[.int .i64 0, .int .i64 0, .string ⟨#[]⟩, .pointer none, .pointer none, .slice none 0 0, .slice none 0 0] 97 (0, 0)) := by rw [Below.heap_setCell _ _ _ _ (by simp; omega), Below.heap_setCell _ _ _ _ (by simp; omega)]; exact hrv
        have HV5 : Hid (x.2.2 = fine → VX (sb + 1) x.1 (.pointer p) ((wv.setCell ⟨sb, 0, none⟩ (.int .i64 3)).setCell ⟨sb, 4, none⟩ (.pointer p))) := fun hf => VX.ext (b := sb) (((Ext.refl sb wv).set 0 _).set 4 _) (by omega) ((hv hf).base (by omega))
        clear hv hstv hxv hxv' hsta hxa hka hkv hrv HC hst4 hk4 hr4 hx4
        go_wp2_with fail
        clear c0 c4 z0 z4
        generalize (wv.setCell ⟨sb, 0, none⟩ (.int .i64 3)).setCell ⟨sb, 4, none⟩ (.pointer p) = w5 at *
        refine (rmust_s hst5 Tp.wDo (by decide) _ rfl).mono ?_
        rintro e w6 ⟨rfl, hst6, hxx⟩
        have hk6 := (hxx.block sb (lt_blk hk5) (by omega)).trans hk5
        have hr6 := (hxx.block rb0 (lt_blk hr5) (by omega)).trans hr5
        have hx6 := hx5.trans hxx
        have HV6 : Hid (x.2.2 = fine → VX (sb + 1) x.1 (.pointer p) w6) := fun hf => VX.ext hxx (by omega) (HV5.out hf)
        have HMF : Hid ((mu Tp.wDo x.2).2 = fine → x.2.2 = fine) := fun hf => mu_fine hf
        clear hst5 hk5 hr5 hx5 hxx HV5
        generalize mu Tp.wDo x.2 = s2 at *
        obtain ⟨r2, b2⟩ := s2
        have hst6 : RS w6 q ts r2 b2 := hst6
        by_cases hf2 : b2 = fine
        rotate_left
        · have hzz : z = ([], (r2, b2)) := by
            have := HZ.out
            unfold blk at this
            rw [if_neg hf2] at this
            exact (Option.some.inj this).symm
          subst hzz
          have HNF := Lib.hid hf2
          have HB := Lib.hid (rok_b hst6 hf2)
          clear hf2 HZ
          go_wp2_with fail
          refine HB.out.mono ?_
          rintro e w7 ⟨rfl, hb7⟩
          have hst7 : RX w7 q ts (r2, b2) := hst6.below hb7
          have hk7 := (hb7.block sb (lt_blk hk6)).trans hk6
          have hr7 := (hb7.block rb0 (lt_blk hr6)).trans hr6
          have hx7 := hx6.trans (Ext.below hb7)
          clear HB hst6 hk6 hr6 hx6 hb7
          go_wp2_with fail
          refine (rmust_s hst7 Tp.wEnd (by decide) _ rfl).mono ?_
          rintro e w8 ⟨rfl, hst8, hxx⟩
          have hk8 := (hxx.block sb (lt_blk hk7) (by omega)).trans hk7
          have hr8 := (hxx.block rb0 (lt_blk hr7) (by omega)).trans hr7
          have hx8 := hx7.trans hxx
          have HF := Lib.hid (tfin (y := y) (c := 3) (p := (pos : Int)) (nm := ⟨#[]⟩) (ia := none) (va := p) (ta := none) (ea := none) (tn := 0) (tc := 0) (en := 0) (ec := 0) (B := sb + 1) (by rw [HYZ.out]; exact hst8) hx8 hrw hpl (by omega) (fun hf => by
            rw [HYZ.out] at hf
            exact absurd (mu_fine hf) HNF.out))
          clear hst7 hk7 hr7 hx7 hst8 hxx hx8
          have ks : ∀ i, w8.cell? ⟨sb, i, none⟩ = (#[.int .i64 3, .int .i64 (pos : Int), .string ⟨#[]⟩, .pointer none, .pointer p, .slice none 0 0, .slice none 0 0] : Array Value)[i]? := fun i => cell_blk hk8
          have zs : ∀ i, w8.frozen? ⟨sb, i, none⟩ = false := fun i => frozen_blk hk8
          have kr : ∀ i, w8.cell? ⟨rb0, i, none⟩ = (#[.int .i64 0, .int .i64 0, .string ⟨#[]⟩, .pointer none, .pointer none, .slice none 0 0, .slice none 0 0] : Array Value)[i]? := fun i => cell_blk hr8
          have zr : ∀ i, w8.frozen? ⟨rb0, i, none⟩ = false := fun i => frozen_blk hr8
          have hrl := lt_blk hr8
          have hsl := lt_blk hk8
          clear hk8 hr8
          go_wp2_with fail
          exact bodyPost_ret (v := .agg (scells 3 pos ⟨#[]⟩ (.pointer none) (.pointer p) (.slice none 0 0) (.slice none 0 0))) (by simp [results, Tryz.results42, go_sem, kr, scells]) rfl HF.out
        · subst hf2
          have hz : nsx g 0 (deep + 1) 0 [] (r2, fine) = some z := by
            have := HZ.out
            unfold blk at this
            rw [if_pos rfl] at this
            exact this
          have HXF : Hid (x.2.2 = fine) := HMF.out rfl
          have HC := Lib.hid (fun W hW => HS.out W r2 z hW hz)
          clear hz HZ HMF
          go_wp2_with fail
          refine (rok_f hst6).mono ?_
          rintro e w7 ⟨rfl, hb7⟩
          have hst7 : RS w7 q ts r2 fine := hst6.below hb7
          have hk7 := (hb7.block sb (lt_blk hk6)).trans hk6
          have hr7 := (hb7.block rb0 (lt_blk hr6)).trans hr6
          have hx7 := hx6.trans (Ext.below hb7)
          have HV7 := Lib.hid (VX.ext (b := q.rb) (Ext.below hb7) (by omega) (HV6.out HXF.out))
          have hls7 := lt_blk hk7
          clear hst6 hk6 hr6 hx6 hb7 HV6 HXF
          go_wp2_with fail
          refine (HC.out w7 hst7).mono ?_
          rintro e w8 ⟨ta, tn, tc, rfl, hl8, hst8, hxx⟩
          have hk8 := (hxx.block sb (lt_blk hk7) (by omega)).trans hk7
          have hr8 := (hxx.block rb0 (lt_blk hr7) (by omega)).trans hr7
          have hx8 := hx7.trans hxx
          have HV8 := Lib.hid (VX.ext hxx (by omega) HV7.out)
          have c5 : w8.cell? ⟨sb, 5, none⟩ = some (.slice none 0 0) := cell_blk hk8
          have z5 : w8.frozen? ⟨sb, 5, none⟩ = false := frozen_blk hk8
          obtain ⟨hst9, hx9, hk9⟩ := fld (i := 5) (v := .slice ta tn tc) hst8 hx8 hk8 hsw hpl
          have hk9 : (w8.setCell ⟨sb, 5, none⟩ (.slice ta tn tc)).heap[sb]? = some (.cells #[.int .i64 3, .int .i64 (pos : Int), .string ⟨#[]⟩, .pointer none, .pointer p, .slice ta tn tc, .slice none 0 0] 97 (0, 0)) := hk9
          have hr9 : (w8.setCell ⟨sb, 5, none⟩ (.slice ta tn tc)).heap[rb0]? = some (.cells #[.int .i64 0, .int .i64 0, .string ⟨#[]⟩, .pointer none, .pointer none, .slice none 0 0, .slice none 0 0] 97 (0, 0)) := by rw [Below.heap_setCell _ _ _ _ (by simp; omega)]; exact hr8
          have HV9 := Lib.hid (VX.ext (b := sb) ((Ext.refl sb w8).set 5 (.slice ta tn tc)) (by omega) HV8.out)
          have HL9 : Hid (z.2.2 = fine → VL (sb + 1) z.1 (.slice ta tn tc) (w8.setCell ⟨sb, 5, none⟩ (.slice ta tn tc))) := fun hf => VL.ext (b := sb) ((Ext.refl sb w8).set 5 _) (by omega) ((hl8 hf).base (by omega))
          clear hst7 hk7 hr7 hx7 hl8 hst8 hxx hk8 hr8 hx8 HV7 HV8 HC
          go_wp2_with fail
          clear c5 z5
          generalize w8.setCell ⟨sb, 5, none⟩ (.slice ta tn tc) = w9 at *
          refine (rmust_s hst9 Tp.wEnd (by decide) _ rfl).mono ?_
          rintro e w10 ⟨rfl, hst10, hxx⟩
          have hk10 := (hxx.block sb (lt_blk hk9) (by omega)).trans hk9
          have hr10 := (hxx.block rb0 (lt_blk hr9) (by omega)).trans hr9
          have hx10 := hx9.trans hxx
          have HV10 := Lib.hid (VX.ext hxx (by omega) HV9.out)
          have HL10 : Hid (z.2.2 = fine → VL (sb + 1) z.1 (.slice ta tn tc) w10) := fun hf => VL.ext hxx (by omega) (HL9.out hf)
          have HF := Lib.hid (tfin (y := y) (c := 3) (p := (pos : Int)) (nm := ⟨#[]⟩) (ia := none) (va := p) (ta := ta) (ea := none) (tn := tn) (tc := tc) (en := 0) (ec := 0) (B := sb + 1) (by rw [HYZ.out]; exact hst10) hx10 hrw hpl (by omega) (fun hf => by
            rw [HYZ.out] at hf ⊢
            exact VS.node (code := 3) (name := []) (Or.inl ⟨rfl, rfl⟩) (Or.inr HV10.out) (Or.inr (HL10.out (mu_fine hf))) (Or.inl ⟨rfl, rfl⟩)))
          clear hst9 hk9 hr9 hx9 hst10 hxx hx10
          have ks : ∀ i, w10.cell? ⟨sb, i, none⟩ = (#[.int .i64 3, .int .i64 (pos : Int), .string ⟨#[]⟩, .pointer none, .pointer p, .slice ta tn tc, .slice none 0 0] : Array Value)[i]? := fun i => cell_blk hk10
          have zs : ∀ i, w10.frozen? ⟨sb, i, none⟩ = false := fun i => frozen_blk hk10
          have kr : ∀ i, w10.cell? ⟨rb0, i, none⟩ = (#[.int .i64 0, .int .i64 0, .string ⟨#[]⟩, .pointer none, .pointer none, .slice none 0 0, .slice none 0 0] : Array Value)[i]? := fun i => cell_blk hr10
          have zr : ∀ i, w10.frozen? ⟨rb0, i, none⟩ = false := fun i => frozen_blk hr10
          have hrl := lt_blk hr10
          have hsl := lt_blk hk10
          clear hk10 hr10
          go_wp2_with fail
          exact bodyPost_ret (v := .agg (scells 3 pos ⟨#[]⟩ (.pointer none) (.pointer p) (.slice ta tn tc) (.slice none 0 0))) (by simp [results, Tryz.results42, go_sem, kr, scells]) rfl HF.out
      | false =>
        rw [tk_false ht3] at hst4
        have hn3 : ¬ tx r = Tp.wWhile := fun e => of_decide_eq_false ht3 ⟨rfl, e⟩
        clear ht3
        go_wp2_with fail
        refine (rtake_s hst4 Tp.wIf (by decide) _ rfl).mono ?_
        rintro e w5 ⟨rfl, hst5, hxx⟩
        have hk5 := (hxx.block sb (lt_blk hk4) (by omega)).trans hk4
        have hr5 := (hxx.block rb0 (lt_blk hr4) (by omega)).trans hr4
        have hx5 := hx4.trans hxx
        clear hst4 hk4 hr4 hx4 hxx
        cases ht4 : tk Tp.wIf (r, fine) with
        | true =>
          obtain ⟨_, htx, htS⟩ := tk_true ht4
          rw [htS] at hst5
          have htx : tx r = Tp.wIf := htx
          have hst5 : RS w5 q ts (stp r) fine := hst5
          have hy := HY.out
          rw [if_neg hn1, if_neg hn2, if_neg hn3, if_pos htx] at hy
          obtain ⟨u, hu, hyu⟩ := bind_some' hy
          have HYU : Hid (y = (u.1, mu Tp.wEnd u.2)) := (Option.some.inj hyu).symm
          have HC := Lib.hid (HK.out w5 (stp r) pos sb 0 u hst5 hk5 hqs hu)
          have hlsk := lt_blk hk5
          clear htx htS hy hu hyu ht4
          go_wp2_with fail
          refine HC.out.mono ?_
          rintro e w6 ⟨rfl, va, ta, ea, tn, tc, en, ec, hk6, hv6, hst6, hxx⟩
          have hr6 := (hxx.block rb0 (lt_blk hr5) (by omega) (by omega)).trans hr5
          have hx6 := X2.back hx5 hxx hsw
          have HV6 : Hid (u.2.2 = fine → VS (sb + 1) u.1 (.agg (scells 2 pos ⟨#[]⟩ (.pointer none) (.pointer va) (.slice ta tn tc) (.slice ea en ec))) w6) := fun hf => (hv6 hf).base (by omega)
          clear hst5 hk5 hr5 hx5 hxx hv6 HC
          go_wp2_with fail
          refine (rmust_s hst6 Tp.wEnd (by decide) _ rfl).mono ?_
          rintro e w7 ⟨rfl, hst7, hxx⟩
          have hk7 : w7.heap[sb]? = some (.cells #[.int .i64 2, .int .i64 (pos : Int), .string ⟨#[]⟩, .pointer none, .pointer va, .slice ta tn tc, .slice ea en ec] 97 (0, 0)) := (hxx.block sb (lt_blk hk6) (by omega)).trans hk6
          have hr7 := (hxx.block rb0 (lt_blk hr6) (by omega)).trans hr6
          have hx7 := hx6.trans hxx
          have HF := Lib.hid (tfin (y := y) (c := 2) (p := (pos : Int)) (nm := ⟨#[]⟩) (ia := none) (va := va) (ta := ta) (ea := ea) (tn := tn) (tc := tc) (en := en) (ec := ec) (B := sb + 1) (by rw [HYU.out]; exact hst7) hx7 hrw hpl (by omega) (fun hf => by
            rw [HYU.out] at hf ⊢
            exact VS.ext hxx (by omega) (HV6.out (mu_fine hf))))
          clear hst6 hk6 hr6 hx6 hst7 hxx hx7
          have ks : ∀ i, w7.cell? ⟨sb, i, none⟩ = (#[.int .i64 2, .int .i64 (pos : Int), .string ⟨#[]⟩, .pointer none, .pointer va, .slice ta tn tc, .slice ea en ec] : Array Value)[i]? := fun i => cell_blk hk7
          have zs : ∀ i, w7.frozen? ⟨sb, i, none⟩ = false := fun i => frozen_blk hk7
          have kr : ∀ i, w7.cell? ⟨rb0, i, none⟩ = (#[.int .i64 0, .int .i64 0, .string ⟨#[]⟩, .pointer none, .pointer none, .slice none 0 0, .slice none 0 0] : Array Value)[i]? := fun i => cell_blk hr7
          have zr : ∀ i, w7.frozen? ⟨rb0, i, none⟩ = false := fun i => frozen_blk hr7
          have hrl := lt_blk hr7
          have hsl := lt_blk hk7
          clear hk7 hr7
          go_wp2_with fail
          exact bodyPost_ret (v := .agg (scells 2 pos ⟨#[]⟩ (.pointer none) (.pointer va) (.slice ta tn tc) (.slice ea en ec))) (by simp [results, Tryz.results42, go_sem, kr, scells]) rfl HF.out
        | false =>
          rw [tk_false ht4] at hst5
          have hn4 : ¬ tx r = Tp.wIf := fun e => of_decide_eq_false ht4 ⟨rfl, e⟩
          clear ht4
          go_wp2_with fail
          have hst5 : RS w5 q ts r fine := hst5
          have hy := HY.out
          rw [if_neg hn1, if_neg hn2, if_neg hn3, if_neg hn4] at hy
          obtain ⟨z, hz, hyz⟩ := bind_some' hy
          have HC := Lib.hid (HR.out w5 z hst5 hz)
          have HYZ := Lib.hid hyz
          have hlsk := lt_blk hk5
          have hlrk := lt_blk hr5
          clear hy hz hyz
          refine HC.out.mono ?_
          rintro e w6 ⟨xb, code, m, n', la, aa, an, ac, left, args, rfl, hxb, hkx, hzx, hleft, hvx, hst6, hxx⟩
          have hk6 : w6.heap[sb]? = some (.cells #[.int .i64 0, .int .i64 (pos : Int), .string ⟨#[]⟩, .pointer none, .pointer none, .slice none 0 0, .slice none 0 0] 97 (0, 0)) := (hxx.block sb (lt_blk hk5) (by omega)).trans hk5
          have hr6 := (hxx.block rb0 (lt_blk hr5) (by omega)).trans hr5
          have hx6 := hx5.trans hxx
          have hkx : w6.heap[xb]? = some (.cells #[.int .i64 (code : Int), .int .i64 (pos : Int), .int .i64 0, .string (bs m), .string (bs n'), .string ⟨#[]⟩, .pointer la, .pointer none, .slice aa an ac] 108 (0, 0)) := hkx
          have hsx : sb < xb := by omega
          have HVX : Hid (z.2.2 = fine → VX (sb + 1) z.1 (.pointer (some ⟨xb, 0, none⟩)) w6) := fun hf => (hvx hf).base (by omega)
          have HLF : Hid (left = [] ∧ la = none ∨ (z.2.2 = fine → VX (sb + 1) left (.pointer la) w6)) := hleft.imp id fun h hf => (h hf).base (by omega)
          have HZX := Lib.hid hzx
          clear hst5 hk5 hr5 hx5 hxx hvx hleft hzx HC
          have x0 : w6.cell? ⟨xb, 0, none⟩ = some (.int .i64 (code : Int)) := cell_blk hkx
          have x3 : w6.cell? ⟨xb, 3, none⟩ = some (.string (bs m)) := cell_blk hkx
          have hxl := lt_blk hkx
          by_cases hc6 : code = 6
          · subst hc6
            have HY6 : Hid (y = ([⟨6, pos, [], [], z.1, [], []⟩], z.2)) := by
              have := HYZ.out
              rw [if_pos (by rw [HZX.out]; rfl)] at this
              exact (Option.some.inj this).symm
            obtain ⟨hsta, hxa, hka⟩ := fld (i := 0) (v := .int .i64 6) hst6 hx6 hk6 hsw hpl
            obtain ⟨hstF, hxF, hkF⟩ := fld (i := 4) (v := .pointer (some ⟨xb, 0, none⟩)) hsta hxa hka hsw hpl
            have HF := Lib.hid (tfin (y := y) (c := 6) (p := (pos : Int)) (nm := ⟨#[]⟩) (ia := none) (va := some ⟨xb, 0, none⟩) (ta := none) (ea := none) (tn := 0) (tc := 0) (en := 0) (ec := 0) (B := sb + 1) (by rw [HY6.out]; exact hstF) hxF hrw hpl (by omega) (fun hf => by
              rw [HY6.out] at hf ⊢
              exact VS.node (code := 6) (name := []) (Or.inl ⟨rfl, rfl⟩) (Or.inr (VX.ext (b := sb) (((Ext.refl sb w6).set 0 _).set 4 _) (by omega) (HVX.out hf))) (Or.inl ⟨rfl, rfl⟩) (Or.inl ⟨rfl, rfl⟩)))
            clear hsta hxa hka hstF hxF hkF hst6 hx6 HYZ hkx
            have ks : ∀ i, w6.cell? ⟨sb, i, none⟩ = (#[.int .i64 0, .int .i64 (pos : Int), .string ⟨#[]⟩, .pointer none, .pointer none, .slice none 0 0, .slice none 0 0] : Array Value)[i]? := fun i => cell_blk hk6
            have zs : ∀ i, w6.frozen? ⟨sb, i, none⟩ = false := fun i => frozen_blk hk6
            have kr : ∀ i, w6.cell? ⟨rb0, i, none⟩ = (#[.int .i64 0, .int .i64 0, .string ⟨#[]⟩, .pointer none, .pointer none, .slice none 0 0, .slice none 0 0] : Array Value)[i]? := fun i => cell_blk hr6
            have zr : ∀ i, w6.frozen? ⟨rb0, i, none⟩ = false := fun i => frozen_blk hr6
            have hrl := lt_blk hr6
            have hsl := lt_blk hk6
            clear hk6 hr6
            go_wp2_with fail
            exact bodyPost_ret (v := .agg (scells 6 pos ⟨#[]⟩ (.pointer none) (.pointer (some ⟨xb, 0, none⟩)) (.slice none 0 0) (.slice none 0 0))) (by simp [results, Tryz.results42, go_sem, kr, scells]) rfl HF.out
          · have hc6' : ((code : Int) == 6) = false := by simp; omega
            have hy1 : ∃ u, nval g (mu Tp.mSet (if z.2.2 = fine ∧ m ≠ [] then fl 3 z.2 else z.2)) = some u ∧ y = ([⟨1, pos, n', left, u.1, [], []⟩], u.2) := by
              have := HYZ.out
              rw [if_neg (by rw [HZX.out]; exact hc6)] at this
              obtain ⟨u, h1, h2⟩ := bind_some' this
              rw [HZX.out] at h1 h2
              exact ⟨u, h1, (Option.some.inj h2).symm⟩
            obtain ⟨u, hu, hyu⟩ := hy1
            have HU := Lib.hid hu
            have HYU := Lib.hid hyu
            have HZF : Hid (u.2.2 = fine → z.2.2 = fine) := fun hf => s3_back (mu_fine (nval_back HU.out hf))
            clear hu hyu HYZ hc6 HZX HVX
            generalize hz2 : z.2 = zs at *
            clear hz2
            obtain ⟨rz, bz⟩ := zs
            have hst6 : RS w6 q ts rz bz := hst6
            have HLF : Hid (left = [] ∧ la = none ∨ (bz = fine → VX (sb + 1) left (.pointer la) w6)) := HLF
            have HZF : Hid (u.2.2 = fine → bz = fine) := HZF
            by_cases hzf : bz = fine
            rotate_left
            · have hs3 : (if (rz, bz).2 = fine ∧ m ≠ [] then fl 3 (rz, bz) else (rz, bz)) = (rz, bz) := if_neg (fun h => hzf h.1)
              rw [hs3] at HU
              have HB := Lib.hid (rok_b hst6 hzf)
              clear hs3 hzf
              go_wp2_with fail
              refine HB.out.mono ?_
              rintro e w7 ⟨rfl, hb7⟩
              have hst7 : RX w7 q ts (rz, bz) := hst6.below hb7
              have hk7 := (hb7.block sb (lt_blk hk6)).trans hk6
              have hr7 := (hb7.block rb0 (lt_blk hr6)).trans hr6
              have hkx7 := (hb7.block xb (lt_blk hkx)).trans hkx
              have hx7 := hx6.trans (Ext.below hb7)
              have HL7 : Hid (left = [] ∧ la = none ∨ (bz = fine → VX (sb + 1) left (.pointer la) w7)) := HLF.out.imp id fun h hf => VX.ext (b := q.rb) (Ext.below hb7) (by omega) (h hf)
              clear hst6 hk6 hr6 hkx hx6 hb7 HB HLF x0 x3
              have x4 : w7.cell? ⟨xb, 4, none⟩ = some (.string (bs n')) := cell_blk hkx7
              have x6 : w7.cell? ⟨xb, 6, none⟩ = some (.pointer la) := cell_blk hkx7
              have c0 : w7.cell? ⟨sb, 0, none⟩ = some (.int .i64 0) := cell_blk hk7
              have c2 : w7.cell? ⟨sb, 2, none⟩ = some (.string ⟨#[]⟩) := cell_blk hk7
              have c3 : w7.cell? ⟨sb, 3, none⟩ = some (.pointer none) := cell_blk hk7
              have z0 : w7.frozen? ⟨sb, 0, none⟩ = false := frozen_blk hk7
              have z2 : w7.frozen? ⟨sb, 2, none⟩ = false := frozen_blk hk7
              have z3 : w7.frozen? ⟨sb, 3, none⟩ = false := frozen_blk hk7
              have hxl7 := lt_blk hkx7
              have hsl7 := lt_blk hk7
              obtain ⟨hsta, hxa, hka⟩ := fld (i := 0) (v := .int .i64 1) hst7 hx7 hk7 hsw hpl
              obtain ⟨hstb, hxb2, hkb⟩ := fld (i := 2) (v := .string (bs n')) hsta hxa hka hsw hpl
              obtain ⟨hstc, hxc, hkc⟩ := fld (i := 3) (v := .pointer la) hstb hxb2 hkb hsw hpl
              have hbd := below_drew (((w7.setCell ⟨sb, 0, none⟩ (.int .i64 1)).setCell ⟨sb, 2, none⟩ (.string (bs n'))).setCell ⟨sb, 3, none⟩ (.pointer la))
              have hst9 : RX (((w7.setCell ⟨sb, 0, none⟩ (.int .i64 1)).setCell ⟨sb, 2, none⟩ (.string (bs n'))).setCell ⟨sb, 3, none⟩ (.pointer la)).drew q ts (rz, bz) := hstc.below hbd
              have hx9 := hxc.trans (Ext.below hbd)
              have hk9 : (((w7.setCell ⟨sb, 0, none⟩ (.int .i64 1)).setCell ⟨sb, 2, none⟩ (.string (bs n'))).setCell ⟨sb, 3, none⟩ (.pointer la)).drew.heap[sb]? = some (.cells #[.int .i64 1, .int .i64 (pos : Int), .string (bs n'), .pointer la, .pointer none, .slice none 0 0, .slice none 0 0] 97 (0, 0)) := (hbd.block sb (lt_blk hkc)).trans hkc
              have hr9 : (((w7.setCell ⟨sb, 0, none⟩ (.int .i64 1)).setCell ⟨sb, 2, none⟩ (.string (bs n'))).setCell ⟨sb, 3, none⟩ (.pointer la)).drew.heap[rb0]? = some (.cells #[.int .i64 0, .int .i64 0, .string ⟨#[]⟩, .pointer none, .pointer none, .slice none 0 0, .slice none 0 0] 97 (0, 0)) := by
                have hrr : (((w7.setCell ⟨sb, 0, none⟩ (.int .i64 1)).setCell ⟨sb, 2, none⟩ (.string (bs n'))).setCell ⟨sb, 3, none⟩ (.pointer la)).heap[rb0]? = w7.heap[rb0]? := by rw [Below.heap_setCell _ _ _ _ (by simp; omega), Below.heap_setCell _ _ _ _ (by simp; omega), Below.heap_setCell _ _ _ _ (by simp; omega)]
                exact (hbd.block rb0 (by rw [← hrr] at hr7; exact lt_blk hr7)).trans (hrr.trans hr7)
              have HL9 : Hid (left = [] ∧ la = none ∨ (bz = fine → VX (sb + 1) left (.pointer la) (((w7.setCell ⟨sb, 0, none⟩ (.int .i64 1)).setCell ⟨sb, 2, none⟩ (.string (bs n'))).setCell ⟨sb, 3, none⟩ (.pointer la)).drew)) := HL7.out.imp id fun h hf => VX.ext (b := q.rb) (Ext.below hbd) (by omega) (VX.ext (b := sb) ((((Ext.refl sb _).set 0 _).set 2 _).set 3 _) (by omega) (h hf))
              have HC9 := Lib.hid (rmust_s hst9 Tp.mSet (by decide) _ (rfl : Hid (_ = bs Tp.mSet)))
              clear hbd hsta hxa hka hstb hxb2 hkb hstc hxc hkc hst9 hst7 hk7 hr7 hkx7 hx7 HL7
              go_wp2_with fail
              go_region
              all_goals
                clear x4 x6 c0 c2 c3 z0 z2 z3
                go_wp2_with fail
                generalize (((w7.setCell ⟨sb, 0, none⟩ (.int .i64 1)).setCell ⟨sb, 2, none⟩ (.string (bs n'))).setCell ⟨sb, 3, none⟩ (.pointer la)).drew = w9 at *
                refine HC9.out.mono ?_
                rintro e w10 ⟨rfl, hst10, hxx⟩
                have hk10 := (hxx.block sb (lt_blk hk9) (by omega)).trans hk9
                have hr10 := (hxx.block rb0 (lt_blk hr9) (by omega)).trans hr9
                have hx10 := hx9.trans hxx
                have hls10 := lt_blk hk10
                have HL10 : Hid (left = [] ∧ la = none ∨ (bz = fine → VX (sb + 1) left (.pointer la) w10)) := HL9.out.imp id fun h hf => VX.ext hxx (by omega) (h hf)
                have HC := Lib.hid (rvalue_s hst10 g u HU.out)
                clear hk9 hr9 hx9 HL9 HC9 hst10 hxx
                go_wp2_with fail
                refine HC.out.mono ?_
                rintro e w11 ⟨p, rfl, hv, hst11, hxx⟩
                have hk11 : w11.heap[sb]? = some (.cells #[.int .i64 1, .int .i64 (pos : Int), .string (bs n'), .pointer la, .pointer none, .slice none 0 0, .slice none 0 0] 97 (0, 0)) := (hxx.block sb (lt_blk hk10) (by omega)).trans hk10
                have hr11 := (hxx.block rb0 (lt_blk hr10) (by omega)).trans hr10
                have hx11 := hx10.trans hxx
                have HL11 : Hid (left = [] ∧ la = none ∨ (bz = fine → VX (sb + 1) left (.pointer la) w11)) := HL10.out.imp id fun h hf => VX.ext hxx (by omega) (h hf)
                obtain ⟨hstF, hxF, hkF⟩ := fld (i := 4) (v := .pointer p) hst11 hx11 hk11 hsw hpl
                have HF := Lib.hid (tfin (y := y) (c := 1) (p := (pos : Int)) (nm := bs n') (ia := la) (va := p) (ta := none) (ea := none) (tn := 0) (tc := 0) (en := 0) (ec := 0) (B := sb + 1) (by rw [HYU.out]; exact hstF) hxF hrw hpl (by omega) (fun hf => by
                  rw [HYU.out] at hf ⊢
                  have hv2 := VX.ext (b := sb) ((Ext.refl sb w11).set 4 (.pointer p)) (show sb < sb + 1 by omega) ((hv hf).base (show sb + 1 ≤ w10.heap.size by omega))
                  refine VS.node (code := 1) (name := n') ?_ (Or.inr hv2) (Or.inl ⟨rfl, rfl⟩) (Or.inl ⟨rfl, rfl⟩)
                  rcases HL11.out with ⟨h1, h2⟩ | h1
                  · exact Or.inl ⟨h1, by rw [h2]⟩
                  · exact Or.inr (VX.ext (b := sb) ((Ext.refl sb w11).set 4 _) (by omega) (h1 (HZF.out hf)))))
                clear hv hst11 hxx hx11 hstF hxF hkF hk10 hr10 hx10 HL10 HL11 HC HU
                have ks : ∀ i, w11.cell? ⟨sb, i, none⟩ = (#[.int .i64 1, .int .i64 (pos : Int), .string (bs n'), .pointer la, .pointer none, .slice none 0 0, .slice none 0 0] : Array Value)[i]? := fun i => cell_blk hk11
                have zs : ∀ i, w11.frozen? ⟨sb, i, none⟩ = false := fun i => frozen_blk hk11
                have kr : ∀ i, w11.cell? ⟨rb0, i, none⟩ = (#[.int .i64 0, .int .i64 0, .string ⟨#[]⟩, .pointer none, .pointer none, .slice none 0 0, .slice none 0 0] : Array Value)[i]? := fun i => cell_blk hr11
                have zr : ∀ i, w11.frozen? ⟨rb0, i, none⟩ = false := fun i => frozen_blk hr11
                have hrl := lt_blk hr11
                have hsl := lt_blk hk11
                clear hk11 hr11
                go_wp2_with fail
                exact bodyPost_ret (v := .agg (scells 1 pos (bs n') (.pointer la) (.pointer p) (.slice none 0 0) (.slice none 0 0))) (by simp [results, Tryz.results42, go_sem, kr, scells]) rfl HF.out
            · subst hzf
              have HLG : Hid (left = [] ∧ la = none ∨ VX (sb + 1) left (.pointer la) w6) := HLF.out.imp id fun h => h rfl
              clear HLF
              have HB := Lib.hid (rok_f hst6)
              by_cases hm : m = []
              · subst hm
                have hs3 : (if ((rz, fine) : Sx).2 = fine ∧ ([] : List UInt8) ≠ [] then fl 3 (rz, fine) else (rz, fine)) = (rz, fine) := if_neg (fun h => h.2 rfl)
                rw [hs3] at HU
                clear hs3
                have x3' : w6.cell? ⟨xb, 3, none⟩ = some (.string ⟨#[]⟩) := x3
                clear x3
                go_wp2_with fail
                refine HB.out.mono ?_
                rintro e w7 ⟨rfl, hb7⟩
                have hst7 : RX w7 q ts (rz, fine) := hst6.below hb7
                have hk7 := (hb7.block sb (lt_blk hk6)).trans hk6
                have hr7 := (hb7.block rb0 (lt_blk hr6)).trans hr6
                have hkx7 := (hb7.block xb (lt_blk hkx)).trans hkx
                have hx7 := hx6.trans (Ext.below hb7)
                have HL7 : Hid (left = [] ∧ la = none ∨ VX (sb + 1) left (.pointer la) w7) := HLG.out.imp id fun h => VX.ext (b := q.rb) (Ext.below hb7) (by omega) h
                have y3 : w7.cell? ⟨xb, 3, none⟩ = some (.string ⟨#[]⟩) := cell_blk hkx7
                clear hst6 hk6 hr6 hkx hx6 hb7 HB HLG x0 x3'
                have x4 : w7.cell? ⟨xb, 4, none⟩ = some (.string (bs n')) := cell_blk hkx7
                have x6 : w7.cell? ⟨xb, 6, none⟩ = some (.pointer la) := cell_blk hkx7
                have c0 : w7.cell? ⟨sb, 0, none⟩ = some (.int .i64 0) := cell_blk hk7
                have c2 : w7.cell? ⟨sb, 2, none⟩ = some (.string ⟨#[]⟩) := cell_blk hk7
                have c3 : w7.cell? ⟨sb, 3, none⟩ = some (.pointer none) := cell_blk hk7
                have z0 : w7.frozen? ⟨sb, 0, none⟩ = false := frozen_blk hk7
                have z2 : w7.frozen? ⟨sb, 2, none⟩ = false := frozen_blk hk7
                have z3 : w7.frozen? ⟨sb, 3, none⟩ = false := frozen_blk hk7
                have hxl7 := lt_blk hkx7
                have hsl7 := lt_blk hk7
                obtain ⟨hsta, hxa, hka⟩ := fld (i := 0) (v := .int .i64 1) hst7 hx7 hk7 hsw hpl
                obtain ⟨hstb, hxb2, hkb⟩ := fld (i := 2) (v := .string (bs n')) hsta hxa hka hsw hpl
                obtain ⟨hstc, hxc, hkc⟩ := fld (i := 3) (v := .pointer la) hstb hxb2 hkb hsw hpl
                have hbd := below_drew (((w7.setCell ⟨sb, 0, none⟩ (.int .i64 1)).setCell ⟨sb, 2, none⟩ (.string (bs n'))).setCell ⟨sb, 3, none⟩ (.pointer la))
                have hst9 : RX (((w7.setCell ⟨sb, 0, none⟩ (.int .i64 1)).setCell ⟨sb, 2, none⟩ (.string (bs n'))).setCell ⟨sb, 3, none⟩ (.pointer la)).drew q ts (rz, fine) := hstc.below hbd
                have hx9 := hxc.trans (Ext.below hbd)
                have hk9 : (((w7.setCell ⟨sb, 0, none⟩ (.int .i64 1)).setCell ⟨sb, 2, none⟩ (.string (bs n'))).setCell ⟨sb, 3, none⟩ (.pointer la)).drew.heap[sb]? = some (.cells #[.int .i64 1, .int .i64 (pos : Int), .string (bs n'), .pointer la, .pointer none, .slice none 0 0, .slice none 0 0] 97 (0, 0)) := (hbd.block sb (lt_blk hkc)).trans hkc
                have hr9 : (((w7.setCell ⟨sb, 0, none⟩ (.int .i64 1)).setCell ⟨sb, 2, none⟩ (.string (bs n'))).setCell ⟨sb, 3, none⟩ (.pointer la)).drew.heap[rb0]? = some (.cells #[.int .i64 0, .int .i64 0, .string ⟨#[]⟩, .pointer none, .pointer none, .slice none 0 0, .slice none 0 0] 97 (0, 0)) := by
                  have hrr : (((w7.setCell ⟨sb, 0, none⟩ (.int .i64 1)).setCell ⟨sb, 2, none⟩ (.string (bs n'))).setCell ⟨sb, 3, none⟩ (.pointer la)).heap[rb0]? = w7.heap[rb0]? := by rw [Below.heap_setCell _ _ _ _ (by simp; omega), Below.heap_setCell _ _ _ _ (by simp; omega), Below.heap_setCell _ _ _ _ (by simp; omega)]
                  exact (hbd.block rb0 (by rw [← hrr] at hr7; exact lt_blk hr7)).trans (hrr.trans hr7)
                have HL9 : Hid (left = [] ∧ la = none ∨ VX (sb + 1) left (.pointer la) (((w7.setCell ⟨sb, 0, none⟩ (.int .i64 1)).setCell ⟨sb, 2, none⟩ (.string (bs n'))).setCell ⟨sb, 3, none⟩ (.pointer la)).drew) := HL7.out.imp id fun h => VX.ext (b := q.rb) (Ext.below hbd) (by omega) (VX.ext (b := sb) ((((Ext.refl sb _).set 0 _).set 2 _).set 3 _) (by omega) h)
                have HC9 := Lib.hid (rmust_s hst9 Tp.mSet (by decide) _ (rfl : Hid (_ = bs Tp.mSet)))
                clear hbd hsta hxa hka hstb hxb2 hkb hstc hxc hkc hst9 hst7 hk7 hr7 hkx7 hx7 HL7
                go_wp2_with fail
                go_region
                all_goals
                  clear x4 x6 c0 c2 c3 z0 z2 z3
                  go_wp2_with fail
                  generalize (((w7.setCell ⟨sb, 0, none⟩ (.int .i64 1)).setCell ⟨sb, 2, none⟩ (.string (bs n'))).setCell ⟨sb, 3, none⟩ (.pointer la)).drew = w9 at *
                  refine HC9.out.mono ?_
                  rintro e w10 ⟨rfl, hst10, hxx⟩
                  have hk10 := (hxx.block sb (lt_blk hk9) (by omega)).trans hk9
                  have hr10 := (hxx.block rb0 (lt_blk hr9) (by omega)).trans hr9
                  have hx10 := hx9.trans hxx
                  have hls10 := lt_blk hk10
                  have HL10 : Hid (left = [] ∧ la = none ∨ VX (sb + 1) left (.pointer la) w10) := HL9.out.imp id fun h => VX.ext hxx (by omega) h
                  have HC := Lib.hid (rvalue_s hst10 g u HU.out)
                  clear hk9 hr9 hx9 HL9 HC9 hst10 hxx
                  go_wp2_with fail
                  refine HC.out.mono ?_
                  rintro e w11 ⟨p, rfl, hv, hst11, hxx⟩
                  have hk11 : w11.heap[sb]? = some (.cells #[.int .i64 1, .int .i64 (pos : Int), .string (bs n'), .pointer la, .pointer none, .slice none 0 0, .slice none 0 0] 97 (0, 0)) := (hxx.block sb (lt_blk hk10) (by omega)).trans hk10
                  have hr11 := (hxx.block rb0 (lt_blk hr10) (by omega)).trans hr10
                  have hx11 := hx10.trans hxx
                  have HL11 : Hid (left = [] ∧ la = none ∨ VX (sb + 1) left (.pointer la) w11) := HL10.out.imp id fun h => VX.ext hxx (by omega) h
                  obtain ⟨hstF, hxF, hkF⟩ := fld (i := 4) (v := .pointer p) hst11 hx11 hk11 hsw hpl
                  have HF := Lib.hid (tfin (y := y) (c := 1) (p := (pos : Int)) (nm := bs n') (ia := la) (va := p) (ta := none) (ea := none) (tn := 0) (tc := 0) (en := 0) (ec := 0) (B := sb + 1) (by rw [HYU.out]; exact hstF) hxF hrw hpl (by omega) (fun hf => by
                    rw [HYU.out] at hf ⊢
                    have hv2 := VX.ext (b := sb) ((Ext.refl sb w11).set 4 (.pointer p)) (show sb < sb + 1 by omega) ((hv hf).base (show sb + 1 ≤ w10.heap.size by omega))
                    refine VS.node (code := 1) (name := n') ?_ (Or.inr hv2) (Or.inl ⟨rfl, rfl⟩) (Or.inl ⟨rfl, rfl⟩)
                    rcases HL11.out with ⟨h1, h2⟩ | h1
                    · exact Or.inl ⟨h1, by rw [h2]⟩
                    · exact Or.inr (VX.ext (b := sb) ((Ext.refl sb w11).set 4 _) (by omega) h1)))
                  clear hv hst11 hxx hx11 hstF hxF hkF hk10 hr10 hx10 HL10 HL11 HC HU
                  have ks : ∀ i, w11.cell? ⟨sb, i, none⟩ = (#[.int .i64 1, .int .i64 (pos : Int), .string (bs n'), .pointer la, .pointer none, .slice none 0 0, .slice none 0 0] : Array Value)[i]? := fun i => cell_blk hk11
                  have zs : ∀ i, w11.frozen? ⟨sb, i, none⟩ = false := fun i => frozen_blk hk11
                  have kr : ∀ i, w11.cell? ⟨rb0, i, none⟩ = (#[.int .i64 0, .int .i64 0, .string ⟨#[]⟩, .pointer none, .pointer none, .slice none 0 0, .slice none 0 0] : Array Value)[i]? := fun i => cell_blk hr11
                  have zr : ∀ i, w11.frozen? ⟨rb0, i, none⟩ = false := fun i => frozen_blk hr11
                  have hrl := lt_blk hr11
                  have hsl := lt_blk hk11
                  clear hk11 hr11
                  go_wp2_with fail
                  exact bodyPost_ret (v := .agg (scells 1 pos (bs n') (.pointer la) (.pointer p) (.slice none 0 0) (.slice none 0 0))) (by simp [results, Tryz.results42, go_sem, kr, scells]) rfl HF.out
              · have hs3 : (if ((rz, fine) : Sx).2 = fine ∧ m ≠ [] then fl 3 (rz, fine) else (rz, fine)) = fl 3 (rz, fine) := if_pos ⟨rfl, hm⟩
                rw [hs3] at HU
                have hm1 : ((bs m).toList == ([] : List UInt8)) = false := by rw [bs_toList]; simpa using hm
                have hm2 : ((bs m).toList != ([] : List UInt8)) = true := by rw [bs_toList]; simpa using hm
                have hm3 : decide ((bs m).toList = []) = false := by rw [bs_toList]; simpa using hm
                have hm4 : (bs m).toList.isEmpty = false := by rw [bs_toList]; simpa using hm
                clear hs3 hm
                go_wp2_with fail
                refine HB.out.mono ?_
                rintro e w7 ⟨rfl, hb7⟩
                have hst7 : RX w7 q ts (rz, fine) := hst6.below hb7
                have hk7 := (hb7.block sb (lt_blk hk6)).trans hk6
                have hr7 := (hb7.block rb0 (lt_blk hr6)).trans hr6
                have hkx7 := (hb7.block xb (lt_blk hkx)).trans hkx
                have hx7 := hx6.trans (Ext.below hb7)
                have HL7 : Hid (left = [] ∧ la = none ∨ VX (sb + 1) left (.pointer la) w7) := HLG.out.imp id fun h => VX.ext (b := q.rb) (Ext.below hb7) (by omega) h
                have y3 : w7.cell? ⟨xb, 3, none⟩ = some (.string (bs m)) := cell_blk hkx7
                clear hst6 hk6 hr6 hkx hx6 hb7 HB HLG x0 x3
                go_wp2_with fail
                clear y3
                refine (rfails_s hst7 3).mono ?_
                rintro e w8 ⟨rfl, hst8, hxx⟩
                have hk8 := (hxx.block sb (lt_blk hk7) (by omega)).trans hk7
                have hr8 := (hxx.block rb0 (lt_blk hr7) (by omega)).trans hr7
                have hkx8 := (hxx.block xb (lt_blk hkx7) (by omega)).trans hkx7
                have hx8 := hx7.trans hxx
                have HL8 : Hid (left = [] ∧ la = none ∨ VX (sb + 1) left (.pointer la) w8) := HL7.out.imp id fun h => VX.ext hxx (by omega) h
                clear hst7 hk7 hr7 hkx7 hx7 HL7 hxx
                have x4 : w8.cell? ⟨xb, 4, none⟩ = some (.string (bs n')) := cell_blk hkx8
                have x6 : w8.cell? ⟨xb, 6, none⟩ = some (.pointer la) := cell_blk hkx8
                have c0 : w8.cell? ⟨sb, 0, none⟩ = some (.int .i64 0) := cell_blk hk8
                have c2 : w8.cell? ⟨sb, 2, none⟩ = some (.string ⟨#[]⟩) := cell_blk hk8
                have c3 : w8.cell? ⟨sb, 3, none⟩ = some (.pointer none) := cell_blk hk8
                have z0 : w8.frozen? ⟨sb, 0, none⟩ = false := frozen_blk hk8
                have z2 : w8.frozen? ⟨sb, 2, none⟩ = false := frozen_blk hk8
                have z3 : w8.frozen? ⟨sb, 3, none⟩ = false := frozen_blk hk8
                have hxl8 := lt_blk hkx8
                have hsl8 := lt_blk hk8
                obtain ⟨hsta, hxa, hka⟩ := fld (i := 0) (v := .int .i64 1) hst8 hx8 hk8 hsw hpl
                obtain ⟨hstb, hxb2, hkb⟩ := fld (i := 2) (v := .string (bs n')) hsta hxa hka hsw hpl
                obtain ⟨hstc, hxc, hkc⟩ := fld (i := 3) (v := .pointer la) hstb hxb2 hkb hsw hpl
                have hbd := below_drew (((w8.setCell ⟨sb, 0, none⟩ (.int .i64 1)).setCell ⟨sb, 2, none⟩ (.string (bs n'))).setCell ⟨sb, 3, none⟩ (.pointer la))
                have hst9 : RX (((w8.setCell ⟨sb, 0, none⟩ (.int .i64 1)).setCell ⟨sb, 2, none⟩ (.string (bs n'))).setCell ⟨sb, 3, none⟩ (.pointer la)).drew q ts (fl 3 (rz, fine)) := hstc.below hbd
                have hx9 := hxc.trans (Ext.below hbd)
                have hk9 : (((w8.setCell ⟨sb, 0, none⟩ (.int .i64 1)).setCell ⟨sb, 2, none⟩ (.string (bs n'))).setCell ⟨sb, 3, none⟩ (.pointer la)).drew.heap[sb]? = some (.cells #[.int .i64 1, .int .i64 (pos : Int), .string (bs n'), .pointer la, .pointer none, .slice none 0 0, .slice none 0 0] 97 (0, 0)) := (hbd.block sb (lt_blk hkc)).trans hkc
                have hr9 : (((w8.setCell ⟨sb, 0, none⟩ (.int .i64 1)).setCell ⟨sb, 2, none⟩ (.string (bs n'))).setCell ⟨sb, 3, none⟩ (.pointer la)).drew.heap[rb0]? = some (.cells #[.int .i64 0, .int .i64 0, .string ⟨#[]⟩, .pointer none, .pointer none, .slice none 0 0, .slice none 0 0] 97 (0, 0)) := by
                  have hrr : (((w8.setCell ⟨sb, 0, none⟩ (.int .i64 1)).setCell ⟨sb, 2, none⟩ (.string (bs n'))).setCell ⟨sb, 3, none⟩ (.pointer la)).heap[rb0]? = w8.heap[rb0]? := by rw [Below.heap_setCell _ _ _ _ (by simp; omega), Below.heap_setCell _ _ _ _ (by simp; omega), Below.heap_setCell _ _ _ _ (by simp; omega)]
                  exact (hbd.block rb0 (by rw [← hrr] at hr8; exact lt_blk hr8)).trans (hrr.trans hr8)
                have HL9 : Hid (left = [] ∧ la = none ∨ VX (sb + 1) left (.pointer la) (((w8.setCell ⟨sb, 0, none⟩ (.int .i64 1)).setCell ⟨sb, 2, none⟩ (.string (bs n'))).setCell ⟨sb, 3, none⟩ (.pointer la)).drew) := HL8.out.imp id fun h => VX.ext (b := q.rb) (Ext.below hbd) (by omega) (VX.ext (b := sb) ((((Ext.refl sb _).set 0 _).set 2 _).set 3 _) (by omega) h)
                have HC9 := Lib.hid (rmust_s hst9 Tp.mSet (by decide) _ (rfl : Hid (_ = bs Tp.mSet)))
                clear hbd hsta hxa hka hstb hxb2 hkb hstc hxc hkc hst9 hst8 hk8 hr8 hkx8 hx8 HL8
                go_wp2_with fail
                go_region
                all_goals
                  clear x4 x6 c0 c2 c3 z0 z2 z3
                  go_wp2_with fail
                  generalize (((w8.setCell ⟨sb, 0, none⟩ (.int .i64 1)).setCell ⟨sb, 2, none⟩ (.string (bs n'))).setCell ⟨sb, 3, none⟩ (.pointer la)).drew = w9 at *
                  refine HC9.out.mono ?_
                  rintro e w10 ⟨rfl, hst10, hxx⟩
                  have hk10 := (hxx.block sb (lt_blk hk9) (by omega)).trans hk9
                  have hr10 := (hxx.block rb0 (lt_blk hr9) (by omega)).trans hr9
                  have hx10 := hx9.trans hxx
                  have hls10 := lt_blk hk10
                  have HL10 : Hid (left = [] ∧ la = none ∨ VX (sb + 1) left (.pointer la) w10) := HL9.out.imp id fun h => VX.ext hxx (by omega) h
                  have HC := Lib.hid (rvalue_s hst10 g u HU.out)
                  clear hk9 hr9 hx9 HL9 HC9 hst10 hxx
                  go_wp2_with fail
                  refine HC.out.mono ?_
                  rintro e w11 ⟨p, rfl, hv, hst11, hxx⟩
                  have hk11 : w11.heap[sb]? = some (.cells #[.int .i64 1, .int .i64 (pos : Int), .string (bs n'), .pointer la, .pointer none, .slice none 0 0, .slice none 0 0] 97 (0, 0)) := (hxx.block sb (lt_blk hk10) (by omega)).trans hk10
                  have hr11 := (hxx.block rb0 (lt_blk hr10) (by omega)).trans hr10
                  have hx11 := hx10.trans hxx
                  have HL11 : Hid (left = [] ∧ la = none ∨ VX (sb + 1) left (.pointer la) w11) := HL10.out.imp id fun h => VX.ext hxx (by omega) h
                  obtain ⟨hstF, hxF, hkF⟩ := fld (i := 4) (v := .pointer p) hst11 hx11 hk11 hsw hpl
                  have HF := Lib.hid (tfin (y := y) (c := 1) (p := (pos : Int)) (nm := bs n') (ia := la) (va := p) (ta := none) (ea := none) (tn := 0) (tc := 0) (en := 0) (ec := 0) (B := sb + 1) (by rw [HYU.out]; exact hstF) hxF hrw hpl (by omega) (fun hf => by
                    rw [HYU.out] at hf ⊢
                    have hv2 := VX.ext (b := sb) ((Ext.refl sb w11).set 4 (.pointer p)) (show sb < sb + 1 by omega) ((hv hf).base (show sb + 1 ≤ w10.heap.size by omega))
                    refine VS.node (code := 1) (name := n') ?_ (Or.inr hv2) (Or.inl ⟨rfl, rfl⟩) (Or.inl ⟨rfl, rfl⟩)
                    rcases HL11.out with ⟨h1, h2⟩ | h1
                    · exact Or.inl ⟨h1, by rw [h2]⟩
                    · exact Or.inr (VX.ext (b := sb) ((Ext.refl sb w11).set 4 _) (by omega) h1)))
                  clear hv hst11 hxx hx11 hstF hxF hkF hk10 hr10 hx10 HL10 HL11 HC HU
                  have ks : ∀ i, w11.cell? ⟨sb, i, none⟩ = (#[.int .i64 1, .int .i64 (pos : Int), .string (bs n'), .pointer la, .pointer none, .slice none 0 0, .slice none 0 0] : Array Value)[i]? := fun i => cell_blk hk11
                  have zs : ∀ i, w11.frozen? ⟨sb, i, none⟩ = false := fun i => frozen_blk hk11
                  have kr : ∀ i, w11.cell? ⟨rb0, i, none⟩ = (#[.int .i64 0, .int .i64 0, .string ⟨#[]⟩, .pointer none, .pointer none, .slice none 0 0, .slice none 0 0] : Array Value)[i]? := fun i => cell_blk hr11
                  have zr : ∀ i, w11.frozen? ⟨rb0, i, none⟩ = false := fun i => frozen_blk hr11
                  have hrl := lt_blk hr11
                  have hsl := lt_blk hk11
                  clear hk11 hr11
                  go_wp2_with fail
                  exact bodyPost_ret (v := .agg (scells 1 pos (bs n') (.pointer la) (.pointer p) (.slice none 0 0) (.slice none 0 0))) (by simp [results, Tryz.results42, go_sem, kr, scells]) rfl HF.out
/- all together, by gas -/
theorem stmts_allR (q : Rp) (ts : List Tok) : ∀ g, StsR q ts g ∧ StR q ts g ∧ RstR q ts g := by
  intro g
  induction g with
  | zero => exact ⟨fun _ _ _ _ _ _ h => (by cases h), fun _ _ _ _ _ _ h => (by cases h), fun _ _ _ _ _ _ _ _ _ _ _ h => (by cases h)⟩
  | succ g ih =>
    obtain ⟨h1, h2, h3⟩ := ih
    exact ⟨rstmts_post h2, rstmt_post h1 h3, rrest_post h1 h3⟩
end Go.Proofs.YtfcdphgggdioeaaGreatDoor
