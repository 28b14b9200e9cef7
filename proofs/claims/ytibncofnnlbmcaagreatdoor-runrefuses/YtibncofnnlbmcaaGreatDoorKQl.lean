import Derived.Test.YtibncofnnlbmcaaGreatDoorKQj
import Derived.Test.YtibncofnnlbmcaaGreatDoorKQk
import Derived.Test.YtibncofnnlbmcaaGreatDoorKQg
import Derived.Test.YtibncofnnlbmcaaGreatDoorKWl
import Derived.Test.YtibncofnnlbmcaaGreatDoorKMg
import Derived.Laws.IdiomStrings
/- A fact: how something ends: ran. -/
namespace Go.Proofs.YtibncofnnlbmcaaGreatDoor
open Go.RowKit Go.Maps
open Tp (Bs X S G Pr Pt Rs Rr Own)

/- the call, of the plain world that is there -/
theorem callR {P : List Pt} {p : Pt} (hp : Tp.partOf P [109] = some p) (hm : p.m = Tp.modR) : Tp.callP (Tp.nd (Tp.bodySz P) 100 0) 0 [109] Tp.fR [4] ⟨P, 100, []⟩ ≠ .gas ∧ (Tp.callW P [109] [102] [4] 100).e = (Tp.endOf (Tp.callP (Tp.nd (Tp.bodySz P) 100 0) 0 [109] Tp.fR [4] ⟨P, 100, []⟩)).2 ∧ (Tp.callW P [109] [102] [4] 100).n = nOf (Tp.callP (Tp.nd (Tp.bodySz P) 100 0) 0 [109] Tp.fR [4] ⟨P, 100, []⟩) := by
  have hf : ((Tp.partOf P [109]).bind fun p => p.m.procs.find? fun q => q.name == [102] && q.seen) = some Tp.fR := by rw [hp, Option.bind_some, hm]; rfl
  have hm1 : p ∈ P := List.mem_of_find?_eq_some hp
  have hm2 : Tp.fR ∈ p.m.procs := by rw [hm]; exact List.mem_singleton.2 rfl
  have hsz : SizeOf.sizeOf Tp.fR.body ≤ Tp.bodySz P := Tp.bodySz_bd P 0 [] p hm1 _ hm2
  refine ⟨Tp.callP_enough hsz, ?_, ?_⟩
  · unfold Tp.callW
    rw [hf]
    rfl
  · unfold Tp.callW
    rw [hf]
    show (if _ then _ else _ : Tp.Ans).n = _
    rw [if_neg (by decide)]
    simp only
    cases Tp.callP (Tp.nd (Tp.bodySz P) 100 0) 0 [109] Tp.fR [4] ⟨P, 100, []⟩ <;> rfl
set_option maxRecDepth 100000 in
set_option maxHeartbeats 4000000 in
theorem ran_post {w : World} (hmk : Mk w) (hlv : Lv w) : Calls Tryz.prog 8 #[] w fun e w' => e = .returned (.bool true) ∧ Below w.heap.size w w' := by
  have hp := parse_post w Tp.txtR (by decide) hmk hlv
  have HP : Hid (Calls Tryz.prog 9 #[.string ⟨#[109, 111, 100, 117, 108, 101, 32, 109, 59, 32, 118, 97, 114, 32, 120, 58, 32, 105, 110, 116, 59, 32, 112, 114, 111, 99, 32, 102, 42, 40, 97, 41, 59, 32, 98, 101, 103, 105, 110, 32, 120, 32, 58, 61, 32, 120, 32, 43, 32, 97, 59, 32, 114, 101, 116, 117, 114, 110, 32, 120, 32, 42, 32, 50, 59, 32, 101, 110, 100, 59, 32, 98, 101, 103, 105, 110, 32, 119, 114, 105, 116, 101, 32, 102, 40, 51, 41, 59, 32, 101, 110, 100, 46]⟩] w fun e w' => Below w.heap.size w w' ∧ ∃ v, e = .returned (.tuple #[v, .nilIface]) ∧ VM w.heap.size Tp.modR v w') := by
    refine hp.mono ?_
    rintro e w' ⟨h1, h2⟩
    unfold ParseP at h2
    rw [Tp.parseR] at h2
    exact ⟨h1, h2⟩
  have hwm := (Tp.parse_wm Tp.parseR).1
  have HWM := Lib.hid hwm
  clear hp hmk hlv hwm
  go_enter Tryz.func8, Tryz.ntmps8
  go_wp2_with fail
  refine HP.out.mono ?_
  rintro e w1 ⟨h1, v1, rfl, hvm⟩
  obtain ⟨ia, ga, pa, ba, ic, gc, pc, bc, rfl, hmb⟩ := hvm.mb
  have e0 : mcells (bs Tp.modR.name) (.slice ia Tp.modR.imports.length ic) (.slice ga Tp.modR.vars.length gc) (.slice pa Tp.modR.procs.length pc) (.slice ba Tp.modR.body.length bc) = #[.string ⟨#[109]⟩, .slice ia 0 ic, .slice ga 1 gc, .slice pa 1 pc, .slice ba 1 bc] := rfl
  obtain ⟨w3, hw3⟩ : ∃ w3, w3 = (w1.alloc (.cells #[.string ⟨#[109]⟩, .slice ia 0 ic, .slice ga 1 gc, .slice pa 1 pc, .slice ba 1 bc] 36)).alloc (.cells #[.slice none 0 0, .map none] 28) := ⟨_, rfl⟩
  have hs3 : w3.heap.size = w1.heap.size + 2 := by rw [hw3]; simp
  have hb3 : Below w1.heap.size w1 w3 := by rw [hw3]; exact ((Below.refl _ _).alloc (Nat.le_refl _) _).alloc (by simp) _
  have hbw : w3.heap[w1.heap.size + 1]? = some (.cells #[.slice none 0 0, .map none] 28 (0, 0)) := by
    have := new_blk (w1.alloc (.cells #[.string ⟨#[109]⟩, .slice ia 0 ic, .slice ga 1 gc, .slice pa 1 pc, .slice ba 1 bc] 36)) (.cells #[.slice none 0 0, .map none] 28)
    rw [hw3]; simpa using this
  have hbm : w3.heap[w1.heap.size]? = some (.cells #[.string ⟨#[109]⟩, .slice ia 0 ic, .slice ga 1 gc, .slice pa 1 pc, .slice ba 1 bc] 36 (0, 0)) := by
    rw [hw3]; exact (Below.heap_alloc _ _ _ (by simp)).trans (new_blk _ _)
  have hs1 := h1.size
  have HCALL : Hid (∀ (w4 : World) (L : List Lo) (nv : Value) (tb : Nat), Ext (w1.heap.size + 1) w3 w4 → WW (fun b => b = w1.heap.size) w4 (w1.heap.size + 1) L (Tp.loadW of0 [] Tp.modR 100).w nv tb → (∀ b, VLo L b → w3.heap.size ≤ b) → ∀ (w8 : World) (ab : Nat), Below w4.heap.size w4 w8 → w8.cell? ⟨ab, 0, none⟩ = some (.int .i64 4) → Calls Tryz.prog 27 #[.pointer (some ⟨w1.heap.size + 1, 0, none⟩), .string ⟨#[109]⟩, .string ⟨#[102]⟩, .slice (some ⟨ab, 0, none⟩) 1 1, .int .i64 100] w8 fun e w9 => ∃ oa on oc, e = .returned (.tuple #[.agg #[.int .i64 1, .slice oa on oc], .int .i64 14, .nilIface]) ∧ Below w.heap.size w w9 ∧ ∀ b, w4.heap.size ≤ b → b < w8.heap.size → w9.heap[b]? = w8.heap[b]?) := by
    intro w4 L nv tb hx hww hvl w8 ab hb8 hab
    have hR := Tp.ranR of0
    have hw8 := hww.more hb8
    have hms : L.map (fun lo => lo.m) = [Tp.modR] := by
      rw [← hww.mw]
      have := loadW_ok (fuel := 100) Tp.checkR
      rw [this]
      exact Tp.endOf_ms Tp.goS_enough
    obtain ⟨lo, hL⟩ : ∃ lo, L = [lo] := by
      cases L with
      | nil => simp at hms
      | cons x t => cases t with
        | nil => exact ⟨x, rfl⟩
        | cons y t => simp at hms
    have hlo : lo ∈ L := by rw [hL]; exact List.mem_singleton.2 rfl
    have hlm : lo.m = Tp.modR := by rw [hL] at hms; simpa using hms
    have hln : lo.m.name = [109] := by rw [hlm]; rfl
    obtain ⟨p, p1, p2, _⟩ := hww.vals lo hlo
    rw [hln] at p1
    have hcr := callR p1 (p2.trans hlm)
    have hia : IntsAt w8 [4] (some ⟨ab, 0, none⟩) := ⟨fun i hi => by
      have : i = 0 := by simp at hi; omega
      subst this
      exact ⟨ab, 0, rfl, lt_of_cell hab, hab⟩⟩
    have hc := call_ok (nm := [102]) (vs := [4]) (ac := 1) (p := Tp.fR) (gas := Tp.nd (Tp.bodySz (Tp.loadW of0 [] Tp.modR 100).w) 100 0) hw8 (fuel := 100) (by omega) hlo (by rw [hlm]; rfl) rfl rfl (fun v hv => by rw [List.mem_singleton] at hv; subst hv; unfold Tp.I64; omega) hia (by rw [hln]; decide) (by decide) (by rw [hln]; exact hcr.1)
    rw [hln] at hc
    refine hc.mono ?_
    rintro e w9 ⟨oa, oc, he, _, _, _, hk, hsz, ho, ht, hou, _⟩
    have hway : (Tp.endOf (Tp.callP (Tp.nd (Tp.bodySz (Tp.loadW of0 [] Tp.modR 100).w) 100 0) 0 [109] Tp.fR [4] ⟨(Tp.loadW of0 [] Tp.modR 100).w, 100, []⟩)).2.way = 1 := by rw [← hcr.2.1]; exact hR.2.2.2.1
    have hn : nOf (Tp.callP (Tp.nd (Tp.bodySz (Tp.loadW of0 [] Tp.modR 100).w) 100 0) 0 [109] Tp.fR [4] ⟨(Tp.loadW of0 [] Tp.modR 100).w, 100, []⟩) = 14 := by rw [← hcr.2.2]; exact hR.2.2.2.2
    rw [hway, hn] at he
    have hs4 := hx.size
    have hs8 := hb8.size
    refine ⟨oa, _, oc, he, ⟨((ho.trans hb8.os).trans hx.os).trans (hb3.os.trans h1.os), ((ht.trans hb8.tape).trans hx.tape).trans (hb3.tape.trans h1.tape), ((hou.trans hb8.output).trans hx.output).trans (hb3.output.trans h1.output), by omega, fun b hb => ?_⟩, fun b h4 h8 => hk b h8 (fun q => by have := (hww.sv b q).1; omega)⟩
    exact ((((hk b (by omega) (fun q => by have := hvl b q; omega)).trans (hb8.block b (by omega))).trans (hx.block b (by omega) (by omega))).trans (hb3.block b (by omega))).trans (h1.block b hb)
  have HL : Hid (Calls Tryz.prog 17 #[.pointer (some ⟨w1.heap.size + 1, 0, none⟩), .agg #[.string ⟨#[109]⟩, .slice ia 0 ic, .slice ga 1 gc, .slice pa 1 pc, .slice ba 1 bc], .int .i64 100] w3 fun e w4 => ∃ b o oc, e = .returned (.tuple #[.agg #[.int .i64 1, .slice (some ⟨b, o, none⟩) 1 oc], .nilIface]) ∧ w4.cell? ⟨b, o, none⟩ = some (.int .i64 6) ∧ (∀ (w8 : World) (ab : Nat), Below w4.heap.size w4 w8 → w8.cell? ⟨ab, 0, none⟩ = some (.int .i64 4) → Calls Tryz.prog 27 #[.pointer (some ⟨w1.heap.size + 1, 0, none⟩), .string ⟨#[109]⟩, .string ⟨#[102]⟩, .slice (some ⟨ab, 0, none⟩) 1 1, .int .i64 100] w8 fun e w9 => ∃ oa on oc, e = .returned (.tuple #[.agg #[.int .i64 1, .slice oa on oc], .int .i64 14, .nilIface]) ∧ Below w.heap.size w w9 ∧ ∀ b, w4.heap.size ≤ b → b < w8.heap.size → w9.heap[b]? = w8.heap[b]?) ∧ Ext (w1.heap.size + 1) w3 w4) := by
    have hmb3 : MB w3 w1.heap.size Tp.modR ia ga pa ba ic gc pc bc := hmb.on hb3
    have hl := load_ok (Y := fun b => b = w1.heap.size) (fuel := 100) hbw hmb3 (by omega) (fun b hb => by subst hb; omega) HWM.out (by omega) Tp.checkR
    rw [e0] at hl
    refine hl.mono ?_
    intro e w4 hq
    have hR := Tp.ranR of0
    unfold LoadP at hq
    rw [hR.1, hR.2.1] at hq
    obtain ⟨hx, oa, oc, L, nv, tb, he, hww, hia, _, hvl, _⟩ := hq
    obtain ⟨b, o, rfl, _, hc⟩ := hia.c 0 (by decide)
    exact ⟨b, o, oc, he, hc, fun w8 ab => HCALL.out w4 L nv tb hx hww hvl w8 ab, hx⟩
  rw [e0]
  have k0 : w3.cell? ⟨w1.heap.size, 0, none⟩ = some (.string ⟨#[109]⟩) := (cell_blk hbm).trans rfl
  have k1 : w3.cell? ⟨w1.heap.size, 1, none⟩ = some (.slice ia 0 ic) := (cell_blk hbm).trans rfl
  have k2 : w3.cell? ⟨w1.heap.size, 2, none⟩ = some (.slice ga 1 gc) := (cell_blk hbm).trans rfl
  have k3 : w3.cell? ⟨w1.heap.size, 3, none⟩ = some (.slice pa 1 pc) := (cell_blk hbm).trans rfl
  have k4 : w3.cell? ⟨w1.heap.size, 4, none⟩ = some (.slice ba 1 bc) := (cell_blk hbm).trans rfl
  have hml3 := lt_blk hbm
  have hwl3 := lt_blk hbw
  clear hvm hmb e0 hbm hbw hb3 h1 HCALL HP HWM hs3
  go_upto_region 5 with fail
  rw [← hw3]
  clear hw3
  go_wp2_with fail
  refine HL.out.mono ?_
  rintro e w4 ⟨b, o, oc, rfl, hc6, hcall, hx4⟩
  obtain ⟨w5, hw5⟩ : ∃ w5, w5 = w4.alloc (.cells #[.int .i64 1, .slice (some ⟨b, o, none⟩) 1 oc] 43) := ⟨_, rfl⟩
  have hE5 : w5.heap[w4.heap.size]? = some (.cells #[.int .i64 1, .slice (some ⟨b, o, none⟩) 1 oc] 43 (0, 0)) := by rw [hw5]; exact new_blk _ _
  have hb5 : Below w4.heap.size w4 w5 := by rw [hw5]; exact (Below.refl _ _).alloc (Nat.le_refl _) _
  obtain ⟨w6, hw6⟩ : ∃ w6, w6 = w5.alloc (.cells #[.int .i64 6] 2) := ⟨_, rfl⟩
  have hb6 : Below w5.heap.size w5 w6 := by rw [hw6]; exact (Below.refl _ _).alloc (Nat.le_refl _) _
  have hS6 : w6.heap[w5.heap.size]? = some (.cells #[.int .i64 6] 2 (0, 0)) := by rw [hw6]; exact new_blk _ _
  have hs5 := hb5.size
  have hs6 := hb6.size
  have hel5 := lt_blk hE5
  have c6 : w6.cell? ⟨b, o, none⟩ = some (.int .i64 6) := (hb6.cell (p := ⟨b, o, none⟩) (Nat.lt_of_lt_of_le (lt_of_cell hc6) hs5)).trans ((hb5.cell (p := ⟨b, o, none⟩) (lt_of_cell hc6)).trans hc6)
  have d6 : w6.cell? ⟨w5.heap.size, 0, none⟩ = some (.int .i64 6) := (cell_blk hS6).trans rfl
  have HEQ := Lib.hid (eq_one (c1 := oc) (c2 := 1) c6 d6)
  clear d6
  have HE6 : Hid (w6.heap[w4.heap.size]? = some (.cells #[.int .i64 1, .slice (some ⟨b, o, none⟩) 1 oc] 43 (0, 0))) := (hb6.block _ hel5).trans hE5
  have HB6 : Hid (Below w4.heap.size w4 w6) := hb5.trans (hb6.mono hs5)
  have f0 : w5.cell? ⟨w4.heap.size, 0, none⟩ = some (.int .i64 1) := (cell_blk hE5).trans rfl
  have f1 : w5.cell? ⟨w4.heap.size, 1, none⟩ = some (.slice (some ⟨b, o, none⟩) 1 oc) := (cell_blk hE5).trans rfl
  have HCL := Lib.hid hcall
  have HX4 := Lib.hid hx4
  have hs4 := hx4.size
  clear hE5 hb5 hb6 hS6 c6 hc6 hcall hx4 k0 k1 k2 k3 k4
  go_upto_region 6 with fail
  rw [← hw5]
  clear hw5
  go_upto_region 7 with (go_at_call 24; rw [← hw6]; refine HEQ.out.mono ?_; rintro e w7 ⟨rfl, hb7⟩)
  have hs7 := hb7.size
  have HB7 : Hid (Below w4.heap.size w4 w7) := HB6.out.trans (hb7.mono HB6.out.size)
  have HE7 : Hid (w7.heap[w4.heap.size]? = some (.cells #[.int .i64 1, .slice (some ⟨b, o, none⟩) 1 oc] 43 (0, 0))) := (hb7.block _ (lt_blk HE6.out)).trans HE6.out
  clear hb7 hw6 HE6 HB6 HEQ f0 f1
  obtain ⟨w8, hw8⟩ : ∃ w8, w8 = w7.alloc (.cells #[.int .i64 4] 2) := ⟨_, rfl⟩
  have hb8 : Below w7.heap.size w7 w8 := by rw [hw8]; exact (Below.refl _ _).alloc (Nat.le_refl _) _
  have hS8 : w8.heap[w7.heap.size]? = some (.cells #[.int .i64 4] 2 (0, 0)) := by rw [hw8]; exact new_blk _ _
  have hE8 := (hb8.block _ (lt_blk HE7.out)).trans HE7.out
  have HCC := Lib.hid (HCL.out w8 w7.heap.size (HB7.out.trans (hb8.mono HB7.out.size)) ((cell_blk hS8).trans rfl))
  have HE8 := Lib.hid hE8
  clear HCL hS8 hb8 hE8 HB7 HE7
  go_wp2_with fail
  rw [← hw8]
  refine HCC.out.mono ?_
  rintro e w9 ⟨oa, on, oc', rfl, hb9, hk9⟩
  have hE9 := (hk9 _ (Nat.le_refl _) (lt_blk HE8.out)).trans HE8.out
  have e0 : w9.cell? ⟨w4.heap.size, 0, none⟩ = some (.int .i64 1) := (cell_blk hE9).trans rfl
  have e1 : w9.cell? ⟨w4.heap.size, 1, none⟩ = some (.slice (some ⟨b, o, none⟩) 1 oc) := (cell_blk hE9).trans rfl
  have ez : ∀ j, w9.frozen? ⟨w4.heap.size, j, none⟩ = false := fun j => frozen_blk hE9
  have hel9 := lt_blk hE9
  have hset := set_blk 1 (.slice oa on oc') (set_blk 0 (.int .i64 1) hE9)
  obtain ⟨wf, hwf⟩ : ∃ wf, wf = (w9.setCell ⟨w4.heap.size, 0, none⟩ (.int .i64 1)).setCell ⟨w4.heap.size, 1, none⟩ (.slice oa on oc') := ⟨_, rfl⟩
  have g0 : wf.cell? ⟨w4.heap.size, 0, none⟩ = some (.int .i64 1) := by rw [hwf]; exact (cell_blk hset).trans rfl
  have HF : Hid (Below w.heap.size w wf) := by
    show Below _ _ _
    rw [hwf]
    exact below_set (below_set hb9 (by omega) 0 _) (by omega) 1 _
  have helf : w4.heap.size < wf.heap.size := by rw [hwf]; exact lt_blk hset
  clear hset hE9 hk9 hb9 HCC HE8 hw8 HX4 HL
  go_upto_region 9 with fail
  rw [← hwf]
  clear hwf e0 e1 ez
  go_wp2_with fail
  go_ret
  exact ⟨rfl, HF.out⟩
end Go.Proofs.YtibncofnnlbmcaaGreatDoor
/- What a world's modules have, as far as names tell: all. -/
namespace Go.Proofs.YtibncofnnlbmcaaGreatDoor
open Go.RowKit Go.Maps
open Tp (Bs X S G Pr Pt Rs Rr Own)

def fd (u : Int) : Int := IntKind.u64.wrap (97 + bits .and .u64 u 15) % 256
def bd (u : Int) : UInt8 := UInt8.ofNat (fd u).toNat
def twoB (u : Int) : ByteArray := ⟨#[bd u, bd (u / 16)]⟩
def it4 (s : ByteArray) (u : Int) : Nat → ByteArray × Int
  | 0 => (s, u)
  | j + 1 => ((it4 s u j).1 ++ twoB (it4 s u j).2, (it4 s u j).2 / 256)
def numS (s : ByteArray) (x : Int) : ByteArray := (it4 s (IntKind.u64.wrap x) 8).1
def varS (P : List Pt) (n : Bs) (s : ByteArray) (v : Bs) : ByteArray := match Tp.getW P n v with
  | none => s ++ ⟨#[45]⟩
  | some xs => xs.foldl numS (s ++ bs v)
def vars5 : List Bs := [[120], [121], [116], [117], [122]]
def modS (P : List Pt) (s : ByteArray) (n : Bs) : ByteArray := vars5.foldl (varS P n) (s ++ bs n) ++ ⟨#[59]⟩
def allB (P : List Pt) : ByteArray := (P.map fun p => p.m.name).foldl (modS P) ⟨#[]⟩
theorem bd_nat (u : Int) : ((bd u).toNat : Int) = fd u := by
  have h : 0 ≤ fd u ∧ fd u < 256 := by unfold fd; omega
  unfold bd
  rw [UInt8.toNat_ofNat_of_lt' (by show _ < 256; omega)]
  omega
theorem it4_size (s : ByteArray) (u : Int) (j : Nat) : (it4 s u j).1.size = s.size + 2 * j := by
  induction j with
  | zero => rfl
  | succ j ih =>
    show ((it4 s u j).1 ++ twoB (it4 s u j).2).size = _
    rw [ByteArray.size_append, ih]
    show _ + 2 = _
    omega
theorem nums_size (xs : List Int) : ∀ s : ByteArray, (xs.foldl numS s).size = s.size + 16 * xs.length := by
  induction xs with
  | nil => intro s; rfl
  | cons x t ih =>
    intro s
    show (t.foldl numS (numS s x)).size = _
    rw [ih]
    unfold numS
    rw [it4_size, List.length_cons]
    omega
theorem fold_take {α β : Type} (f : β → α → β) (a : β) (l : List α) (i : Nat) (hi : i < l.length) : (l.take (i + 1)).foldl f a = f ((l.take i).foldl f a) l[i] := by
  rw [List.take_succ_eq_append_getElem hi, List.foldl_append]
  rfl
theorem WW.getlen {X : Nat → Prop} {w : World} {wb : Nat} {L : List Lo} {P : List Pt} {nv : Value} {tb : Nat} (h : WW X w wb L P nv tb) {lo : Lo} (hlo : lo ∈ L) {nm : Bs} {xs : List Int} (hg : Tp.getW P lo.m.name nm = some xs) : xs.length ≤ 30 := by
  obtain ⟨p, p1, p2, p3⟩ := h.vals lo hlo
  obtain ⟨_, _, _, _, hfit⟩ := h.lo lo hlo
  unfold Tp.getW at hg
  rw [p1, Option.bind_some, p2] at hg
  split at hg
  · rename_i hv
    obtain ⟨g, g1, g2⟩ := List.any_eq_true.1 hv
    have e : g.name = nm := by simpa using g2
    cases hg
    have := (p3 g g1).1
    rw [e] at this
    have hl := (hfit.wm.g g g1).l
    rw [this]
    unfold vlen
    split <;> omega
  · cases hg
theorem var_size {P : List Pt} {n v : Bs} (hv : v.length = 1) (hx : ∀ xs, Tp.getW P n v = some xs → xs.length ≤ 30) (s : ByteArray) : (varS P n s v).size ≤ s.size + 500 := by
  unfold varS
  split
  · rw [ByteArray.size_append]
    show _ + 1 ≤ _
    omega
  · rename_i xs h
    rw [nums_size, ByteArray.size_append, bs_size, hv]
    have := hx xs h
    omega
theorem Tryz.convB (W : World) (b : Nat) (u : Int) (h0 : W.cell? ⟨b, 0, none⟩ = some (.int .u8 (fd u))) (h1 : W.cell? ⟨b, 1, none⟩ = some (.int .u8 (fd (u / 16)))) : (convert 81 9 (.slice (some ⟨b, 0, none⟩) 2 2)).run Tryz.prog W = .ok (.string (twoB u)) W := by
  refine run_convert_bytes_back (P := Tryz.prog) W 81 9 5 ⟨b, 0, none⟩ 2 [bd u, bd (u / 16)] Tryz.underlying81 Tryz.underlying5 Tryz.underlying9 ?_
  intro j hj
  rw [Addr.add_lit]
  match j, hj with
  | 0, _ => rw [h0]; exact congrArg (fun z => some (Value.int .u8 z)) (bd_nat u).symm
  | 1, _ => rw [h1]; exact congrArg (fun z => some (Value.int .u8 z)) (bd_nat (u / 16)).symm
  | k + 2, hk => exact absurd hk (by simp)
end Go.Proofs.YtibncofnnlbmcaaGreatDoor
/- What a world's modules have, as far as names tell: all, walked. -/
namespace Go.Proofs.YtibncofnnlbmcaaGreatDoor
open Go.RowKit Go.Maps
open Tp (Bs X S G Pr Pt Rs Rr Own)

set_option maxRecDepth 100000 in
set_option maxHeartbeats 4000000 in
theorem all_post {X : Nat → Prop} {w : World} {wb : Nat} {L : List Lo} {P : List Pt} {nv : Value} {tb : Nat} (h : WW X w wb L P nv tb) (hL : L.length ≤ 10) :
    Calls Tryz.prog 13 #[.pointer (some ⟨wb, 0, none⟩)] w fun e w' => e = .returned (.string (allB P)) ∧ Below w.heap.size w w' := by
  obtain ⟨ns, hns⟩ : ∃ ns, ns = L.map fun lo => lo.m.name := ⟨_, rfl⟩
  have hPn : P.map (fun p => p.m.name) = ns := by
    have := congrArg (List.map fun m : Tp.M => m.name) h.mw
    rw [hns]
    simpa [Tp.ms, Function.comp_def] using this
  have HN := Lib.hid (names_any (ns := ns) h.blk (by rw [hns]; simpa using h.nm) (by rw [hns]; simp; omega))
  have HW := Lib.hid h
  obtain ⟨rs, hrs⟩ : ∃ rs, rs = allB P := ⟨_, rfl⟩
  have HRS : Hid (rs = ns.foldl (modS P) ⟨#[]⟩) := by show rs = _; rw [hrs, ← hPn]; rfl
  have HNL : Hid (∀ i (hi : i < ns.length), ∃ lo ∈ L, lo.m.name = ns[i] ∧ ns[i].length ≤ 1000000) := fun i hi => by
    have hm : ∀ x ∈ ns, ∃ lo ∈ L, lo.m.name = x := by
      rw [hns]
      intro x hx
      obtain ⟨lo, h1, h2⟩ := List.mem_map.1 hx
      exact ⟨lo, h1, h2⟩
    obtain ⟨lo, h1, h2⟩ := hm _ (List.getElem_mem hi)
    obtain ⟨_, _, _, _, hfit⟩ := h.lo lo h1
    exact ⟨lo, h1, h2, by rw [← h2]; exact okn_1000 hfit.wm.n⟩
  rw [← hrs]
  have hl10 : ns.length ≤ 10 := by rw [hns]; simpa using hL
  clear h hPn hrs hns hL
  go_enter Tryz.func13, Tryz.ntmps13
  go_wp2_with fail
  refine HN.out.mono ?_
  rintro e w1 ⟨v', rfl, hb1, ho1⟩
  obtain ⟨na, nc, rfl⟩ := owns_shape ho1
  have HB1 := Lib.hid hb1
  have HW1 := Lib.hid (HW.out.more hb1)
  have HNC : Hid (∀ i (hi : i < ns.length), ∃ nb, na = some ⟨nb, 0, none⟩ ∧ nb < w1.heap.size ∧ w1.cell? ⟨nb, i, none⟩ = some (.string (bs ns[i]))) := fun i hi => by
    rcases ho1.2 with ⟨_, h2⟩ | ⟨g, cap, cur, h1, _, h3, h4, h5, h6, h7⟩
    · omega
    · injection h1 with h1 _ _
      refine ⟨g, h1, lt_blk h3, ?_⟩
      rw [cell_blk h3, ← Array.getElem?_toList]
      have : (strs ns)[i]? = some (.string (bs ns[i])) := by simp [strs, hi]
      rw [← this, ← h7, List.getElem?_take_of_lt (by omega)]
  clear hb1 ho1 HN HW
  obtain ⟨ln, hln⟩ : ∃ ln, ln = ns.length := ⟨_, rfl⟩
  have HLN := Lib.hid hln
  rw [← hln] at hl10 ⊢
  clear hln
  go_wp2_with fail
  go_loopg [3, 5] ln (fun k vs vi wr => ∃ (i : Nat) (sb : ByteArray), i ≤ ln ∧ k = ln - i ∧ vi = .int .i64 (i : Int) ∧ vs = .string sb ∧ Hid (sb = (ns.take i).foldl (modS P) ⟨#[]⟩ ∧ sb.size ≤ i * 2000000) ∧ Hid (Below w1.heap.size w1 wr))
  case atStart => exact ⟨0, _, by omega, by omega, rfl, rfl, ⟨rfl, by decide⟩, Below.refl _ _⟩
  case round =>
    obtain ⟨i, sb, hid, hk, rfl, rfl, HS, HB⟩ := hrel
    by_cases hlt : i < ln
    · have hlt' : (i : Int) < (ln : Int) := by omega
      have hi0 : ¬ (i : Int) < 0 := by omega
      have hin : i < ns.length := by have := HLN.out; omega
      obtain ⟨nb, rfl, hnb1, hnc⟩ := HNC.out i hin
      have HKN : Hid (∀ W, Below w1.heap.size w1 W → W.cell? ⟨nb, i, none⟩ = some (.string (bs ns[i]))) := fun W hW => (hW.cell (p := ⟨nb, i, none⟩) hnb1).trans hnc
      have kn := HKN.out wr HB.out
      have hnl : nb < wr.heap.size := lt_of_cell kn
      obtain ⟨lo, hlo, hlm, hle⟩ := HNL.out i hin
      have HLO : Hid (lo ∈ L ∧ lo.m.name = ns[i]) := ⟨hlo, hlm⟩
      have hsz1 : ¬ 9223372036854775807 < sb.size + (bs ns[i]).size := by rw [bs_size]; have := HS.out.2; omega
      obtain ⟨s1, hs1⟩ : ∃ s1, s1 = sb ++ bs ns[i] := ⟨_, rfl⟩
      have HS1 : Hid (s1.size ≤ i * 2000000 + 1000000) := by show _ ≤ _; rw [hs1, ByteArray.size_append, bs_size]; have := HS.out.2; omega
      have HMS : Hid (vars5.foldl (varS P ns[i]) s1 ++ ⟨#[59]⟩ = (ns.take (i + 1)).foldl (modS P) ⟨#[]⟩) := by
        show _ = _
        rw [fold_take (modS P) _ ns i hin, ← HS.out.1, hs1]
        rfl
      obtain ⟨w2, hw2⟩ : ∃ w2, w2 = wr.alloc (.cells #[.string ⟨#[120]⟩, .string ⟨#[121]⟩, .string ⟨#[116]⟩, .string ⟨#[117]⟩, .string ⟨#[122]⟩] 9) := ⟨_, rfl⟩
      have hv2 : w2.heap[wr.heap.size]? = some (.cells #[.string ⟨#[120]⟩, .string ⟨#[121]⟩, .string ⟨#[116]⟩, .string ⟨#[117]⟩, .string ⟨#[122]⟩] 9 (0, 0)) := by rw [hw2]; exact new_blk _ _
      have HB2 : Hid (Below w1.heap.size w1 w2) := by rw [hw2]; exact HB.out.alloc HB.out.size _
      obtain ⟨vb, hvb⟩ : ∃ vb, vb = wr.heap.size := ⟨_, rfl⟩
      rw [← hvb] at hv2
      have HV2 := Lib.hid hv2
      clear hnc hlo hlm hle hv2
      obtain ⟨nm, hnm⟩ : ∃ nm, nm = ns[i] := ⟨_, rfl⟩
      rw [← hnm] at HMS HLO HKN kn hs1 hsz1
      obtain ⟨bnm, hbnm⟩ : ∃ bnm, bnm = bs nm := ⟨_, rfl⟩
      rw [← hbnm] at HKN kn hs1 hsz1
      have HBN := Lib.hid hbnm
      clear hnm hbnm
      go_upto_region 8 with fail
      rw [← hw2, ← hvb, ← hs1]
      clear hw2 hvb hs1 kn hnl
      go_loopg [3, 29] 5 (fun k vs vj w3 => ∃ (j : Nat) (sb2 : ByteArray), j ≤ 5 ∧ k = 5 - j ∧ vj = .int .i64 (j : Int) ∧ vs = .string sb2 ∧ Hid (sb2 = (vars5.take j).foldl (varS P nm) s1 ∧ sb2.size ≤ i * 2000000 + 1000000 + j * 500) ∧ Hid (Below w2.heap.size w2 w3))
      case atStart => exact ⟨0, _, by omega, by omega, rfl, rfl, ⟨rfl, by have := HS1.out; omega⟩, Below.refl _ _⟩
      case round =>
        obtain ⟨j, sb2, hjd, hjk, rfl, rfl, HS2, HB3⟩ := hrel
        have HB3w : Hid (Below w1.heap.size w1 wr) := HB2.out.trans (HB3.out.mono HB2.out.size)
        by_cases hj : j < 5
        · have hj' : (j : Int) < 5 := by omega
          have hj0 : ¬ (j : Int) < 0 := by omega
          have hj5 : j < vars5.length := hj
          have kv : wr.cell? ⟨vb, j, none⟩ = some (.string (bs vars5[j])) := by
            refine (cell_blk ((HB3.out.block vb (lt_blk HV2.out)).trans HV2.out)).trans ?_
            match j, hj with
            | 0, _ => rfl
            | 1, _ => rfl
            | 2, _ => rfl
            | 3, _ => rfl
            | 4, _ => rfl
          have hv1 : vars5[j].length = 1 := by
            match j, hj with
            | 0, _ => rfl
            | 1, _ => rfl
            | 2, _ => rfl
            | 3, _ => rfl
            | 4, _ => rfl
          have hvl : vb < wr.heap.size := lt_of_cell kv
          have kn' := HKN.out wr HB3w.out
          have hnl' : nb < wr.heap.size := lt_of_cell kn'
          have hwr := HW1.out.more HB3w.out
          have hg := get_in hwr HLO.out.1 vars5[j] (by rw [hv1]; omega)
          rw [HLO.out.2, ← HBN.out] at hg
          have hgl : ∀ xs, Tp.getW P nm vars5[j] = some xs → xs.length ≤ 30 := fun xs hx => hwr.getlen HLO.out.1 (by rw [HLO.out.2]; exact hx)
          have HVS : Hid (varS P nm sb2 vars5[j] = (vars5.take (j + 1)).foldl (varS P nm) s1 ∧ (varS P nm sb2 vars5[j]).size ≤ i * 2000000 + 1000000 + (j + 1) * 500) := by
            refine ⟨?_, ?_⟩
            · rw [fold_take (varS P nm) s1 vars5 j hj5, ← HS2.out.1]
            · have := var_size hv1 hgl sb2
              have := HS2.out.2
              omega
          have hszv : ¬ 9223372036854775807 < sb2.size + (bs vars5[j]).size := by rw [bs_size, hv1]; have := HS2.out.2; omega
          have hsz1' : ¬ 9223372036854775807 < sb2.size + 1 := by have := HS2.out.2; omega
          clear hwr
          generalize vars5[j] = vq at *
          cases hgw : Tp.getW P nm vq with
          | none =>
            rw [hgw] at hg
            have HG : Hid (Calls Tryz.prog 23 #[.pointer (some ⟨wb, 0, none⟩), .string bnm, .string (bs vq)] wr fun e w' => Below wr.heap.size wr w' ∧ e = .returned (.tuple #[.slice none 0 0, .iface 44 (.int .i64 7)])) := hg
            have HV3 : Hid (sb2 ++ ⟨#[45]⟩ = (vars5.take (j + 1)).foldl (varS P nm) s1 ∧ (sb2 ++ ⟨#[45]⟩ : ByteArray).size ≤ i * 2000000 + 1000000 + (j + 1) * 500) := by
              have e : varS P nm sb2 vq = sb2 ++ ⟨#[45]⟩ := by unfold varS; rw [hgw]
              rw [← e]
              exact HVS.out
            clear hg hgl HVS hgw hv1
            generalize bs vq = vnm at *
            go_wp2_with fail
            refine HG.out.mono ?_
            rintro e w4 ⟨hb4, rfl⟩
            have HB4 : Hid (Below w2.heap.size w2 w4) := HB3.out.trans (hb4.mono HB3.out.size)
            clear hb4
            go_wp2_with fail
            go_roundg (5 - (j + 1))
            case measure => omega
            case rel => exact ⟨j + 1, _, by omega, rfl, by go_num, rfl, HV3, HB4⟩
          | some xs =>
            rw [hgw] at hg
            have hxl30 := hgl xs hgw
            have HG : Hid (Calls Tryz.prog 23 #[.pointer (some ⟨wb, 0, none⟩), .string bnm, .string (bs vq)] wr fun e w' => Below wr.heap.size wr w' ∧ ∃ oa oc, e = .returned (.tuple #[.slice oa xs.length oc, .nilIface]) ∧ IntsAt w' xs oa) := hg
            obtain ⟨s2, hs2⟩ : ∃ s2, s2 = sb2 ++ bs vq := ⟨_, rfl⟩
            have HV3 : Hid (xs.foldl numS s2 = (vars5.take (j + 1)).foldl (varS P nm) s1 ∧ (xs.foldl numS s2).size ≤ i * 2000000 + 1000000 + (j + 1) * 500) := by
              have e : varS P nm sb2 vq = xs.foldl numS s2 := by unfold varS; rw [hgw, hs2]
              rw [← e]
              exact HVS.out
            have HS2z : Hid (s2.size ≤ i * 2000000 + 1000000 + j * 500 + 1) := by
              show _ ≤ _
              rw [hs2, ByteArray.size_append, bs_size, hv1]
              have := HS2.out.2
              omega
            clear hg hgl HVS hgw hv1
            obtain ⟨xn, hxn⟩ : ∃ xn, xn = xs.length := ⟨_, rfl⟩
            rw [← hxn] at HG hxl30
            have HXN := Lib.hid hxn
            clear hxn
            generalize bs vq = vnm at *
            go_wp2_with fail
            refine HG.out.mono ?_
            rintro e w4 ⟨hb4, oa, oc, rfl, hia⟩
            have HB4 : Hid (Below w2.heap.size w2 w4) := HB3.out.trans (hb4.mono HB3.out.size)
            have HIA := Lib.hid hia
            clear hb4 hia kv kn' hnl' hvl
            go_wp2_with fail
            rw [← hs2]
            clear hs2 hszv
            go_loopg [3, 10] xn (fun k vs vj w3 => ∃ (q : Nat) (sb3 : ByteArray), q ≤ xn ∧ k = xn - q ∧ vj = .int .i64 (q : Int) ∧ vs = .string sb3 ∧ Hid (sb3 = (xs.take q).foldl numS s2) ∧ Hid (Below w4.heap.size w4 w3))
            case atStart => exact ⟨0, _, by omega, by omega, rfl, rfl, rfl, Below.refl _ _⟩
            case round =>
              obtain ⟨q, sb3, hqd, hqk, rfl, rfl, HS3, HB5⟩ := hrel
              by_cases hq : q < xn
              · have hq' : (q : Int) < (xn : Int) := by omega
                have hq0 : ¬ (q : Int) < 0 := by omega
                have hqx : q < xs.length := by have := HXN.out; omega
                obtain ⟨xb, xo, rfl, hxb, kx⟩ := (HIA.out.on HB5.out).c q hqx
                have HNX : Hid (numS sb3 xs[q] = (xs.take (q + 1)).foldl numS s2) := by
                  show _ = _
                  rw [fold_take numS s2 xs q hqx, ← HS3.out]
                have HZ3 : Hid (sb3.size ≤ 100000000) := by
                  show _ ≤ _
                  rw [HS3.out, nums_size, List.length_take]
                  have := HS2z.out
                  omega
                generalize xs[q] = x at *
                go_upto_region 19 with fail
                obtain ⟨u0, hu0⟩ : ∃ u0, u0 = IntKind.u64.wrap x := ⟨_, rfl⟩
                have HU0 : Hid ((it4 sb3 u0 8).1 = (xs.take (q + 1)).foldl numS s2) := by show _ = _; rw [hu0]; exact HNX.out
                rw [← hu0]
                clear hu0 kx HNX
                go_loopg [3, 11, 12] 8 (fun k vs vu vj w3 => ∃ (r : Nat) (sb4 : ByteArray) (u : Int), r ≤ 8 ∧ k = 8 - r ∧ vj = .int .i64 (r : Int) ∧ vs = .string sb4 ∧ vu = .int .u64 u ∧ Hid (it4 sb3 u0 r = (sb4, u)) ∧ Hid (Below w4.heap.size w4 w3))
                case atStart => exact ⟨0, _, _, by omega, by omega, rfl, rfl, rfl, rfl, HB5⟩
                case round =>
                  obtain ⟨r, sb4, u, hrd, hrk, rfl, rfl, rfl, HS4, HB6⟩ := hrel
                  by_cases hr : r < 8
                  · have hr' : (r : Int) < 8 := by omega
                    have hsz4 : ¬ 9223372036854775807 < sb4.size + 2 := by
                      have e := it4_size sb3 u0 r
                      rw [HS4.out] at e
                      have e' : sb4.size = sb3.size + 2 * r := e
                      have := HZ3.out
                      omega
                    have hcv : (convert 81 9 (.slice (some ⟨wr.heap.size, 0, none⟩) 2 2)).run Tryz.prog (wr.alloc (.cells #[.int .u8 (IntKind.u64.wrap (97 + bits .and .u64 u 15) % 256), .int .u8 (IntKind.u64.wrap (97 + bits .and .u64 (u / 16) 15) % 256)] 5)) = .ok (.string (twoB u)) (wr.alloc (.cells #[.int .u8 (IntKind.u64.wrap (97 + bits .and .u64 u 15) % 256), .int .u8 (IntKind.u64.wrap (97 + bits .and .u64 (u / 16) 15) % 256)] 5)) :=
                      Tryz.convB _ _ _ ((cell_blk (new_blk wr _)).trans rfl) ((cell_blk (new_blk wr _)).trans rfl)
                    have HNX4 : Hid (it4 sb3 u0 (r + 1) = (sb4 ++ twoB u, u / 256)) := by
                      show (((it4 sb3 u0 r).1 ++ twoB (it4 sb3 u0 r).2, (it4 sb3 u0 r).2 / 256) : ByteArray × Int) = _
                      rw [HS4.out]
                    have ht2 : (twoB u).size = 2 := rfl
                    obtain ⟨tb2, htb2⟩ : ∃ tb2, tb2 = twoB u := ⟨_, rfl⟩
                    rw [← htb2] at hcv HNX4 ht2
                    rw [← ht2] at hsz4
                    obtain ⟨w7, hw7⟩ : ∃ w7, w7 = wr.alloc (.cells #[.int .u8 (IntKind.u64.wrap (97 + bits .and .u64 u 15) % 256), .int .u8 (IntKind.u64.wrap (97 + bits .and .u64 (u / 16) 15) % 256)] 5) := ⟨_, rfl⟩
                    have HB7 : Hid (Below w4.heap.size w4 w7) := by rw [hw7]; exact HB6.out.alloc HB6.out.size _
                    clear htb2 ht2
                    go_wp2_with fail
                    rw [← hw7]
                    go_roundg (8 - (r + 1))
                    case measure => omega
                    case rel => exact ⟨r + 1, _, _, by omega, rfl, by go_num, rfl, rfl, HNX4, HB7⟩
                  · have hr' : ¬ (r : Int) < 8 := by omega
                    have HE : Hid (sb4 = (xs.take (q + 1)).foldl numS s2) := by
                      have h8 : r = 8 := by omega
                      have e := HS4.out
                      rw [h8] at e
                      show _ = _
                      rw [← HU0.out, e]
                    go_wp2_with fail
                    go_roundg (xn - (q + 1))
                    case measure => omega
                    case rel => exact ⟨q + 1, _, by omega, rfl, by go_num, rfl, HE, HB6⟩
              · have hq' : ¬ (q : Int) < (xn : Int) := by omega
                have HE : Hid (sb3 = (vars5.take (j + 1)).foldl (varS P nm) s1 ∧ sb3.size ≤ i * 2000000 + 1000000 + (j + 1) * 500) := by
                  have e : sb3 = xs.foldl numS s2 := by rw [HS3.out, List.take_of_length_le (by have := HXN.out; omega)]
                  rw [e]
                  exact HV3.out
                have HB5w : Hid (Below w2.heap.size w2 wr) := HB4.out.trans (HB5.out.mono HB4.out.size)
                go_wp2_with fail
                go_roundg (5 - (j + 1))
                case measure => omega
                case rel => exact ⟨j + 1, _, by omega, rfl, by go_num, rfl, HE, HB5w⟩
        · have hj' : ¬ (j : Int) < 5 := by omega
          have hsz3 : ¬ 9223372036854775807 < sb2.size + 1 := by have := HS2.out.2; omega
          have HE : Hid (sb2 ++ ⟨#[59]⟩ = (ns.take (i + 1)).foldl (modS P) ⟨#[]⟩ ∧ (sb2 ++ ⟨#[59]⟩ : ByteArray).size ≤ (i + 1) * 2000000) := by
            have hj5 : j = 5 := by omega
            refine ⟨?_, ?_⟩
            · rw [← HMS.out, HS2.out.1, hj5]; rfl
            · rw [ByteArray.size_append]; have := HS2.out.2; show _ + 1 ≤ _; omega
          go_wp2_with fail
          go_roundg (ln - (i + 1))
          case measure => omega
          case rel => exact ⟨i + 1, _, by omega, rfl, by go_num, rfl, HE, HB3w⟩
    · have hlt' : ¬ (i : Int) < (ln : Int) := by omega
      have HE : Hid (sb = rs) := by
        show sb = rs
        rw [HRS.out, HS.out.1, List.take_of_length_le (by have := HLN.out; omega)]
      have hwl1 := HB1.out.size
      go_wp2_with fail
      go_ret
      exact ⟨by rw [← HE.out]; rfl, HB1.out.trans (HB.out.mono hwl1)⟩
end Go.Proofs.YtibncofnnlbmcaaGreatDoor
/- Small ones of RunRests: pick, ends, all of an empty world. -/
namespace Go.Proofs.YtibncofnnlbmcaaGreatDoor
open Go.RowKit Go.Maps
open Tp (Bs X S G Pr Pt Rs Rr Own)

set_option maxRecDepth 100000 in
theorem all_zero {w : World} {wb : Nat} (hb : w.heap[wb]? = some (.cells #[.slice none 0 0, .map none] 28 (0, 0))) :
    Calls Tryz.prog 13 #[.pointer (some ⟨wb, 0, none⟩)] w fun e w' => e = .returned (.string ⟨#[]⟩) ∧ Below w.heap.size w w' := by
  have HN := Lib.hid (names_any (ns := []) hb (World.ownsRow_nil _ _ _ _) (by simp))
  clear hb
  go_enter Tryz.func13, Tryz.ntmps13
  go_wp2_with fail
  refine HN.out.mono ?_
  rintro e w1 ⟨v', rfl, hb1, ho1⟩
  obtain ⟨na, nc, rfl⟩ := owns_shape ho1
  have HB1 := Lib.hid hb1
  clear hb1 ho1 HN
  have e0 : ([] : List Bs).length = 0 := rfl
  rw [e0]
  go_wp2_with fail
  refine wp_loop_rounds 1 ?_
  rw [rounds_succ]
  go_wp2_with fail
  go_ret
  exact ⟨rfl, HB1.out⟩
set_option maxRecDepth 100000 in
theorem tell_nil (w : World) : Calls Tryz.prog 25 #[.nilIface] w fun e w' => e = .returned (.int .i64 0) ∧ Below w.heap.size w w' := by
  go_enter Tryz.func25, Tryz.ntmps25
  go_wp2_with fail
  go_ret
  exact ⟨rfl, Below.refl _ _⟩
end Go.Proofs.YtibncofnnlbmcaaGreatDoor
/- Chapter 4: Load on the empty world: whatever is found, one form. -/
namespace Go.Proofs.YtibncofnnlbmcaaGreatDoor
open Go.RowKit Go.Maps
open Tp (Bs X S G Pr Pt Rs Rr Own)

def tellN : Option (Nat × Option Nat) → Nat
  | none => 0
  | some er => er.1
def EvT (B : Nat) (w' : World) (er : Option (Nat × Option Nat)) (ev : Value) : Prop := match er with
  | none => ev = .nilIface
  | some e => ErrV B w' e ev
theorem tell_any {B b2 : Nat} {w' W : World} {er : Option (Nat × Option Nat)} {ev : Value} (h : EvT B w' er ev) (hb : b2 < B) (hx : Ext b2 w' W) (het : ErT W) : Calls Tryz.prog 25 #[ev] W fun e w'' => e = .returned (.int .i64 (tellN er : Int)) ∧ Below W.heap.size W w'' := by
  cases er with
  | none => obtain rfl : ev = .nilIface := h; exact tell_nil W
  | some e =>
    obtain ⟨n, po⟩ := e
    cases po with
    | none =>
      have h' : ev = .iface 44 (.int .i64 (n : Int)) := h
      subst h'
      exact tell_en (n : Int) W het
    | some pl =>
      obtain ⟨ab, rfl, h1, h2, _⟩ : ∃ ab, ev = .iface 117 (.pointer (some ⟨ab, 0, none⟩)) ∧ B ≤ ab ∧ w'.cell? ⟨ab, 0, none⟩ = some (.int .i64 (n : Int)) ∧ w'.cell? ⟨ab, 1, none⟩ = some (.int .i64 (pl : Int)) := h
      exact tell_at (n : Int) ab W het ((World.cell?_of_block (w := w') (hx.block ab (lt_of_cell h2) (by omega))).trans h2)
end Go.Proofs.YtibncofnnlbmcaaGreatDoor
