import Derived.Test.YthkdefhngkangaaDoorKWY
/- TreeBlanks, walked: pick; what ends it early. -/
namespace Go.Proofs.YthkdefhngkangaaDoor
open Go.RowKit

def pk (x : Int) : Nat := (IntKind.u64.wrap x % 4).toNat
theorem pk_lt (x : Int) : pk x < 4 := by unfold pk; omega
set_option maxRecDepth 100000 in
theorem pick_post (w : World) (x : Int) : Calls Tryd.prog 11 #[.int .i64 x, .int .i64 4] w fun e w' => e = .returned (.int .i64 (pk x : Int)) ∧ w' = w := by
  have h0 : 0 ≤ IntKind.u64.wrap x := by rw [IntKind.wrap_u64]; omega
  have h1 : IntKind.u64.wrap 4 = 4 := by decide
  have h2 : Int.tmod (IntKind.u64.wrap x) 4 = (pk x : Int) := by
    unfold pk
    rw [Int.tmod_eq_emod_of_nonneg h0]
    omega
  have h3 := pk_lt x
  have h4 : IntKind.i64.wrap (pk x : Int) = (pk x : Int) := by rw [IntKind.wrap_i64]; omega
  have h5 : IntKind.u64.wrap (pk x : Int) = (pk x : Int) := by rw [IntKind.wrap_u64]; omega
  go_enter Tryd.func11, Tryd.ntmps11
  go_wp2_with fail
  go_ret
  exact ⟨rfl, rfl⟩
/- the numbers that came in -/
structure Nums (w : World) (xs : List Int) (a : Option Addr) : Prop where
  c : ∀ i (h : i < xs.length), ∃ b o, a = some ⟨b, o, none⟩ ∧ b < w.heap.size ∧ w.cell? ⟨b, o + i, none⟩ = some (.int .i64 xs[i])
theorem Nums.on {w w' : World} {xs : List Int} {a : Option Addr} (h : Nums w xs a) (k : Below w.heap.size w w') : Nums w' xs a :=
  ⟨fun i hi => by obtain ⟨b, o, h1, h2, h3⟩ := h.c i hi; exact ⟨b, o, h1, Nat.lt_of_lt_of_le h2 k.size, (k.cell (p := ⟨b, o + i, none⟩) h2).trans h3⟩⟩
set_option maxRecDepth 100000 in
theorem treeBlanks_long {w : World} {l : List UInt8} {a : Option Addr} {n c : Nat} (h : 550 < l.length ∨ 40 < n) : Calls Tryd.prog 4 #[.string (bs l), .slice a n c] w fun e w' => e = .returned (.bool true) ∧ Below w.heap.size w w' := by
  by_cases h1 : 550 < l.length
  · have hs : (550 : Int) < ((bs l).size : Int) := by rw [bs_size]; omega
    go_enter Tryd.func4, Tryd.ntmps4
    go_wp2_with fail
    go_ret
    exact ⟨rfl, Below.refl _ _⟩
  · have hs : ¬ (550 : Int) < ((bs l).size : Int) := by rw [bs_size]; omega
    have hn : (40 : Int) < (n : Int) := by omega
    go_enter Tryd.func4, Tryd.ntmps4
    go_wp2_with fail
    go_ret
    exact ⟨rfl, Below.refl _ _⟩
set_option maxRecDepth 100000 in
set_option maxHeartbeats 1000000 in
theorem treeBlanks_bad {w : World} {B : Nat} {l : List UInt8} {er : Nat × Nat} {a : Option Addr} {n c : Nat} (h : l.length ≤ 550) (hn : n ≤ 40) (hp : Tp.parse l = .error er) (hv : Vars B w) (hB : B ≤ w.heap.size) : Calls Tryd.prog 4 #[.string (bs l), .slice a n c] w fun e w' => e = .returned (.bool true) ∧ Below w.heap.size w w' := by
  have hs : ((bs l).size : Int) ≤ 550 := by rw [bs_size]; omega
  have hn' : (n : Int) ≤ 40 := by omega
  have H1 := Lib.hid (parsed_post hv hB)
  have HV := Lib.hid hv
  clear hv
  go_enter Tryd.func4, Tryd.ntmps4
  go_wp2_with fail
  refine H1.out.mono ?_
  rintro e w1 ⟨rfl, h1⟩
  have hc := parse_post w1 l (by omega) (HV.out.on (h1.mono hB)).mks (HV.out.on (h1.mono hB)).lv
  have HP : Hid (Calls Tryd.prog 8 #[.string (bs l)] w1 fun e w' => Below w1.heap.size w1 w' ∧ ∃ ab, e = .returned (.tuple #[.agg m0, .iface 75 (.pointer (some ⟨ab, 0, none⟩))])) := by
    refine hc.mono ?_
    rintro e w' ⟨q1, q2⟩
    unfold ParseP at q2
    rw [hp] at q2
    obtain ⟨ab, q3, _⟩ := q2
    exact ⟨q1, ab, q3⟩
  have H2 := Lib.hid h1
  clear hc h1 H1 HV
  go_wp2_with fail
  refine HP.out.mono ?_
  rintro e w2 ⟨h2, ab, rfl⟩
  have H3 := Lib.hid (H2.out.trans (h2.mono H2.out.size))
  clear h2
  unfold m0
  go_wp2_with fail
  go_ret
  exact ⟨rfl, H3.out.trans (((Below.refl _ _).alloc (Nat.le_refl _) _).mono H3.out.size)⟩
end Go.Proofs.YthkdefhngkangaaDoor
/- TreeBlanks, walked: a text that is a module. -/
namespace Go.Proofs.YthkdefhngkangaaDoor
open Go.RowKit

/- the texts that may stand for a blank -/
def chs : List (List UInt8) := [[32], [10], [32, 32, 10], [32, 32, 32]]
def chT (xs : List Int) (n : Nat) : List UInt8 := chs.getD (pk (xs.getD (n % xs.length) 0)) [32]
theorem chs_bl (k : Nat) : Tp.bl (chs.getD k [32]) ∧ (chs.getD k [32]).length ≤ 3 := by
  match k with
  | 0 => exact ⟨⟨by decide, by decide⟩, by decide⟩
  | 1 => exact ⟨⟨by decide, by decide⟩, by decide⟩
  | 2 => exact ⟨⟨by decide, by decide⟩, by decide⟩
  | 3 => exact ⟨⟨by decide, by decide⟩, by decide⟩
  | k + 4 => exact ⟨⟨by simp [chs], by simp [chs, Tp.blank]⟩, by simp [chs]⟩
theorem bs_append (a b : List UInt8) : bs a ++ bs b = bs (a ++ b) := by
  apply ByteArray.ext
  simp [bs]
theorem spr_step {ch : Nat → Tp.Bs} {t o : List UInt8} {k i : Nat} (h : i < t.length) (e : Tp.spr ch 0 t = o ++ Tp.spr ch k (t.drop i)) :
    (Tp.blank t[i] = true → Tp.spr ch 0 t = (o ++ ch k) ++ Tp.spr ch (k + 1) (t.drop (i + 1))) ∧ (Tp.blank t[i] = false → Tp.spr ch 0 t = (o ++ [t[i]]) ++ Tp.spr ch k (t.drop (i + 1))) := by
  rw [List.drop_eq_getElem_cons h, Tp.spr] at e
  refine ⟨fun hb => ?_, fun hb => ?_⟩
  · rw [hb, if_pos rfl] at e
    rw [e, List.append_assoc]
  · rw [hb, if_neg (by decide)] at e
    rw [e, List.append_assoc]
    rfl
theorem Tryd.ix0 : ∀ W, (Instr.index 37 (.agg #[.string ⟨#[32]⟩, .string ⟨#[10]⟩, .string ⟨#[32, 32, 10]⟩, .string ⟨#[32, 32, 32]⟩]) (.int .i64 0)).run Tryd.prog W = .ok (.string ⟨#[32]⟩) W := fun _ => by kernel_rfl
theorem Tryd.ix1 : ∀ W, (Instr.index 37 (.agg #[.string ⟨#[32]⟩, .string ⟨#[10]⟩, .string ⟨#[32, 32, 10]⟩, .string ⟨#[32, 32, 32]⟩]) (.int .i64 1)).run Tryd.prog W = .ok (.string ⟨#[10]⟩) W := fun _ => by kernel_rfl
theorem Tryd.ix2 : ∀ W, (Instr.index 37 (.agg #[.string ⟨#[32]⟩, .string ⟨#[10]⟩, .string ⟨#[32, 32, 10]⟩, .string ⟨#[32, 32, 32]⟩]) (.int .i64 2)).run Tryd.prog W = .ok (.string ⟨#[32, 32, 10]⟩) W := fun _ => by kernel_rfl
theorem Tryd.ix3 : ∀ W, (Instr.index 37 (.agg #[.string ⟨#[32]⟩, .string ⟨#[10]⟩, .string ⟨#[32, 32, 10]⟩, .string ⟨#[32, 32, 32]⟩]) (.int .i64 3)).run Tryd.prog W = .ok (.string ⟨#[32, 32, 32]⟩) W := fun _ => by kernel_rfl
theorem ext1 {t : List UInt8} {i : Nat} (h : i < t.length) : (bs t).extract i (i + 1) = bs [t[i]] := by
  apply ByteArray.ext
  simp [bs, ByteArray.data_extract]
  rw [List.drop_eq_getElem_cons h]
  rfl
set_option maxRecDepth 100000 in
set_option maxHeartbeats 4000000 in
theorem treeBlanks_good {w : World} {B : Nat} {l : List UInt8} {m : Tp.M} {xs : List Int} {a : Option Addr} {c : Nat} (h : l.length ≤ 550) (hn : xs.length ≤ 40) (hnum : Nums w xs a) (hp : Tp.parse l = .ok m) (hv : Vars B w) (hB : B ≤ w.heap.size) : Calls Tryd.prog 4 #[.string (bs l), .slice a xs.length c] w fun e w' => e = .returned (.bool true) ∧ Below w.heap.size w w' := by
  have hs : ((bs l).size : Int) ≤ 550 := by rw [bs_size]; omega
  obtain ⟨hwm, hps⟩ := Tp.print_short hp (by omega)
  obtain ⟨n, hpn, hprn⟩ := Tp.blanks hp (by omega) (chT xs) (fun k => (chs_bl _).1)
  have hsl := Tp.spr_len (chT xs) (fun k => (chs_bl _).2) (Tp.print m) 0
  have hwn := (Tp.parse_wm hpn).1
  have H1 := Lib.hid (parsed_post hv hB)
  have HV := Lib.hid hv
  have HNU := Lib.hid hnum
  clear hv hnum
  obtain ⟨t, ht⟩ : ∃ t, t = Tp.print m := ⟨_, rfl⟩
  rw [← ht] at hps hpn hprn hsl
  obtain ⟨u, hu⟩ : ∃ u, u = Tp.spr (chT xs) 0 t := ⟨_, rfl⟩
  rw [← hu] at hpn hsl
  have hxn' : (xs.length : Int) ≤ 40 := by omega
  obtain ⟨xn, hxn⟩ : ∃ xn, xn = xs.length := ⟨_, rfl⟩
  rw [← hxn] at hxn' ⊢
  have HXN := Lib.hid hxn
  clear hxn
  go_enter Tryd.func4, Tryd.ntmps4
  go_wp2_with fail
  refine H1.out.mono ?_
  rintro e w1 ⟨rfl, h1⟩
  have hv1 := HV.out.on (h1.mono hB)
  have hc := parse_post w1 l (by omega) hv1.mks hv1.lv
  have HP : Hid (Calls Tryd.prog 8 #[.string (bs l)] w1 fun e w' => Below w1.heap.size w1 w' ∧ ∃ v, e = .returned (.tuple #[v, .nilIface]) ∧ VM w1.heap.size m v w') := by
    refine hc.mono ?_
    rintro e w' ⟨q1, q2⟩
    unfold ParseP at q2
    rw [hp] at q2
    exact ⟨q1, q2⟩
  have H2 := Lib.hid h1
  clear hc h1 H1 hv1
  go_wp2_with fail
  refine HP.out.mono ?_
  rintro e w2 ⟨h2, v2, rfl, hvm⟩
  obtain ⟨ia, ga, pa, ba, ic, gc, pc, bc, rfl, hmb⟩ := hvm.mb
  have H3 := Lib.hid (H2.out.trans (h2.mono H2.out.size))
  have hsz2 := H3.out.size
  have hal2 : ∀ ob, Below w2.heap.size w2 (w2.alloc ob) := fun ob => (Below.refl _ _).alloc (Nat.le_refl _) _
  have hpr : ∀ ob, Calls Tryd.prog 9 #[.agg (mcells (bs m.name) (.slice ia m.imports.length ic) (.slice ga m.vars.length gc) (.slice pa m.procs.length pc) (.slice ba m.body.length bc))] (w2.alloc ob) fun e w' => e = .returned (.string (bs t)) ∧ Below (w2.alloc ob).heap.size (w2.alloc ob) w' := fun ob => by
    rw [ht]
    exact print_post hwm (hmb.up (hal2 ob)) (((HV.out.on (H3.out.mono hB)).on ((hal2 ob).mono (by omega))).wr (by simp; omega)) (by rw [← ht]; omega)
  have HPR : Hid (∀ ob, Calls Tryd.prog 9 #[.agg #[.string (bs m.name), .slice ia m.imports.length ic, .slice ga m.vars.length gc, .slice pa m.procs.length pc, .slice ba m.body.length bc]] (w2.alloc ob) fun e w' => e = .returned (.string (bs t)) ∧ Below (w2.alloc ob).heap.size (w2.alloc ob) w') := hpr
  have HAL2 := Lib.hid hal2
  have e0 : mcells (bs m.name) (.slice ia m.imports.length ic) (.slice ga m.vars.length gc) (.slice pa m.procs.length pc) (.slice ba m.body.length bc) = #[.string (bs m.name), .slice ia m.imports.length ic, .slice ga m.vars.length gc, .slice pa m.procs.length pc, .slice ba m.body.length bc] := rfl
  rw [e0]
  have HW := Lib.hid hwn
  have HPS := Lib.hid hps
  have HSL := Lib.hid hsl
  have HPN := Lib.hid hpn
  have HPRN := Lib.hid hprn
  have HU := Lib.hid hu
  clear hpr hal2 hmb hvm h2 e0 HP H2 hwm hwn hps hpn hprn ht hp hsl hu
  generalize m.imports.length = inn at *
  generalize m.vars.length = gn at *
  generalize m.procs.length = pn at *
  generalize m.body.length = bn at *
  generalize m.name = nm at *
  by_cases hx0 : xn = 0
  · have hx0' : (xn : Int) = 0 := by omega
    go_wp2_with fail
    go_ret
    exact ⟨rfl, H3.out.trans ((HAL2.out _).mono hsz2)⟩
  have hx0' : ¬ (xn : Int) = 0 := by omega
  go_wp2_with fail
  refine (HPR.out _).mono ?_
  rintro e w3 ⟨rfl, h3⟩
  have H4 := Lib.hid ((HAL2.out _).trans (h3.mono (by simp)))
  have H5 := Lib.hid (H3.out.trans (H4.out.mono hsz2))
  clear h3 HPR
  have hts : (bs t).size = t.length := bs_size t
  go_wp2_with fail
  go_loopg [8, 9, 10] t.length (fun k vo vn vi wr => ∃ (i j : Nat) (o : List UInt8), i ≤ t.length ∧ k = t.length - i ∧ j ≤ i ∧ vi = .int .i64 (i : Int) ∧ vn = .int .i64 (j : Int) ∧ vo = .string (bs o) ∧ Hid (u = o ++ Tp.spr (chT xs) j (t.drop i)) ∧ wr = w3)
  case atStart => exact ⟨0, 0, [], by omega, by omega, by omega, rfl, rfl, rfl, by unfold Hid; rw [HU.out]; simp, rfl⟩
  case round =>
    obtain ⟨i, j, o, hi, hk, hji, rfl, rfl, rfl, HO, rfl⟩ := hrel
    have hpl := HPS.out
    by_cases hlt : i < t.length
    · have hlt' : (i : Int) < ((bs t).size : Int) := by omega
      have hgb : i < (bs t).size := by omega
      have hbt : (bs t)[i] = t[i] := by simp [bs, ByteArray.getElem_eq_getElem_data]; rfl
      have hol : o.length ≤ u.length := by have := congrArg List.length HO.out; simp at this; omega
      have hou := HSL.out
      have hcat : ¬ 9223372036854775807 < (bs o).size + (min (i + 1) t.length - i) := by rw [bs_size]; omega
      have hst := spr_step (ch := chT xs) hlt (HU.out.symm.trans HO.out)
      by_cases h32 : ((bs t)[i].toNat : Int) = 32
      · skip
        have hbl : Tp.blank t[i] = true := by
          rw [hbt] at h32
          have e : t[i] = 32 := UInt8.toNat_inj.1 (by have h9 : (32 : UInt8).toNat = 32 := rfl; omega)
          rw [e]; rfl
        have h32b : (((bs t)[i].toNat : Int) == 32) = true := by rw [beq_iff_eq]; exact h32
        have HO2 := Lib.hid (HU.out.trans (hst.1 hbl))
        obtain ⟨q, hq⟩ : ∃ q, q = j % xn := ⟨_, rfl⟩
        have hqn : q < xn := by rw [hq]; exact Nat.mod_lt _ (by omega)
        have hqn' : (q : Int) < (xn : Int) := by omega
        have hq' : (j : Int) % (xn : Int) = (q : Int) := by rw [hq]; simp
        obtain ⟨bb, ob, hab, hbb, hcb⟩ := (HNU.out.on H5.out).c q (by have := HXN.out; omega)
        subst hab
        have HPK := Lib.hid (pick_post wr xs[q])
        have hcat4 : ∀ x : List UInt8, x.length ≤ 3 → ¬ 9223372036854775807 < (bs o).size + x.length := by intro x hx; rw [bs_size]; omega
        have HCH : Hid (chT xs j = chs.getD (pk (xs[q]'(by have := HXN.out; omega))) [32]) := by
          unfold Hid chT
          rw [show j % xs.length = q by rw [hq, HXN.out]]
          simp [List.getD, show q < xs.length by have := HXN.out; omega]
        generalize xs[q] = x at hcb HPK HCH
        have hpk := pk_lt x
        have hc1 := hcat4 [32] (by simp)
        have hc3 := hcat4 [32, 32, 32] (by simp)
        simp only [List.length_cons, List.length_nil] at hc1 hc3
        clear hst hbt hbl HO hol hou hcat hcat4 hq
        go_wp2_with fail
        refine HPK.out.mono ?_
        rintro e w9 ⟨rfl, rfl⟩
        have hp4 : pk x = 0 ∨ pk x = 1 ∨ pk x = 2 ∨ pk x = 3 := by omega
        rcases hp4 with hp4 | hp4 | hp4 | hp4
        · rw [hp4] at HCH ⊢
          have HO3 : Hid (u = (o ++ [32]) ++ Tp.spr (chT xs) (j + 1) (t.drop (i + 1))) := by
            have := HO2.out
            rw [HCH.out] at this
            exact this
          clear HCH HO2 hp4 hpk
          have hix := Tryd.ix0
          go_wp2_with fail
          go_roundg (t.length - (i + 1))
          case measure => omega
          case rel => exact ⟨i + 1, j + 1, o ++ [32], by omega, by omega, by omega, by go_num, by go_num, by rw [← bs_append]; rfl, HO3, rfl⟩
        · rw [hp4] at HCH ⊢
          have HO3 : Hid (u = (o ++ [10]) ++ Tp.spr (chT xs) (j + 1) (t.drop (i + 1))) := by
            have := HO2.out
            rw [HCH.out] at this
            exact this
          clear HCH HO2 hp4 hpk
          have hix := Tryd.ix1
          go_wp2_with fail
          go_roundg (t.length - (i + 1))
          case measure => omega
          case rel => exact ⟨i + 1, j + 1, o ++ [10], by omega, by omega, by omega, by go_num, by go_num, by rw [← bs_append]; rfl, HO3, rfl⟩
        · rw [hp4] at HCH ⊢
          have HO3 : Hid (u = (o ++ [32, 32, 10]) ++ Tp.spr (chT xs) (j + 1) (t.drop (i + 1))) := by
            have := HO2.out
            rw [HCH.out] at this
            exact this
          clear HCH HO2 hp4 hpk
          have hix := Tryd.ix2
          go_wp2_with fail
          go_roundg (t.length - (i + 1))
          case measure => omega
          case rel => exact ⟨i + 1, j + 1, o ++ [32, 32, 10], by omega, by omega, by omega, by go_num, by go_num, by rw [← bs_append]; rfl, HO3, rfl⟩
        · rw [hp4] at HCH ⊢
          have HO3 : Hid (u = (o ++ [32, 32, 32]) ++ Tp.spr (chT xs) (j + 1) (t.drop (i + 1))) := by
            have := HO2.out
            rw [HCH.out] at this
            exact this
          clear HCH HO2 hp4 hpk
          have hix := Tryd.ix3
          go_wp2_with fail
          go_roundg (t.length - (i + 1))
          case measure => omega
          case rel => exact ⟨i + 1, j + 1, o ++ [32, 32, 32], by omega, by omega, by omega, by go_num, by go_num, by rw [← bs_append]; rfl, HO3, rfl⟩
      · by_cases h10 : ((bs t)[i].toNat : Int) = 10
        · skip
          have hbl : Tp.blank t[i] = true := by
            rw [hbt] at h10
            have e : t[i] = 10 := UInt8.toNat_inj.1 (by have h9 : (10 : UInt8).toNat = 10 := rfl; omega)
            rw [e]; rfl
          have h32b : (((bs t)[i].toNat : Int) == 32) = false := by rw [beq_eq_false_iff_ne]; exact h32
          have h10b : (((bs t)[i].toNat : Int) == 10) = true := by rw [beq_iff_eq]; exact h10
          have HO2 := Lib.hid (HU.out.trans (hst.1 hbl))
          obtain ⟨q, hq⟩ : ∃ q, q = j % xn := ⟨_, rfl⟩
          have hqn : q < xn := by rw [hq]; exact Nat.mod_lt _ (by omega)
          have hqn' : (q : Int) < (xn : Int) := by omega
          have hq' : (j : Int) % (xn : Int) = (q : Int) := by rw [hq]; simp
          obtain ⟨bb, ob, hab, hbb, hcb⟩ := (HNU.out.on H5.out).c q (by have := HXN.out; omega)
          subst hab
          have HPK := Lib.hid (pick_post wr xs[q])
          have hcat4 : ∀ x : List UInt8, x.length ≤ 3 → ¬ 9223372036854775807 < (bs o).size + x.length := by intro x hx; rw [bs_size]; omega
          have HCH : Hid (chT xs j = chs.getD (pk (xs[q]'(by have := HXN.out; omega))) [32]) := by
            unfold Hid chT
            rw [show j % xs.length = q by rw [hq, HXN.out]]
            simp [List.getD, show q < xs.length by have := HXN.out; omega]
          generalize xs[q] = x at hcb HPK HCH
          have hpk := pk_lt x
          have hc1 := hcat4 [32] (by simp)
          have hc3 := hcat4 [32, 32, 32] (by simp)
          simp only [List.length_cons, List.length_nil] at hc1 hc3
          clear hst hbt hbl HO hol hou hcat hcat4 hq
          go_wp2_with fail
          refine HPK.out.mono ?_
          rintro e w9 ⟨rfl, rfl⟩
          have hp4 : pk x = 0 ∨ pk x = 1 ∨ pk x = 2 ∨ pk x = 3 := by omega
          rcases hp4 with hp4 | hp4 | hp4 | hp4
          · rw [hp4] at HCH ⊢
            have HO3 : Hid (u = (o ++ [32]) ++ Tp.spr (chT xs) (j + 1) (t.drop (i + 1))) := by
              have := HO2.out
              rw [HCH.out] at this
              exact this
            clear HCH HO2 hp4 hpk
            have hix := Tryd.ix0
            go_wp2_with fail
            go_roundg (t.length - (i + 1))
            case measure => omega
            case rel => exact ⟨i + 1, j + 1, o ++ [32], by omega, by omega, by omega, by go_num, by go_num, by rw [← bs_append]; rfl, HO3, rfl⟩
          · rw [hp4] at HCH ⊢
            have HO3 : Hid (u = (o ++ [10]) ++ Tp.spr (chT xs) (j + 1) (t.drop (i + 1))) := by
              have := HO2.out
              rw [HCH.out] at this
              exact this
            clear HCH HO2 hp4 hpk
            have hix := Tryd.ix1
            go_wp2_with fail
            go_roundg (t.length - (i + 1))
            case measure => omega
            case rel => exact ⟨i + 1, j + 1, o ++ [10], by omega, by omega, by omega, by go_num, by go_num, by rw [← bs_append]; rfl, HO3, rfl⟩
          · rw [hp4] at HCH ⊢
            have HO3 : Hid (u = (o ++ [32, 32, 10]) ++ Tp.spr (chT xs) (j + 1) (t.drop (i + 1))) := by
              have := HO2.out
              rw [HCH.out] at this
              exact this
            clear HCH HO2 hp4 hpk
            have hix := Tryd.ix2
            go_wp2_with fail
            go_roundg (t.length - (i + 1))
            case measure => omega
            case rel => exact ⟨i + 1, j + 1, o ++ [32, 32, 10], by omega, by omega, by omega, by go_num, by go_num, by rw [← bs_append]; rfl, HO3, rfl⟩
          · rw [hp4] at HCH ⊢
            have HO3 : Hid (u = (o ++ [32, 32, 32]) ++ Tp.spr (chT xs) (j + 1) (t.drop (i + 1))) := by
              have := HO2.out
              rw [HCH.out] at this
              exact this
            clear HCH HO2 hp4 hpk
            have hix := Tryd.ix3
            go_wp2_with fail
            go_roundg (t.length - (i + 1))
            case measure => omega
            case rel => exact ⟨i + 1, j + 1, o ++ [32, 32, 32], by omega, by omega, by omega, by go_num, by go_num, by rw [← bs_append]; rfl, HO3, rfl⟩
        · have hbl : Tp.blank t[i] = false := by
            rw [hbt] at h32 h10
            unfold Tp.blank
            rw [Bool.or_eq_false_iff]
            constructor
            · rw [beq_eq_false_iff_ne]; intro e; rw [e] at h32; exact h32 rfl
            · rw [beq_eq_false_iff_ne]; intro e; rw [e] at h10; exact h10 rfl
          have HO2 := Lib.hid (HU.out.trans (hst.2 hbl))
          have h32b : (((bs t)[i].toNat : Int) == 32) = false := by rw [beq_eq_false_iff_ne]; exact h32
          have h10b : (((bs t)[i].toNat : Int) == 10) = false := by rw [beq_eq_false_iff_ne]; exact h10
          clear hst hbt hbl HO hol hou
          go_wp2_with fail
          go_roundg (t.length - (i + 1))
          case measure => omega
          case rel => exact ⟨i + 1, j, o ++ [t[i]], by omega, by omega, by omega, by go_num, rfl, by rw [← bs_append, ext1 hlt]; rfl, HO2, rfl⟩
    · have hlt' : ¬ (i : Int) < ((bs t).size : Int) := by omega
      have hio : o = u := by
        have := HO.out
        rw [List.drop_eq_nil_of_le (by omega)] at this
        rw [this]; simp [Tp.spr]
      subst hio
      have hv3 := HV.out.on (H5.out.mono hB)
      have hc := parse_post wr o (by have := HSL.out; omega) hv3.mks hv3.lv
      have HP : Hid (Calls Tryd.prog 8 #[.string (bs o)] wr fun e w' => Below wr.heap.size wr w' ∧ ∃ v, e = .returned (.tuple #[v, .nilIface]) ∧ VM wr.heap.size n v w') := by
        refine hc.mono ?_
        rintro e w' ⟨q1, q2⟩
        unfold ParseP at q2
        rw [HPN.out] at q2
        exact ⟨q1, q2⟩
      clear hc hv3 HO
      go_wp2_with fail
      refine HP.out.mono ?_
      rintro e w4 ⟨h4, v4, rfl, hvm⟩
      obtain ⟨ja, ha, qa, da, jc, hc', qc, dc, rfl, hmb⟩ := hvm.mb
      have H7 := Lib.hid (H5.out.trans (h4.mono H5.out.size))
      have hsz4 := H7.out.size
      have hal4 : ∀ ob, Below w4.heap.size w4 (w4.alloc ob) := fun ob => (Below.refl _ _).alloc (Nat.le_refl _) _
      have hpr : ∀ ob, Calls Tryd.prog 9 #[.agg (mcells (bs n.name) (.slice ja n.imports.length jc) (.slice ha n.vars.length hc') (.slice qa n.procs.length qc) (.slice da n.body.length dc))] (w4.alloc ob) fun e w' => e = .returned (.string (bs t)) ∧ Below (w4.alloc ob).heap.size (w4.alloc ob) w' := fun ob => by
        rw [← HPRN.out]
        exact print_post HW.out (hmb.up (hal4 ob)) (((HV.out.on (H7.out.mono hB)).on ((hal4 ob).mono (by omega))).wr (by simp; omega)) (by rw [HPRN.out]; have := HPS.out; omega)
      have HPR : Hid (∀ ob, Calls Tryd.prog 9 #[.agg #[.string (bs n.name), .slice ja n.imports.length jc, .slice ha n.vars.length hc', .slice qa n.procs.length qc, .slice da n.body.length dc]] (w4.alloc ob) fun e w' => e = .returned (.string (bs t)) ∧ Below (w4.alloc ob).heap.size (w4.alloc ob) w') := hpr
      have e0 : mcells (bs n.name) (.slice ja n.imports.length jc) (.slice ha n.vars.length hc') (.slice qa n.procs.length qc) (.slice da n.body.length dc) = #[.string (bs n.name), .slice ja n.imports.length jc, .slice ha n.vars.length hc', .slice qa n.procs.length qc, .slice da n.body.length dc] := rfl
      rw [e0]
      have HAL4 := Lib.hid hal4
      generalize n.imports.length = n1 at *
      generalize n.vars.length = n2 at *
      generalize n.procs.length = n3 at *
      generalize n.body.length = n4 at *
      generalize n.name = nm2 at *
      clear hpr hal4 hmb hvm h4 e0 HP
      go_wp2_with fail
      refine (HPR.out _).mono ?_
      rintro e w5 ⟨rfl, h5⟩
      have H8 := Lib.hid ((HAL4.out _).trans (h5.mono (by simp)))
      clear h5
      go_wp2_with fail
      go_ret
      exact ⟨rfl, H7.out.trans (H8.out.mono hsz4)⟩
end Go.Proofs.YthkdefhngkangaaDoor
