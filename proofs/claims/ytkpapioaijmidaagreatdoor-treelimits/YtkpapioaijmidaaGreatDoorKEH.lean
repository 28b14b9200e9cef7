import Derived.Test.YtkpapioaijmidaaGreatDoorKEg
import Derived.Test.YtkpapioaijmidaaGreatDoorKEj
import Derived.Test.YtkpapioaijmidaaGreatDoorKEG
/- TreeLimits: the law itself, over memory. -/
namespace Go.Proofs.YtkpapioaijmidaaGreatDoor
open Go.RowKit
/- what a text is, and what is told of it: one for both readers -/
def modOf (l : List UInt8) : Tp.M := match Tp.parse l with
  | .ok m => m
  | .error _ => ⟨[], [], [], [], []⟩
def numOf (l : List UInt8) : Int × Int := match Tp.parse l with
  | .ok _ => (0, -1)
  | .error er => ((er.1 : Int), (er.2 : Int))
theorem vm_empty (B : Nat) (w : World) : VM B ⟨[], [], [], [], []⟩ (.agg m0) w := ⟨none, none, none, none, 0, 0, 0, 0, [], [], rfl, Or.inl ⟨rfl, rfl, rfl⟩, Or.inl ⟨rfl, rfl, rfl⟩, rfl, Or.inl ⟨rfl, rfl, rfl⟩, by rw [RepS], Or.inl ⟨rfl, rfl⟩⟩
theorem VM.step {w w' : World} {B : Nat} {m : Tp.M} {v : Value} (h : VM B m v w) (k : Below w.heap.size w w') : VM B m v w' := h.mono (Nat.le_refl _) fun b _ hl => k.block b hl
theorem VM.cells {w : World} {B : Nat} {m : Tp.M} {v : Value} (h : VM B m v w) : ∃ (mn : ByteArray) (ia ga qa sa : Option Addr) (il ic gl gc ql qc sl sc : Nat), v = .agg #[.string mn, .slice ia il ic, .slice ga gl gc, .slice qa ql qc, .slice sa sl sc] := by
  obtain ⟨ia, ga, pa, ba, ic, gc, pc, bc, pcs, bcs, rfl, _⟩ := h
  exact ⟨_, _, _, _, _, _, _, _, _, _, _, _, _, rfl⟩
theorem rparse_u (w : World) (l : List UInt8) (hl : l.length ≤ 100000) (hg : Gl w) : Calls Tryz.prog 5 #[.string (bs l)] w fun e w' => ∃ (mn : ByteArray) (ia ga qa sa : Option Addr) (il ic gl gc ql qc sl sc : Nat), e = .returned (.tuple #[.agg #[.string mn, .slice ia il ic, .slice ga gl gc, .slice qa ql qc, .slice sa sl sc], .agg #[.int .i64 (numOf l).1, .int .i64 (numOf l).2]]) ∧ VM w.heap.size (modOf l) (.agg #[.string mn, .slice ia il ic, .slice ga gl gc, .slice qa ql qc, .slice sa sl sc]) w' ∧ Below w.heap.size w w' := by
  refine (rparse_post w l hl hg).mono ?_
  rintro e w' ⟨hb, hp⟩
  unfold RParseP at hp
  rcases hres : Tp.parse l with er | m
  rotate_left
  · rw [hres] at hp
    rw [show modOf l = m by unfold modOf; rw [hres], show numOf l = (0, -1) by unfold numOf; rw [hres]]
    obtain ⟨v, rfl, hv⟩ := hp
    obtain ⟨mn, ia, ga, qa, sa, il, ic, gl, gc, ql, qc, sl, sc, rfl⟩ := hv.cells
    exact ⟨mn, ia, ga, qa, sa, il, ic, gl, gc, ql, qc, sl, sc, rfl, hv, hb⟩
  · rw [hres] at hp
    rw [show modOf l = ⟨[], [], [], [], []⟩ by unfold modOf; rw [hres], show numOf l = ((er.1 : Int), (er.2 : Int)) by unfold numOf; rw [hres]]
    dsimp only at hp
    subst hp
    exact ⟨⟨#[]⟩, none, none, none, none, 0, 0, 0, 0, 0, 0, 0, 0, rfl, vm_empty _ _, hb⟩
theorem parse_u (w : World) (l : List UInt8) (hl : l.length ≤ 100000) (hmk : Mk w) (hlv : Lv w) : Calls Tryz.prog 6 #[.string (bs l)] w fun e w' => ∃ (mn : ByteArray) (ia ga qa sa : Option Addr) (il ic gl gc ql qc sl sc : Nat) (ev : Value), e = .returned (.tuple #[.agg #[.string mn, .slice ia il ic, .slice ga gl gc, .slice qa ql qc, .slice sa sl sc], ev]) ∧ ErrA w' ev (numOf l).1 (numOf l).2 ∧ VM w.heap.size (modOf l) (.agg #[.string mn, .slice ia il ic, .slice ga gl gc, .slice qa ql qc, .slice sa sl sc]) w' ∧ Below w.heap.size w w' := by
  refine (parse_post w l hl hmk hlv).mono ?_
  rintro e w' ⟨hb, hp⟩
  unfold ParseP at hp
  rcases hres : Tp.parse l with er | m
  rotate_left
  · rw [hres] at hp
    rw [show modOf l = m by unfold modOf; rw [hres], show numOf l = (0, -1) by unfold numOf; rw [hres]]
    obtain ⟨v, rfl, hv⟩ := hp
    obtain ⟨mn, ia, ga, qa, sa, il, ic, gl, gc, ql, qc, sl, sc, rfl⟩ := hv.cells
    exact ⟨mn, ia, ga, qa, sa, il, ic, gl, gc, ql, qc, sl, sc, _, rfl, Or.inl ⟨rfl, rfl, rfl⟩, hv, hb⟩
  · rw [hres] at hp
    rw [show modOf l = ⟨[], [], [], [], []⟩ by unfold modOf; rw [hres], show numOf l = ((er.1 : Int), (er.2 : Int)) by unfold numOf; rw [hres]]
    obtain ⟨ab, rfl, _, h1, h2⟩ := hp
    exact ⟨⟨#[]⟩, none, none, none, none, 0, 0, 0, 0, 0, 0, 0, 0, _, rfl, Or.inr ⟨ab, rfl, h1, h2⟩, vm_empty _ _, hb⟩
def Texts (w : World) (tb n : Nat) : Prop := tb < w.heap.size ∧ ∀ i, i < n → ∃ t : ByteArray, w.cell? ⟨tb, i, none⟩ = some (.string t) ∧ t.size ≤ 30000
theorem Texts.step {w w' : World} {tb n : Nat} (h : Texts w tb n) (k : Below w.heap.size w w') : Texts w' tb n := ⟨Nat.lt_of_lt_of_le h.1 k.size, fun i hi => (h.2 i hi).imp fun _ ht => ⟨(k.cell (p := ⟨tb, i, none⟩) h.1).trans ht.1, ht.2⟩⟩
theorem texts_new (w : World) (cs : Array Value) (n : Nat) (h : ∀ i, i < n → ∃ t : ByteArray, cs[i]? = some (.string t) ∧ t.size ≤ 30000) : Texts (w.alloc (.cells cs 9)).drew w.heap.size n ∧ Below w.heap.size w (w.alloc (.cells cs 9)).drew := by
  have hk : (w.alloc (.cells cs 9)).drew.heap[w.heap.size]? = some (.cells cs 9 (0, 0)) := new_blk w (.cells cs 9)
  exact ⟨⟨lt_blk hk, fun i hi => (h i hi).imp fun _ ht => ⟨(cell_blk hk).trans ht.1, ht.2⟩⟩, ((Below.refl _ _).alloc (Nat.le_refl _) _).drew⟩
theorem len_of (x : ByteArray) (h : x.size ≤ 100000) : x.data.toList.length ≤ 100000 := by
  rw [Array.length_toList]; exact h
theorem bs_of (x : ByteArray) : x = bs x.data.toList := by cases x; simp [bs]
set_option maxRecDepth 100000 in
set_option maxHeartbeats 8000000 in
theorem treeLimits_post (n m : Int) (x : ByteArray) (w : World) (hg : Gl w) (hmk : Mk w) (hlv : Lv w) (hhd : Hnd w) : Calls Tryz.prog 3 #[.int .i64 n, .int .i64 m, .string x] w fun e w' => e = .returned (.bool true) ∧ Below w.heap.size w w' := by
  by_cases hx : x.size ≤ 20
  rotate_left
  · have hx' : (20 : Int) < (x.size : Int) := by omega
    go_enter Tryz.func3, Tryz.ntmps3
    go_wp2_with fail
    go_ret
    exact ⟨rfl, Below.refl _ _⟩
  have hx' : ¬ (20 : Int) < (x.size : Int) := by omega
  have HGL := Lib.hid hg
  have HMK := Lib.hid hmk
  have HLV := Lib.hid hlv
  have HHD := Lib.hid hhd
  clear hg hmk hlv hhd
  obtain ⟨k, hk, hkw, hkv⟩ := uk n 14 (by omega) (by omega)
  obtain ⟨j, hj, hjw, hjv⟩ := uk m 12 (by omega) (by omega)
  obtain ⟨y8, hy8, hi8⟩ := idx8 k hk
  obtain ⟨y7, hy7, hi7⟩ := idx7 k hk
  replace hkw : wrap64 ((IntKind.u64.wrap n).tmod 14) = (k : Int) := hkw
  replace hjw : wrap64 ((IntKind.u64.wrap m).tmod 12) = (j : Int) := hjw
  replace hjv : IntKind.i64.wrap ((IntKind.u64.wrap m).tmod 12) = (j : Int) := hjv
  clear hkv
  have zr1 : (rpt ⟨#[40]⟩ k).size ≤ 5000 := by
    rw [rpt_size, show (⟨#[40]⟩ : ByteArray).size = 1 from rfl]; omega
  have Hr1 := Lib.hid (repeat_any ⟨#[40]⟩ k (by omega) (by decide))
  generalize rpt ⟨#[40]⟩ k = r1 at *
  have zr2 : (rpt ⟨#[41]⟩ k).size ≤ 5000 := by
    rw [rpt_size, show (⟨#[41]⟩ : ByteArray).size = 1 from rfl]; omega
  have Hr2 := Lib.hid (repeat_any ⟨#[41]⟩ k (by omega) (by decide))
  generalize rpt ⟨#[41]⟩ k = r2 at *
  have zr3 : (rpt ⟨#[45]⟩ k).size ≤ 5000 := by
    rw [rpt_size, show (⟨#[45]⟩ : ByteArray).size = 1 from rfl]; omega
  have Hr3 := Lib.hid (repeat_any ⟨#[45]⟩ k (by omega) (by decide))
  generalize rpt ⟨#[45]⟩ k = r3 at *
  have zr4 : (rpt ⟨#[110, 111, 116, 32]⟩ k).size ≤ 5000 := by
    rw [rpt_size, show (⟨#[110, 111, 116, 32]⟩ : ByteArray).size = 4 from rfl]; omega
  have Hr4 := Lib.hid (repeat_any ⟨#[110, 111, 116, 32]⟩ k (by omega) (by decide))
  generalize rpt ⟨#[110, 111, 116, 32]⟩ k = r4 at *
  have zr5 : (rpt ⟨#[40]⟩ (14 - k)).size ≤ 5000 := by
    rw [rpt_size, show (⟨#[40]⟩ : ByteArray).size = 1 from rfl]; omega
  have Hr5 := Lib.hid (repeat_any ⟨#[40]⟩ (14 - k) (by omega) (by decide))
  have Hr50 : Hid (∀ w, Calls Tryz.prog 4 #[.string ⟨#[40]⟩, .int .i64 (14 - (k : Int))] w fun e w' => e = .returned (.string (rpt ⟨#[40]⟩ (14 - k))) ∧ w' = w) := fun w => by
    have e : (14 - (k : Int) : Int) = (((14 - k) : Nat) : Int) := by omega
    rw [e]; exact Hr5.out w
  have Hr51 : Hid (∀ w, Calls Tryz.prog 4 #[.string ⟨#[40]⟩, .int .i64 (wrap64 (14 - (k : Int)))] w fun e w' => e = .returned (.string (rpt ⟨#[40]⟩ (14 - k))) ∧ w' = w) := fun w => by
    have e : (wrap64 (14 - (k : Int)) : Int) = (((14 - k) : Nat) : Int) := by unfold wrap64; omega
    rw [e]; exact Hr5.out w
  have Hr52 : Hid (∀ w, Calls Tryz.prog 4 #[.string ⟨#[40]⟩, .int .i64 (IntKind.i64.wrap (14 - (k : Int)))] w fun e w' => e = .returned (.string (rpt ⟨#[40]⟩ (14 - k))) ∧ w' = w) := fun w => by
    have e : (IntKind.i64.wrap (14 - (k : Int)) : Int) = (((14 - k) : Nat) : Int) := by rw [wrap_small (by omega) (by omega)]; omega
    rw [e]; exact Hr5.out w
  generalize rpt ⟨#[40]⟩ (14 - k) = r5 at *
  have zr6 : (rpt ⟨#[41]⟩ (14 - k)).size ≤ 5000 := by
    rw [rpt_size, show (⟨#[41]⟩ : ByteArray).size = 1 from rfl]; omega
  have Hr6 := Lib.hid (repeat_any ⟨#[41]⟩ (14 - k) (by omega) (by decide))
  have Hr60 : Hid (∀ w, Calls Tryz.prog 4 #[.string ⟨#[41]⟩, .int .i64 (14 - (k : Int))] w fun e w' => e = .returned (.string (rpt ⟨#[41]⟩ (14 - k))) ∧ w' = w) := fun w => by
    have e : (14 - (k : Int) : Int) = (((14 - k) : Nat) : Int) := by omega
    rw [e]; exact Hr6.out w
  have Hr61 : Hid (∀ w, Calls Tryz.prog 4 #[.string ⟨#[41]⟩, .int .i64 (wrap64 (14 - (k : Int)))] w fun e w' => e = .returned (.string (rpt ⟨#[41]⟩ (14 - k))) ∧ w' = w) := fun w => by
    have e : (wrap64 (14 - (k : Int)) : Int) = (((14 - k) : Nat) : Int) := by unfold wrap64; omega
    rw [e]; exact Hr6.out w
  have Hr62 : Hid (∀ w, Calls Tryz.prog 4 #[.string ⟨#[41]⟩, .int .i64 (IntKind.i64.wrap (14 - (k : Int)))] w fun e w' => e = .returned (.string (rpt ⟨#[41]⟩ (14 - k))) ∧ w' = w) := fun w => by
    have e : (IntKind.i64.wrap (14 - (k : Int)) : Int) = (((14 - k) : Nat) : Int) := by rw [wrap_small (by omega) (by omega)]; omega
    rw [e]; exact Hr6.out w
  generalize rpt ⟨#[41]⟩ (14 - k) = r6 at *
  have zr7 : (rpt ⟨#[119, 104, 105, 108, 101, 32, 49, 32, 100, 111, 32]⟩ k).size ≤ 5000 := by
    rw [rpt_size, show (⟨#[119, 104, 105, 108, 101, 32, 49, 32, 100, 111, 32]⟩ : ByteArray).size = 11 from rfl]; omega
  have Hr7 := Lib.hid (repeat_any ⟨#[119, 104, 105, 108, 101, 32, 49, 32, 100, 111, 32]⟩ k (by omega) (by decide))
  generalize rpt ⟨#[119, 104, 105, 108, 101, 32, 49, 32, 100, 111, 32]⟩ k = r7 at *
  have zr8 : (rpt ⟨#[101, 110, 100, 59, 32]⟩ k).size ≤ 5000 := by
    rw [rpt_size, show (⟨#[101, 110, 100, 59, 32]⟩ : ByteArray).size = 5 from rfl]; omega
  have Hr8 := Lib.hid (repeat_any ⟨#[101, 110, 100, 59, 32]⟩ k (by omega) (by decide))
  generalize rpt ⟨#[101, 110, 100, 59, 32]⟩ k = r8 at *
  have zr9 : (rpt ⟨#[101, 108, 115, 105, 102, 32, 50, 32, 116, 104, 101, 110, 32]⟩ k).size ≤ 5000 := by
    rw [rpt_size, show (⟨#[101, 108, 115, 105, 102, 32, 50, 32, 116, 104, 101, 110, 32]⟩ : ByteArray).size = 13 from rfl]; omega
  have Hr9 := Lib.hid (repeat_any ⟨#[101, 108, 115, 105, 102, 32, 50, 32, 116, 104, 101, 110, 32]⟩ k (by omega) (by decide))
  generalize rpt ⟨#[101, 108, 115, 105, 102, 32, 50, 32, 116, 104, 101, 110, 32]⟩ k = r9 at *
  have zra : (rpt ⟨#[32, 43, 32, 49]⟩ (288 + j)).size ≤ 5000 := by
    rw [rpt_size, show (⟨#[32, 43, 32, 49]⟩ : ByteArray).size = 4 from rfl]; omega
  have Hra := Lib.hid (repeat_any ⟨#[32, 43, 32, 49]⟩ (288 + j) (by omega) (by decide))
  have Hra0 : Hid (∀ w, Calls Tryz.prog 4 #[.string ⟨#[32, 43, 32, 49]⟩, .int .i64 (288 + (j : Int))] w fun e w' => e = .returned (.string (rpt ⟨#[32, 43, 32, 49]⟩ (288 + j))) ∧ w' = w) := fun w => by
    have e : (288 + (j : Int) : Int) = (((288 + j) : Nat) : Int) := by omega
    rw [e]; exact Hra.out w
  have Hra1 : Hid (∀ w, Calls Tryz.prog 4 #[.string ⟨#[32, 43, 32, 49]⟩, .int .i64 (wrap64 (288 + (j : Int)))] w fun e w' => e = .returned (.string (rpt ⟨#[32, 43, 32, 49]⟩ (288 + j))) ∧ w' = w) := fun w => by
    have e : (wrap64 (288 + (j : Int)) : Int) = (((288 + j) : Nat) : Int) := by unfold wrap64; omega
    rw [e]; exact Hra.out w
  have Hra2 : Hid (∀ w, Calls Tryz.prog 4 #[.string ⟨#[32, 43, 32, 49]⟩, .int .i64 (IntKind.i64.wrap (288 + (j : Int)))] w fun e w' => e = .returned (.string (rpt ⟨#[32, 43, 32, 49]⟩ (288 + j))) ∧ w' = w) := fun w => by
    have e : (IntKind.i64.wrap (288 + (j : Int)) : Int) = (((288 + j) : Nat) : Int) := by rw [wrap_small (by omega) (by omega)]; omega
    rw [e]; exact Hra.out w
  have Hra3 : Hid (∀ w, Calls Tryz.prog 4 #[.string ⟨#[32, 43, 32, 49]⟩, .int .i64 (IntKind.i64.wrap (288 + IntKind.i64.wrap ((IntKind.u64.wrap m).tmod 12)))] w fun e w' => e = .returned (.string (rpt ⟨#[32, 43, 32, 49]⟩ (288 + j))) ∧ w' = w) := fun w => by
    have e : (IntKind.i64.wrap (288 + IntKind.i64.wrap ((IntKind.u64.wrap m).tmod 12)) : Int) = (((288 + j) : Nat) : Int) := by rw [hjv, wrap_small (by omega) (by omega)]; omega
    rw [e]; exact Hra.out w
  generalize rpt ⟨#[32, 43, 32, 49]⟩ (288 + j) = ra at *
  have zs1 : (rpt ⟨#[118, 97, 114, 32, 97, 58, 32, 105, 110, 116, 59, 32]⟩ k).size ≤ 5000 := by
    rw [rpt_size, show (⟨#[118, 97, 114, 32, 97, 58, 32, 105, 110, 116, 59, 32]⟩ : ByteArray).size = 12 from rfl]; omega
  have Hs1 := Lib.hid (repeat_any ⟨#[118, 97, 114, 32, 97, 58, 32, 105, 110, 116, 59, 32]⟩ k (by omega) (by decide))
  generalize rpt ⟨#[118, 97, 114, 32, 97, 58, 32, 105, 110, 116, 59, 32]⟩ k = s1 at *
  have zs2 : (rpt ⟨#[112, 114, 111, 99, 32, 112, 40, 41, 59, 32, 98, 101, 103, 105, 110, 32, 101, 110, 100, 59, 32]⟩ k).size ≤ 5000 := by
    rw [rpt_size, show (⟨#[112, 114, 111, 99, 32, 112, 40, 41, 59, 32, 98, 101, 103, 105, 110, 32, 101, 110, 100, 59, 32]⟩ : ByteArray).size = 21 from rfl]; omega
  have Hs2 := Lib.hid (repeat_any ⟨#[112, 114, 111, 99, 32, 112, 40, 41, 59, 32, 98, 101, 103, 105, 110, 32, 101, 110, 100, 59, 32]⟩ k (by omega) (by decide))
  generalize rpt ⟨#[112, 114, 111, 99, 32, 112, 40, 41, 59, 32, 98, 101, 103, 105, 110, 32, 101, 110, 100, 59, 32]⟩ k = s2 at *
  have zs3 : (rpt ⟨#[44, 32, 98]⟩ k).size ≤ 5000 := by
    rw [rpt_size, show (⟨#[44, 32, 98]⟩ : ByteArray).size = 3 from rfl]; omega
  have Hs3 := Lib.hid (repeat_any ⟨#[44, 32, 98]⟩ k (by omega) (by decide))
  generalize rpt ⟨#[44, 32, 98]⟩ k = s3 at *
  have zs4 : (rpt ⟨#[44, 32, 100]⟩ (13 - k)).size ≤ 5000 := by
    rw [rpt_size, show (⟨#[44, 32, 100]⟩ : ByteArray).size = 3 from rfl]; omega
  have Hs4 := Lib.hid (repeat_any ⟨#[44, 32, 100]⟩ (13 - k) (by omega) (by decide))
  have Hs40 : Hid (∀ w, Calls Tryz.prog 4 #[.string ⟨#[44, 32, 100]⟩, .int .i64 (13 - (k : Int))] w fun e w' => e = .returned (.string (rpt ⟨#[44, 32, 100]⟩ (13 - k))) ∧ w' = w) := fun w => by
    have e : (13 - (k : Int) : Int) = (((13 - k) : Nat) : Int) := by omega
    rw [e]; exact Hs4.out w
  have Hs41 : Hid (∀ w, Calls Tryz.prog 4 #[.string ⟨#[44, 32, 100]⟩, .int .i64 (wrap64 (13 - (k : Int)))] w fun e w' => e = .returned (.string (rpt ⟨#[44, 32, 100]⟩ (13 - k))) ∧ w' = w) := fun w => by
    have e : (wrap64 (13 - (k : Int)) : Int) = (((13 - k) : Nat) : Int) := by unfold wrap64; omega
    rw [e]; exact Hs4.out w
  have Hs42 : Hid (∀ w, Calls Tryz.prog 4 #[.string ⟨#[44, 32, 100]⟩, .int .i64 (IntKind.i64.wrap (13 - (k : Int)))] w fun e w' => e = .returned (.string (rpt ⟨#[44, 32, 100]⟩ (13 - k))) ∧ w' = w) := fun w => by
    have e : (IntKind.i64.wrap (13 - (k : Int)) : Int) = (((13 - k) : Nat) : Int) := by rw [wrap_small (by omega) (by omega)]; omega
    rw [e]; exact Hs4.out w
  generalize rpt ⟨#[44, 32, 100]⟩ (13 - k) = s4 at *
  have L0 : (⟨#[32, 58, 61, 32]⟩ : ByteArray).size = 4 := rfl
  have L1 : (⟨#[41, 59, 32, 118, 97, 114, 32, 99]⟩ : ByteArray).size = 8 := rfl
  have L2 : (⟨#[49]⟩ : ByteArray).size = 1 := rfl
  have L3 : (⟨#[59, 32]⟩ : ByteArray).size = 2 := rfl
  have L4 : (⟨#[59, 32, 98, 101, 103, 105, 110, 32, 101, 110, 100, 59, 32]⟩ : ByteArray).size = 13 := rfl
  have L5 : (⟨#[59]⟩ : ByteArray).size = 1 := rfl
  have L6 : (⟨#[93, 59]⟩ : ByteArray).size = 2 := rfl
  have L7 : (⟨#[97, 59]⟩ : ByteArray).size = 2 := rfl
  have L8 : (⟨#[97, 91]⟩ : ByteArray).size = 2 := rfl
  have L9 : (⟨#[101, 110, 100, 59]⟩ : ByteArray).size = 4 := rfl
  have L10 : (⟨#[105, 102, 32, 49, 32, 116, 104, 101, 110, 32]⟩ : ByteArray).size = 10 := rfl
  have L11 : (⟨#[105, 109, 112, 111, 114, 116, 32, 97]⟩ : ByteArray).size = 8 := rfl
  have L12 : (⟨#[112, 114, 111, 99, 32, 112, 40, 97]⟩ : ByteArray).size = 8 := rfl
  have L13 : (⟨#[118, 97, 114, 32, 97, 58, 32, 97, 114, 114, 97, 121, 32]⟩ : ByteArray).size = 13 := rfl
  have L14 : (⟨#[119, 114, 105, 116, 101, 32]⟩ : ByteArray).size = 6 := rfl
  have L15 : (⟨#[119, 114, 105, 116, 101, 32, 49]⟩ : ByteArray).size = 7 := rfl
  have L16 : (⟨#[119, 114, 105, 116, 101, 32, 57, 50, 50, 51, 51, 55, 50, 48, 51, 54, 56, 53, 52, 55, 55, 53, 56, 48]⟩ : ByteArray).size = 24 := rfl
  have HT : Hid (∀ i, i < 12 → ∃ t : ByteArray, (#[.string ((((⟨#[119, 114, 105, 116, 101, 32]⟩ ++ r1) ++ ⟨#[49]⟩) ++ r2) ++ ⟨#[59]⟩), .string ((⟨#[119, 114, 105, 116, 101, 32]⟩ ++ r3) ++ ⟨#[97, 59]⟩), .string ((((((⟨#[119, 114, 105, 116, 101, 32]⟩ ++ r4) ++ ⟨#[97, 91]⟩) ++ r5) ++ ⟨#[49]⟩) ++ r6) ++ ⟨#[93, 59]⟩), .string (r7 ++ r8), .string ((⟨#[105, 102, 32, 49, 32, 116, 104, 101, 110, 32]⟩ ++ r9) ++ ⟨#[101, 110, 100, 59]⟩), .string ((⟨#[119, 114, 105, 116, 101, 32, 49]⟩ ++ ra) ++ ⟨#[59]⟩), .string ((((x ++ ⟨#[32, 58, 61, 32]⟩) ++ x) ++ x) ++ ⟨#[59]⟩), .string ((⟨#[119, 114, 105, 116, 101, 32, 57, 50, 50, 51, 51, 55, 50, 48, 51, 54, 56, 53, 52, 55, 55, 53, 56, 48]⟩ ++ y8) ++ ⟨#[59]⟩), .string ⟨#[97, 46, 98, 32, 58, 61, 32, 49, 59]⟩, .string ⟨#[97, 46, 98, 91, 49, 93, 32, 58, 61, 32, 49, 59]⟩, .string ⟨#[97, 46, 98, 40, 49, 41, 59]⟩, .string ⟨#[97, 46, 98, 59]⟩] : Array Value)[i]? = some (.string t) ∧ t.size ≤ 30000) := fun i hi => by
      match i, hi with
      | 0, _ => exact ⟨_, rfl, by simp only [ByteArray.size_append, L2, L5, L14]; omega⟩
      | 1, _ => exact ⟨_, rfl, by simp only [ByteArray.size_append, L7, L14]; omega⟩
      | 2, _ => exact ⟨_, rfl, by simp only [ByteArray.size_append, L2, L6, L8, L14]; omega⟩
      | 3, _ => exact ⟨_, rfl, by simp only [ByteArray.size_append]; omega⟩
      | 4, _ => exact ⟨_, rfl, by simp only [ByteArray.size_append, L9, L10]; omega⟩
      | 5, _ => exact ⟨_, rfl, by simp only [ByteArray.size_append, L5, L15]; omega⟩
      | 6, _ => exact ⟨_, rfl, by simp only [ByteArray.size_append, L0, L5]; omega⟩
      | 7, _ => exact ⟨_, rfl, by simp only [ByteArray.size_append, L5, L16]; omega⟩
      | 8, _ => exact ⟨_, rfl, by decide⟩
      | 9, _ => exact ⟨_, rfl, by decide⟩
      | 10, _ => exact ⟨_, rfl, by decide⟩
      | 11, _ => exact ⟨_, rfl, by decide⟩
  have HH : Hid (∀ i, i < 6 → ∃ t : ByteArray, (#[.string ⟨#[]⟩, .string s1, .string ((⟨#[118, 97, 114, 32, 97, 58, 32, 97, 114, 114, 97, 121, 32]⟩ ++ y7) ++ ⟨#[59, 32]⟩), .string s2, .string ((((⟨#[112, 114, 111, 99, 32, 112, 40, 97]⟩ ++ s3) ++ ⟨#[41, 59, 32, 118, 97, 114, 32, 99]⟩) ++ s4) ++ ⟨#[59, 32, 98, 101, 103, 105, 110, 32, 101, 110, 100, 59, 32]⟩), .string ((⟨#[105, 109, 112, 111, 114, 116, 32, 97]⟩ ++ s3) ++ ⟨#[59, 32]⟩)] : Array Value)[i]? = some (.string t) ∧ t.size ≤ 30000) := fun i hi => by
      match i, hi with
      | 0, _ => exact ⟨_, rfl, by decide⟩
      | 1, _ => exact ⟨_, rfl, by omega⟩
      | 2, _ => exact ⟨_, rfl, by simp only [ByteArray.size_append, L3, L13]; omega⟩
      | 3, _ => exact ⟨_, rfl, by omega⟩
      | 4, _ => exact ⟨_, rfl, by simp only [ByteArray.size_append, L1, L4, L12]; omega⟩
      | 5, _ => exact ⟨_, rfl, by simp only [ByteArray.size_append, L3, L11]; omega⟩
  clear L0 L1 L2 L3 L4 L5 L6 L7 L8 L9 L10 L11 L12 L13 L14 L15 L16
  have f0 : ¬ 9223372036854775807 < 6 + r1.size := by omega
  have f1 : ¬ 9223372036854775807 < 6 + r1.size + 1 := by omega
  have f2 : ¬ 9223372036854775807 < 6 + r1.size + 1 + r2.size := by omega
  have f3 : ¬ 9223372036854775807 < 6 + r1.size + 1 + r2.size + 1 := by omega
  have f4 : ¬ 9223372036854775807 < 6 + r3.size := by omega
  have f5 : ¬ 9223372036854775807 < 6 + r3.size + 2 := by omega
  have f6 : ¬ 9223372036854775807 < 6 + r4.size := by omega
  have f7 : ¬ 9223372036854775807 < 6 + r4.size + 2 := by omega
  have f8 : ¬ 9223372036854775807 < 6 + r4.size + 2 + r5.size := by omega
  have f9 : ¬ 9223372036854775807 < 6 + r4.size + 2 + r5.size + 1 := by omega
  have f10 : ¬ 9223372036854775807 < 6 + r4.size + 2 + r5.size + 1 + r6.size := by omega
  have f11 : ¬ 9223372036854775807 < 6 + r4.size + 2 + r5.size + 1 + r6.size + 2 := by omega
  have f12 : ¬ 9223372036854775807 < r7.size + r8.size := by omega
  have f13 : ¬ 9223372036854775807 < 10 + r9.size := by omega
  have f14 : ¬ 9223372036854775807 < 10 + r9.size + 4 := by omega
  have f15 : ¬ 9223372036854775807 < 7 + ra.size := by omega
  have f16 : ¬ 9223372036854775807 < 7 + ra.size + 1 := by omega
  have f17 : ¬ 9223372036854775807 < x.size + 4 := by omega
  have f18 : ¬ 9223372036854775807 < x.size + 4 + x.size := by omega
  have f19 : ¬ 9223372036854775807 < x.size + 4 + x.size + x.size := by omega
  have f20 : ¬ 9223372036854775807 < x.size + 4 + x.size + x.size + 1 := by omega
  have f21 : ¬ 9223372036854775807 < 24 + y8.size := by omega
  have f22 : ¬ 9223372036854775807 < 24 + y8.size + 1 := by omega
  have g0 : ¬ 9223372036854775807 < 13 + y7.size := by omega
  have g1 : ¬ 9223372036854775807 < 13 + y7.size + 2 := by omega
  have g2 : ¬ 9223372036854775807 < 8 + s3.size := by omega
  have g3 : ¬ 9223372036854775807 < 8 + s3.size + 8 := by omega
  have g4 : ¬ 9223372036854775807 < 8 + s3.size + 8 + s4.size := by omega
  have g5 : ¬ 9223372036854775807 < 8 + s3.size + 8 + s4.size + 13 := by omega
  have g6 : ¬ 9223372036854775807 < 8 + s3.size := by omega
  have g7 : ¬ 9223372036854775807 < 8 + s3.size + 2 := by omega
  go_enter Tryz.func3, Tryz.ntmps3
  go_upto_region 4 with fail
  rw [hkw]
  go_cut [8] from 23 (fun v8 wc => ∃ tb : Nat, v8 = .slice (some ⟨tb, 0, none⟩) 12 12 ∧ Hid (Texts wc tb 12) ∧ Hid (Below w.heap.size w wc))
  case first =>
    refine region_lone 56 2 (by kernel_rfl) (by kernel_rfl) (by kernel_rfl) (fun _ _ d _ _ h => by cases d <;> exact h) (by as_aux_lemma => kernel_rfl) ?_
    simp only [List.take_succ_cons, List.take_zero]
    iterate 56 (refine wpLone_step (fun J hJ => ?_); go_simp; first | (refine hJ _ ?_; clear hJ J) | (apply Exists.intro; refine ⟨fun _ => ?_, hJ _ ?_⟩; (go_at_call 4; with_reducible (first | exact Hr1.out _ | exact Hr2.out _ | exact Hr3.out _ | exact Hr4.out _ | exact Hr50.out _ | exact Hr51.out _ | exact Hr52.out _ | exact Hr60.out _ | exact Hr61.out _ | exact Hr62.out _ | exact Hr7.out _ | exact Hr8.out _ | exact Hr9.out _ | exact Hra0.out _ | exact Hra1.out _ | exact Hra2.out _ | exact Hra3.out _)); clear hJ J))
    refine wpLone_nil ?_
    refine any_one (i := 56) (by kernel_rfl) rfl rfl ?_
    generalize hK1 : wpAny Tryz.prog _ _ _ 1 _ = K1
    go_simp
    subst hK1
    refine any_one (i := 57) (by kernel_rfl) rfl rfl ?_
    generalize hK1 : wpAny Tryz.prog _ _ _ 0 _ = K1
    go_simp
    subst hK1
    refine ⟨by kernel_rfl, ?_⟩
    have HN := Lib.hid (texts_new w _ 12 HT.out)
    go_wp2_with fail
    go_meet
    case rel => exact ⟨w.heap.size, rfl, HN.out.1, HN.out.2⟩
  case rest =>
    obtain ⟨tb, rfl, HTX, HB⟩ := hcut
    clear HT
    go_upto_region 5 with fail
    go_cut [9] from 80 (fun v9 wc => ∃ hb : Nat, v9 = .slice (some ⟨hb, 0, none⟩) 6 6 ∧ Hid (Texts wc tb 12) ∧ Hid (Texts wc hb 6) ∧ Hid (Below w.heap.size w wc))
    case first =>
      refine region_lone 23 2 (by kernel_rfl) (by kernel_rfl) (by kernel_rfl) (fun _ _ d _ _ h => by cases d <;> exact h) (by as_aux_lemma => kernel_rfl) ?_
      simp only [List.take_succ_cons, List.take_zero]
      iterate 23 (refine wpLone_step (fun J hJ => ?_); go_simp; first | (refine hJ _ ?_; clear hJ J) | (apply Exists.intro; refine ⟨fun _ => ?_, hJ _ ?_⟩; (go_at_call 4; with_reducible (first | exact Hs1.out _ | exact Hs2.out _ | exact Hs3.out _ | exact Hs40.out _ | exact Hs41.out _ | exact Hs42.out _)); clear hJ J))
      refine wpLone_nil ?_
      refine any_one (i := 23) (by kernel_rfl) rfl rfl ?_
      generalize hK1 : wpAny Tryz.prog _ _ _ 1 _ = K1
      go_simp
      subst hK1
      refine any_one (i := 24) (by kernel_rfl) rfl rfl ?_
      generalize hK1 : wpAny Tryz.prog _ _ _ 0 _ = K1
      go_simp
      subst hK1
      refine ⟨by kernel_rfl, ?_⟩
      have HN := Lib.hid (texts_new wc _ 6 HH.out)
      have HN2 := Lib.hid (HTX.out.step HN.out.2)
      have HN3 := Lib.hid (HB.out.trans (HN.out.2.mono HB.out.size))
      go_wp2_with fail
      go_meet
      case rel => exact ⟨wc.heap.size, rfl, HN2, HN.out.1, HN3⟩
    case rest =>
      clear HTX HB HH
      rename_i wd
      obtain ⟨hb, rfl, HTX, HTH, HB⟩ := hcut
      clear zr1 Hr1 zr2 Hr2 zr3 Hr3 zr4 Hr4 zr5 Hr5 zr6 Hr6 zr7 Hr7 zr8 Hr8 zr9 Hr9 zra Hra zs1 Hs1 zs2 Hs2 zs3 Hs3 zs4 Hs4 Hr50 Hr51 Hr52 Hr60 Hr61 Hr62 Hra0 Hra1 Hra2 Hra3 Hs40 Hs41 Hs42 f0 f1 f2 f3 f4 f5 f6 f7 f8 f9 f10 f11 f12 f13 f14 f15 f16 f17 f18 f19 f20 f21 f22 g0 g1 g2 g3 g4 g5 g6 g7 hi7 hi8 hkw hjw hjv
      obtain ⟨wd0, hwd0⟩ : ∃ wd0, wd0 = wd := ⟨_, rfl⟩
      subst hwd0
      go_wp2_with fail
      go_loopg [10] 18 (fun k vi wr => ∃ i : Nat, i ≤ 18 ∧ k = 18 - i ∧ vi = .int .i64 (i : Int) ∧ Hid (Texts wr tb 12) ∧ Hid (Texts wr hb 6) ∧ Hid (Below w.heap.size w wr))
      case atStart => exact ⟨0, by omega, by omega, rfl, HTX, HTH, HB⟩
      case round =>
        clear HTX HTH HB
        obtain ⟨i, hid, hk', rfl, HTX, HTH, HB⟩ := hrel
        by_cases hlt : i < 18
        · have hlt' : (i : Int) < 18 := by omega
          go_upto_if 116 with fail
          go_cut [11] from 104 to 152 (fun v11 wc => ∃ l : List UInt8, v11 = .string (bs l) ∧ l.length ≤ 100000 ∧ wc = wr)
          case first =>
            by_cases h12 : i < 12
            · have h12' : (i : Int) < 12 := by omega
              obtain ⟨t, ht, htz⟩ := HTX.out.2 i h12
              have htl := HTX.out.1
              have p1 : ¬ 9223372036854775807 < t.size + 5 := by omega
              have p2 : ¬ 9223372036854775807 < 16 + (t.size + 5) := by omega
              have HS : Hid (((⟨#[109, 111, 100, 117, 108, 101, 32, 109, 59, 32, 98, 101, 103, 105, 110, 32]⟩ : ByteArray) ++ (t ++ ⟨#[32, 101, 110, 100, 46]⟩)).size ≤ 100000) := by
                show _ ≤ _
                rw [ByteArray.size_append, ByteArray.size_append, show (⟨#[109, 111, 100, 117, 108, 101, 32, 109, 59, 32, 98, 101, 103, 105, 110, 32]⟩ : ByteArray).size = 16 from rfl, show (⟨#[32, 101, 110, 100, 46]⟩ : ByteArray).size = 5 from rfl]; omega
              go_wp2_with fail
              go_meet
              case rel => exact ⟨_, by rw [← bs_of], len_of _ HS.out, rfl⟩
            · obtain ⟨r, rfl⟩ : ∃ r, i = 12 + r := ⟨i - 12, by omega⟩
              have h12' : ¬ ((12 + r : Nat) : Int) < 12 := by omega
              have hr6 : r < 6 := by omega
              have hr6' : (r : Int) < 6 := by omega
              have hr0 : (((12 + r : Nat) : Int) - 12) = (r : Int) := by omega
              obtain ⟨t, ht, htz⟩ := HTH.out.2 r hr6
              have htl := HTH.out.1
              have p1 : ¬ 9223372036854775807 < 10 + t.size := by omega
              have p2 : ¬ 9223372036854775807 < 10 + t.size + 10 := by omega
              have HS : Hid (((⟨#[109, 111, 100, 117, 108, 101, 32, 109, 59, 32]⟩ : ByteArray) ++ t ++ ⟨#[98, 101, 103, 105, 110, 32, 101, 110, 100, 46]⟩).size ≤ 100000) := by
                show _ ≤ _
                rw [ByteArray.size_append, ByteArray.size_append, show (⟨#[109, 111, 100, 117, 108, 101, 32, 109, 59, 32]⟩ : ByteArray).size = 10 from rfl, show (⟨#[98, 101, 103, 105, 110, 32, 101, 110, 100, 46]⟩ : ByteArray).size = 10 from rfl]; omega
              go_wp2_with fail
              go_meet
              case rel => exact ⟨_, by rw [← bs_of], len_of _ HS.out, rfl⟩
          case rest =>
            obtain ⟨l, rfl, hll, hwc⟩ := hcut
            subst hwc
            have HRP := Lib.hid (rparse_u _ l hll (HGL.out.keep fun i _ j v hv => (HB.out.cell (p := ⟨i, j, none⟩) (lt_of_cell hv)).trans hv))
            have HPU : Hid (∀ W, Below w.heap.size w W → Calls Tryz.prog 6 #[.string (bs l)] W fun e w' => ∃ (mn : ByteArray) (ia ga qa sa : Option Addr) (il ic gl gc ql qc sl sc : Nat) (ev : Value), e = .returned (.tuple #[.agg #[.string mn, .slice ia il ic, .slice ga gl gc, .slice qa ql qc, .slice sa sl sc], ev]) ∧ ErrA w' ev (numOf l).1 (numOf l).2 ∧ VM W.heap.size (modOf l) (.agg #[.string mn, .slice ia il ic, .slice ga gl gc, .slice qa ql qc, .slice sa sl sc]) w' ∧ Below W.heap.size W w') := fun W hW => parse_u W l hll (HMK.out.below hW HMK.out.1) (HLV.out.below hW HLV.out.1)
            generalize modOf l = mm at *
            generalize numOf l = nn at *
            obtain ⟨en, pn⟩ := nn
            clear hll
            go_wp2_with fail
            refine HRP.out.mono ?_
            rintro e wa ⟨mn, ia, ga, qa, sa, il, ic, gl, gc, ql, qc, sl, sc, rfl, hv, hba⟩
            have hb2 : Below wa.heap.size wa ((wa.alloc (.cells #[.string mn, .slice ia il ic, .slice ga gl gc, .slice qa ql qc, .slice sa sl sc] 31)).alloc (.cells #[.int .i64 en, .int .i64 pn] 34)) := ((Below.refl _ _).alloc (Nat.le_refl _) _).alloc (by simp) _
            have k12 : ((wa.alloc (.cells #[.string mn, .slice ia il ic, .slice ga gl gc, .slice qa ql qc, .slice sa sl sc] 31)).alloc (.cells #[.int .i64 en, .int .i64 pn] 34)).heap[wa.heap.size]? = some (.cells #[.string mn, .slice ia il ic, .slice ga gl gc, .slice qa ql qc, .slice sa sl sc] 31 (0, 0)) := (Below.heap_alloc _ _ _ (by simp)).trans (new_blk _ _)
            have k13 : ((wa.alloc (.cells #[.string mn, .slice ia il ic, .slice ga gl gc, .slice qa ql qc, .slice sa sl sc] 31)).alloc (.cells #[.int .i64 en, .int .i64 pn] 34)).heap[wa.heap.size + 1]? = some (.cells #[.int .i64 en, .int .i64 pn] 34 (0, 0)) := by
              have := new_blk (wa.alloc (.cells #[.string mn, .slice ia il ic, .slice ga gl gc, .slice qa ql qc, .slice sa sl sc] 31)) (.cells #[.int .i64 en, .int .i64 pn] 34)
              simpa using this
            go_wp2_with fail
            generalize (wa.alloc (.cells #[.string mn, .slice ia il ic, .slice ga gl gc, .slice qa ql qc, .slice sa sl sc] 31)).alloc (.cells #[.int .i64 en, .int .i64 pn] 34) = w2 at hb2 k12 k13 ⊢
            obtain ⟨b13, hb13⟩ : ∃ b, b = wa.heap.size + 1 := ⟨_, rfl⟩
            obtain ⟨b12, hb12⟩ : ∃ b, b = wa.heap.size := ⟨_, rfl⟩
            rw [← hb13] at k13 ⊢
            rw [← hb12] at k12 ⊢
            have HBA := Lib.hid (hba.trans (hb2.mono hba.size))
            have HV1 := Lib.hid (hv.step hb2)
            clear hb13 hb12 hba hb2 hv HRP
            have HB2 := Lib.hid (HB.out.trans (HBA.out.mono HB.out.size))
            refine (HPU.out w2 HB2.out).mono ?_
            rintro e wb ⟨mn2, ia2, ga2, qa2, sa2, il2, ic2, gl2, gc2, ql2, qc2, sl2, sc2, ev, rfl, hev, hv2, hbb⟩
            have hb3 : Below wb.heap.size wb (wb.alloc (.cells #[.string mn2, .slice ia2 il2 ic2, .slice ga2 gl2 gc2, .slice qa2 ql2 qc2, .slice sa2 sl2 sc2] 31)) := (Below.refl _ _).alloc (Nat.le_refl _) _
            have k14 : (wb.alloc (.cells #[.string mn2, .slice ia2 il2 ic2, .slice ga2 gl2 gc2, .slice qa2 ql2 qc2, .slice sa2 sl2 sc2] 31)).heap[wb.heap.size]? = some (.cells #[.string mn2, .slice ia2 il2 ic2, .slice ga2 gl2 gc2, .slice qa2 ql2 qc2, .slice sa2 sl2 sc2] 31 (0, 0)) := new_blk _ _
            have kk12 : (wb.alloc (.cells #[.string mn2, .slice ia2 il2 ic2, .slice ga2 gl2 gc2, .slice qa2 ql2 qc2, .slice sa2 sl2 sc2] 31)).heap[b12]? = some (.cells #[.string mn, .slice ia il ic, .slice ga gl gc, .slice qa ql qc, .slice sa sl sc] 31 (0, 0)) := (hb3.block b12 (Nat.lt_of_lt_of_le (lt_blk k12) hbb.size)).trans ((hbb.block b12 (lt_blk k12)).trans k12)
            have kk13 : (wb.alloc (.cells #[.string mn2, .slice ia2 il2 ic2, .slice ga2 gl2 gc2, .slice qa2 ql2 qc2, .slice sa2 sl2 sc2] 31)).heap[b13]? = some (.cells #[.int .i64 en, .int .i64 pn] 34 (0, 0)) := (hb3.block b13 (Nat.lt_of_lt_of_le (lt_blk k13) hbb.size)).trans ((hbb.block b13 (lt_blk k13)).trans k13)
            have HEV := Lib.hid (hev.below hb3)
            have HV2 := Lib.hid (hv2.step hb3)
            have HV1' := Lib.hid ((HV1.out.step hbb).step hb3)
            have HB3 := Lib.hid (HBA.out.trans ((hbb.trans (hb3.mono hbb.size)).mono HBA.out.size))
            obtain ⟨b14, hb14⟩ : ∃ b, b = wb.heap.size := ⟨_, rfl⟩
            clear hev hv2 hb3 hbb k12 k13 HV1 HBA HB2 HPU
            have HW3 : Hid (∀ W, W = wb.alloc (.cells #[.string mn2, .slice ia2 il2 ic2, .slice ga2 gl2 gc2, .slice qa2 ql2 qc2, .slice sa2 sl2 sc2] 31) → W.heap[b14]? = some (.cells #[.string mn2, .slice ia2 il2 ic2, .slice ga2 gl2 gc2, .slice qa2 ql2 qc2, .slice sa2 sl2 sc2] 31 (0, 0)) ∧ W.heap[b12]? = some (.cells #[.string mn, .slice ia il ic, .slice ga gl gc, .slice qa ql qc, .slice sa sl sc] 31 (0, 0)) ∧ W.heap[b13]? = some (.cells #[.int .i64 en, .int .i64 pn] 34 (0, 0)) ∧ ErrA W ev en pn ∧ Below wc.heap.size wc W ∧ VM wc.heap.size mm (.agg #[.string mn, .slice ia il ic, .slice ga gl gc, .slice qa ql qc, .slice sa sl sc]) W ∧ ∃ B, VM B mm (.agg #[.string mn2, .slice ia2 il2 ic2, .slice ga2 gl2 gc2, .slice qa2 ql2 qc2, .slice sa2 sl2 sc2]) W) := fun W hW => by
              subst hW
              rw [hb14]
              exact ⟨k14, kk12, kk13, HEV.out, HB3.out, HV1'.out, _, HV2.out⟩
            clear k14 kk12 kk13 HEV HV2 HV1' HB3
            go_upto_region 15 with fail
            rw [← hb14]
            clear hb14
            generalize hw3 : wb.alloc (.cells #[.string mn2, .slice ia2 il2 ic2, .slice ga2 gl2 gc2, .slice qa2 ql2 qc2, .slice sa2 sl2 sc2] 31) = w3
            obtain ⟨k14, k12, k13, hev, hb3, hv1, B2, hv2⟩ := HW3.out w3 hw3.symm
            clear hw3 HW3
            have HB3 := Lib.hid (HB.out.trans (hb3.mono HB.out.size))
            have HIS := Lib.hid (lawIs_any hev ((HB3.out.cell (p := ⟨2, 0, none⟩) (lt_of_cell HHD.out)).trans HHD.out))
            have c0 : w3.cell? ⟨b13, 0, none⟩ = some (.int .i64 en) := cell_blk k13
            have c1 : w3.cell? ⟨b13, 1, none⟩ = some (.int .i64 pn) := cell_blk k13
            have hl13 := lt_blk k13
            clear hev
            go_wp2_with fail
            refine HIS.out.mono ?_
            rintro e w4 ⟨rfl, hb4⟩
            have q12 := (hb4.block b12 (lt_blk k12)).trans k12
            have q14 := (hb4.block b14 (lt_blk k14)).trans k14
            have HSM := Lib.hid (sameModule_eq (hv2.step hb4) (hv1.step hb4))
            have HB4 := Lib.hid (HB3.out.trans (hb4.mono HB3.out.size))
            have HB5 := Lib.hid (hb3.trans (hb4.mono hb3.size))
            have e0 : w4.cell? ⟨b12, 0, none⟩ = some (.string mn) := cell_blk q12
            have e1 : w4.cell? ⟨b12, 1, none⟩ = some (.slice ia il ic) := cell_blk q12
            have e2 : w4.cell? ⟨b12, 2, none⟩ = some (.slice ga gl gc) := cell_blk q12
            have e3 : w4.cell? ⟨b12, 3, none⟩ = some (.slice qa ql qc) := cell_blk q12
            have e4 : w4.cell? ⟨b12, 4, none⟩ = some (.slice sa sl sc) := cell_blk q12
            have d0 : w4.cell? ⟨b14, 0, none⟩ = some (.string mn2) := cell_blk q14
            have d1 : w4.cell? ⟨b14, 1, none⟩ = some (.slice ia2 il2 ic2) := cell_blk q14
            have d2 : w4.cell? ⟨b14, 2, none⟩ = some (.slice ga2 gl2 gc2) := cell_blk q14
            have d3 : w4.cell? ⟨b14, 3, none⟩ = some (.slice qa2 ql2 qc2) := cell_blk q14
            have d4 : w4.cell? ⟨b14, 4, none⟩ = some (.slice sa2 sl2 sc2) := cell_blk q14
            have hl12 := lt_blk q12
            have hl14 := lt_blk q14
            clear c0 c1 hl13 k12 k13 k14 hv1 hv2 hb3 hb4 HIS q12 q14
            go_wp2_with fail
            refine HSM.out.mono ?_
            rintro e w5 ⟨rfl, hb5⟩
            have HB6 := Lib.hid (HB4.out.trans (hb5.mono HB4.out.size))
            have HB7 := Lib.hid (HB5.out.trans (hb5.mono HB5.out.size))
            have HTX2 := Lib.hid (HTX.out.step HB7.out)
            have HTH2 := Lib.hid (HTH.out.step HB7.out)
            clear e0 e1 e2 e3 e4 d0 d1 d2 d3 d4 hl12 hl14 hb5 HSM HB4 HB5 HTX HTH HB3
            go_wp2_with fail
            go_roundg (18 - (i + 1))
            case measure => omega
            case rel => exact ⟨i + 1, by omega, rfl, by go_num, HTX2, HTH2, HB6⟩
        · have hlt' : ¬ (i : Int) < 18 := by omega
          go_wp2_with fail
          go_ret
          exact ⟨rfl, HB.out⟩
end Go.Proofs.YtkpapioaijmidaaGreatDoor
