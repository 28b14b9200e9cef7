import Derived.Test.YtfcdphgggdioeaaGreatDoorKMb
import Derived.Test.YtfcdphgggdioeaaGreatDoorKMa
import Derived.Test.YtfcdphgggdioeaaGreatDoorKXa
import Derived.Test.YtfcdphgggdioeaaGreatDoorKWb
import Derived.Test.YtfcdphgggdioeaaGreatDoorKXi
import Derived.Test.YtfcdphgggdioeaaGreatDoorKHa
import Derived.Test.YtfcdphgggdioeaaGreatDoorKPb
import Derived.Test.YtfcdphgggdioeaaGreatDoorKAa
import Derived.Test.YtfcdphgggdioeaaGreatDoorKWa
import Derived.Lib.ConvBytes
import Derived.Lib.QuietBelow
import Derived.Deep.RegionHeld3
import Derived.Lib.Hide
import Derived.BigQuiet
/- SymTells: how what others see is written, by the document: SymText, SymsText, Needs. -/
namespace Go.Proofs.YtfcdphgggdioeaaGreatDoor
open Go.RowKit Go.Sort
open Tp (Sy)
theorem bs_cat (a b : List UInt8) : bs (a ++ b) = bs a ++ bs b := by simp [bs, ByteArray.ext_iff]
theorem cells_regrown {w : World} {b i : Nat} {v : Value} (h : w.cell? ⟨b, i, none⟩ = some v) (d : Nat) (os : Array Obj) : (grow (redrawn w d) os).cell? ⟨b, i, none⟩ = some v := ((below_regrown w d os).cell (p := ⟨b, i, none⟩) (lt_of_cell h)).trans h
theorem dec_short (n : Nat) (h : n < 100) : (Tp.dec n).length ≤ 100 := by have := Tp.dec_len 1 n (by omega); omega
set_option maxRecDepth 100000 in
set_option maxHeartbeats 2000000 in
theorem rSymText_post (s : Sy) (h1 : s.2.1 < 100) (h2 : s.2.2 < 100) (h3 : -1 ≤ s.2.2) (h4 : s.1.length ≤ 100) (w : World) :
    Calls Tryz.prog 59 #[.agg #[.string (bs s.1), .int .i64 (s.2.1 : Int), .int .i64 s.2.2]] w fun e w' => e = .returned (.string (bs (Tp.lineOf s))) ∧ Below w.heap.size w w' := by
  obtain ⟨nm, len, args⟩ := s
  simp only at h1 h2 h3 h4 ⊢
  unfold Tp.lineOf
  simp only
  obtain ⟨W, hW⟩ : ∃ W, W = w.alloc (.cells #[.string (bs nm), .int .i64 (len : Int), .int .i64 args] 116) := ⟨_, rfl⟩
  obtain ⟨b, hb⟩ : ∃ b, b = w.heap.size := ⟨_, rfl⟩
  have hblk : W.heap[b]? = some (.cells #[.string (bs nm), .int .i64 (len : Int), .int .i64 args] 116 (0, 0)) := by rw [hW, hb]; exact new_blk _ _
  have HBW : Hid (Below w.heap.size w W) := by rw [hW]; exact (Below.refl _ _).alloc (Nat.le_refl _) _
  obtain ⟨k0, k1, k2⟩ := cell_box3 hblk
  have hlb := lt_blk hblk
  have q0 := cells_regrown k0
  have q1 := cells_regrown k1
  have q2 := cells_regrown k2
  have hlq : ∀ d os, b < (grow (redrawn W d) os).heap.size := fun d os => Nat.lt_of_lt_of_le hlb (below_regrown W d os).size
  have HBQ : Hid (∀ d os, Below w.heap.size w (grow (redrawn W d) os)) := fun d os => HBW.out.trans ((below_regrown W d os).mono HBW.out.size)
  clear hblk
  by_cases ha : 0 ≤ args
  · rw [if_pos ha]
    obtain ⟨an, rfl⟩ : ∃ an : Nat, args = an := ⟨args.toNat, by omega⟩
    have e : ((an : Int)).toNat = an := by simp
    rw [e]
    have cI : ∀ d os, Calls Tryz.prog 82 #[.int .i64 (an : Int)] (grow (redrawn W d) os) fun e w'' => e = .returned (.string (bs (Tp.dec an))) ∧ ∃ p : Regrown, w'' = grow (redrawn W p.d) p.os := fun d os => Calls.regrown_of ((itoa_post _ an (by omega)).mono fun e w' q => ⟨q.1, by rw [q.2]; exact Below.refl _ _⟩)
    have hdl : (Tp.dec an).length ≤ 100 := dec_short an (by omega)
    have ht : bs (Tp.wordsL Tp.wProc [nm, Tp.dec an]) = (((⟨#[112, 114, 111, 99, 32]⟩ : ByteArray) ++ bs nm) ++ ⟨#[32]⟩) ++ bs (Tp.dec an) ++ ⟨#[10]⟩ := by
      have : Tp.wordsL Tp.wProc [nm, Tp.dec an] = [112, 114, 111, 99, 32] ++ nm ++ [32] ++ Tp.dec an ++ [10] := by simp [Tp.wordsL, Tp.wProc]
      rw [this]
      simp only [bs_cat]
      rfl
    rw [ht]
    generalize Tp.dec an = ds at *
    have z1 := bs_size nm
    have z2 := bs_size ds
    have p1 : ¬ 9223372036854775807 < 5 + (bs nm).size := by omega
    have p2 : ¬ 9223372036854775807 < ((5 + (bs nm).size) + 1) := by omega
    have p3 : ¬ 9223372036854775807 < ((5 + (bs nm).size) + 1) + (bs ds).size := by omega
    have p4 : ¬ 9223372036854775807 < (((5 + (bs nm).size) + 1) + (bs ds).size) + 1 := by omega
    clear z1 z2
    generalize bs nm = SN at *
    generalize bs ds = SD at *
    clear ht
    go_enter Tryz.func59, Tryz.ntmps59
    go_upto_region 1 with fail
    rw [← hW, ← hb]
    clear hW hb
    go_upto_region 2 with fail
    refine wp_region_quiet_below (by kernel_rfl) (by kernel_rfl) ?_
    repeat (quiet_step ((go_at_call 82; with_reducible exact cI _ _)))
    refine wpQuiet_nil ?_
    intro _ hw'
    obtain ⟨⟨dq, osq⟩, hw''⟩ := hw'
    subst hw''
    go_wp2_with fail
    go_ret
    exact ⟨rfl, HBQ.out dq osq⟩
  · rw [if_neg ha]
    have ha' : args < 0 := by omega
    by_cases hl : 0 < len
    · rw [if_pos hl]
      have hl' : (0 : Int) < (len : Int) := by omega
      have cI : ∀ d os, Calls Tryz.prog 82 #[.int .i64 (len : Int)] (grow (redrawn W d) os) fun e w'' => e = .returned (.string (bs (Tp.dec len))) ∧ ∃ p : Regrown, w'' = grow (redrawn W p.d) p.os := fun d os => Calls.regrown_of ((itoa_post _ len (by omega)).mono fun e w' q => ⟨q.1, by rw [q.2]; exact Below.refl _ _⟩)
      have hdl : (Tp.dec len).length ≤ 100 := dec_short len (by omega)
      have ht : bs (Tp.wordsL Tp.wArr [nm, Tp.dec len]) = (((⟨#[97, 114, 114, 97, 121, 32]⟩ : ByteArray) ++ bs nm) ++ ⟨#[32]⟩) ++ bs (Tp.dec len) ++ ⟨#[10]⟩ := by
        have : Tp.wordsL Tp.wArr [nm, Tp.dec len] = [97, 114, 114, 97, 121, 32] ++ nm ++ [32] ++ Tp.dec len ++ [10] := by simp [Tp.wordsL, Tp.wArr]
        rw [this]
        simp only [bs_cat]
        rfl
      rw [ht]
      generalize Tp.dec len = ds at *
      have z1 := bs_size nm
      have z2 := bs_size ds
      have p1 : ¬ 9223372036854775807 < 6 + (bs nm).size := by omega
      have p2 : ¬ 9223372036854775807 < ((6 + (bs nm).size) + 1) := by omega
      have p3 : ¬ 9223372036854775807 < ((6 + (bs nm).size) + 1) + (bs ds).size := by omega
      have p4 : ¬ 9223372036854775807 < (((6 + (bs nm).size) + 1) + (bs ds).size) + 1 := by omega
      clear z1 z2
      generalize bs nm = SN at *
      generalize bs ds = SD at *
      clear ht
      go_enter Tryz.func59, Tryz.ntmps59
      go_upto_region 1 with fail
      rw [← hW, ← hb]
      clear hW hb
      go_upto_region 4 with fail
      refine wp_region_quiet_below (by kernel_rfl) (by kernel_rfl) ?_
      repeat (quiet_step ((go_at_call 82; with_reducible exact cI _ _)))
      refine wpQuiet_nil ?_
      intro _ hw'
      obtain ⟨⟨dq, osq⟩, hw''⟩ := hw'
      subst hw''
      go_wp2_with fail
      go_ret
      exact ⟨rfl, HBQ.out dq osq⟩
    · rw [if_neg hl]
      have hl' : ¬ (0 : Int) < (len : Int) := by omega
      have ht : bs (Tp.wordsL Tp.wInt [nm]) = ((⟨#[105, 110, 116, 32]⟩ : ByteArray) ++ bs nm) ++ ⟨#[10]⟩ := by
        have : Tp.wordsL Tp.wInt [nm] = [105, 110, 116, 32] ++ nm ++ [10] := by simp [Tp.wordsL, Tp.wInt]
        rw [this]
        simp only [bs_cat]
        rfl
      rw [ht]
      have z1 := bs_size nm
      have p1 : ¬ 9223372036854775807 < 4 + (bs nm).size := by omega
      have p2 : ¬ 9223372036854775807 < (4 + (bs nm).size) + 1 := by omega
      clear z1
      generalize bs nm = SN at *
      clear ht
      go_enter Tryz.func59, Tryz.ntmps59
      go_upto_region 1 with fail
      rw [← hW, ← hb]
      clear hW hb
      go_wp2_with fail
      go_ret
      exact ⟨rfl, HBW.out⟩
end Go.Proofs.YtfcdphgggdioeaaGreatDoor
/- SymTells: how what others see, and what is needed of it, is written, by the document: SymsText, Needs. -/
namespace Go.Proofs.YtfcdphgggdioeaaGreatDoor
open Go.RowKit Go.Sort
open Tp (Sy)
set_option maxRecDepth 100000 in
set_option maxHeartbeats 2000000 in
theorem rNeeds_post {w : World} {v : Value} {l : List Sy} (h : SL w 0 v l) (hs : AllSmall l) (hn : l.length ≤ 1000) {ns : List (List UInt8)} {na : Option Addr} {nc : Nat} (hns : StrsAt w ns na) (hnl : ∀ n ∈ ns, n.length ≤ 100) (hnn : ns.length ≤ 9000) :
    Calls Tryz.prog 36 #[v, .slice na ns.length nc] w fun e w' => e = .returned (.string (bs (Tp.needsS l ns))) ∧ Below w.heap.size w w' := by
  obtain ⟨a, c, rfl⟩ := h.len
  have hnn' : (ns.length : Int) ≤ 9000 := by omega
  have hln' : (l.length : Int) ≤ 1000 := by omega
  have HSL := Lib.hid h
  have HS := Lib.hid hs
  have HNS := Lib.hid hns
  have HNL := Lib.hid hnl
  have HF : Hid (∀ W, Below w.heap.size w W → ∀ n, Calls Tryz.prog 58 #[.slice a l.length c, .string (bs n)] W fun e w' => ∃ k, e = .returned (.int .i64 k) ∧ FndP l n k ∧ Below W.heap.size W w') := fun W hW n => rfind_post (h.on hW) (by omega) n
  obtain ⟨nn, hnq⟩ : ∃ nn, nn = ns.length := ⟨_, rfl⟩
  rw [← hnq] at hnn' ⊢
  have HNQ := Lib.hid hnq
  obtain ⟨ln, hlq⟩ : ∃ ln, ln = l.length := ⟨_, rfl⟩
  rw [← hlq] at hln' HF ⊢
  have HLQ := Lib.hid hlq
  clear h hs hns hnl hnq hlq
  go_enter Tryz.func36, Tryz.ntmps36
  go_wp2_with fail
  go_loopg [5, 11] nn (fun k v vi wr => ∃ i : Nat, i ≤ nn ∧ k = nn - i ∧ v = .string (bs (Tp.needsS l (ns.take i))) ∧ vi = .int .i64 (i : Int) ∧ Hid (Below w.heap.size w wr))
  case atStart => exact ⟨0, by omega, by omega, by simp [Tp.needsS, bs], rfl, Below.refl _ _⟩
  case round =>
    obtain ⟨i, hid, hk, rfl, rfl, HW⟩ := hrel
    by_cases hlt : i < nn
    · have hlt' : (i : Int) < (nn : Int) := by omega
      have hia : i < ns.length := by have := HNQ.out; omega
      obtain ⟨b, o, rfl, hbl, hcell⟩ := HNS.out.c i hia
      have kc : wr.cell? ⟨b, o + i, none⟩ = some (.string (bs ns[i])) := (HW.out.cell (p := ⟨b, o + i, none⟩) hbl).trans hcell
      have hlgr : b < wr.heap.size := Nat.lt_of_lt_of_le hbl HW.out.size
      have HE1 : Hid (Tp.needsS l (ns.take (i + 1)) = Tp.needsS l (ns.take i) ++ Tp.needS l ns[i]) := by
        show _ = _
        unfold Tp.needsS
        rw [List.take_succ_eq_append_getElem hia, List.map_append, List.flatten_append]; simp
      have hpl := needs_len l (ns.take (i + 1)) HS.out (fun x hx => HNL.out x (List.mem_of_mem_take hx))
      rw [HE1.out, List.length_append] at hpl
      have z1 := bs_size (Tp.needsS l (ns.take i))
      have z2 := bs_size (Tp.needS l ns[i])
      have hnl := HNL.out _ (List.getElem_mem hia)
      have hp1 : (bs (Tp.needsS l (ns.take i))).size + (bs (Tp.needS l ns[i])).size ≤ 1000000000 := by simp only [List.length_take] at hpl; omega
      have HFI := Lib.hid (HF.out wr HW.out ns[i])
      have HFN : Hid (bs (Tp.needsS l (ns.take i)) ++ bs (Tp.needS l ns[i]) = bs (Tp.needsS l (ns.take (i + 1)))) := by show _ = _; rw [HE1.out, bs_cat]
      clear hcell hpl z1 z2 HE1
      generalize ns[i] = nm at *
      go_wp2_with fail
      refine HFI.out.mono ?_
      rintro e w3 ⟨k, rfl, hfn, h3⟩
      have HW3 : Hid (Below w.heap.size w w3) := HW.out.trans (h3.mono HW.out.size)
      clear h3 kc hlgr
      rcases hfn with ⟨rfl, hnone⟩ | ⟨k, hkl, rfl, hsome⟩
      · have hne : bs (Tp.needS l nm) = ((⟨#[110, 111, 110, 101, 32]⟩ : ByteArray) ++ bs nm) ++ ⟨#[10]⟩ := by
          have : Tp.needS l nm = [110, 111, 110, 101, 32] ++ nm ++ [10] := by unfold Tp.needS; rw [hnone]; simp [Tp.wordsL]
          rw [this]
          simp only [bs_cat]
          rfl
        have z3 := bs_size nm
        have p1 : ¬ 9223372036854775807 < 5 + (bs nm).size := by omega
        have p2 : ¬ 9223372036854775807 < (5 + (bs nm).size) + 1 := by omega
        have hsz : (((⟨#[110, 111, 110, 101, 32]⟩ : ByteArray) ++ bs nm) ++ ⟨#[10]⟩).size = 5 + (bs nm).size + 1 := by simp [ByteArray.size_append]; rfl
        rw [hne, hsz] at hp1
        rw [hne] at HFN
        have p3 : ¬ 9223372036854775807 < (bs (Tp.needsS l (ns.take i))).size + ((5 + (bs nm).size) + 1) := by omega
        clear z3 hne hsz hp1 hnone
        generalize bs (Tp.needsS l (ns.take i)) = SA at *
        generalize bs nm = SN at *
        go_wp2_with fail
        go_roundg (nn - (i + 1))
        case measure => omega
        case rel => exact ⟨i + 1, by omega, rfl, by rw [← HFN.out], by go_num, HW3⟩
      · obtain ⟨g, hag, _, hgl, hc3⟩ := HSL.out.cell k hkl
        subst hag
        have hc := fun j (hj : j < 3) => (HW3.out.cell (p := ⟨g, k * 3 + j, none⟩) hgl).trans (hc3 j hj)
        have kc0 : w3.cell? ⟨g, k * 3, none⟩ = some (.string (bs l[k].1)) := hc 0 (by omega)
        have kc1 : w3.cell? ⟨g, k * 3 + 1, none⟩ = some (.int .i64 (l[k].2.1 : Int)) := hc 1 (by omega)
        have kc2 : w3.cell? ⟨g, k * 3 + 2, none⟩ = some (.int .i64 l[k].2.2) := hc 2 (by omega)
        have hlg3 : g < w3.heap.size := Nat.lt_of_lt_of_le hgl HW3.out.size
        have hsm := HS.out l[k] (List.getElem_mem hkl)
        have hkl' : (k : Int) < (ln : Int) := by have := HLQ.out; omega
        have hne : Tp.needS l nm = Tp.lineOf l[k] := by unfold Tp.needS; rw [hsome]
        have HC := Lib.hid (rSymText_post l[k] hsm.1 hsm.2.1 hsm.2.2.1 hsm.2.2.2 w3)
        rw [hne] at hp1 HFN
        have p1 : ¬ 9223372036854775807 < (bs (Tp.needsS l (ns.take i))).size + (bs (Tp.lineOf l[k])).size := by omega
        clear hne hc hc3 hsm hp1 hsome
        generalize bs (Tp.needsS l (ns.take i)) = SA at *
        generalize bs (Tp.lineOf l[k]) = SL at *
        generalize l[k].1 = x0 at *
        generalize l[k].2.1 = x1 at *
        generalize l[k].2.2 = x2 at *
        go_wp2_with fail
        refine HC.out.mono ?_
        rintro e w4 ⟨rfl, h4⟩
        have HW4 : Hid (Below w.heap.size w w4) := HW3.out.trans (h4.mono HW3.out.size)
        clear h4 kc0 kc1 kc2 hlg3
        go_wp2_with fail
        go_roundg (nn - (i + 1))
        case measure => omega
        case rel => exact ⟨i + 1, by omega, rfl, by rw [HFN.out], by go_num, HW4⟩
    · have hlt' : ¬ (i : Int) < (nn : Int) := by omega
      have e : i = ns.length := by have := HNQ.out; omega
      have HT : Hid (bs (Tp.needsS l (ns.take i)) = bs (Tp.needsS l ns)) := by show _ = _; rw [e, List.take_length]
      clear e
      go_wp2_with fail
      go_ret
      exact ⟨congrArg (fun z => Ending.returned (Value.string z)) HT.out, HW.out⟩
end Go.Proofs.YtfcdphgggdioeaaGreatDoor
/- The document's walk, as Used calls it: its closure expr. -/
namespace Go.Proofs.YtfcdphgggdioeaaGreatDoor
open Go.RowKit Go.Sort
open Tp (X)
/- all EXPRs, each ahead of what it is made of -/
def allX : List X → List X
  | [] => []
  | ⟨code, pos, n, md, nm, op, le, ri, ar⟩ :: xs => ⟨code, pos, n, md, nm, op, le, ri, ar⟩ :: (allX le ++ allX ri ++ allX ar ++ allX xs)
theorem allX_cons (x : X) (l : List X) : allX (x :: l) = x :: (allX x.left ++ allX x.right ++ allX x.args ++ allX l) := by
  obtain ⟨⟩ := x
  rw [allX]
theorem allX_nil : allX [] = [] := by rw [allX]
theorem RepL.extD {b : Nat} {w w' : World} {D : Nat → Prop} {l : List X} {vs : List Value} (h : RepL w D l vs) (k : Ext b w w') (hD : ∀ i, D i → i ≠ b) : RepL w' D l vs :=
  RepL.mono (fun i hi hl => ⟨k.block i hl (hD i hi), hi⟩) (SizeOf.sizeOf l) l vs (Nat.le_refl _) h
theorem fold_cnt {σ : Type} {stp : X → σ → σ} {cnt : σ → Nat} (h : ∀ y s, cnt (stp y s) = cnt s + 1) : ∀ (l : List X) (s : σ), cnt (l.foldl (fun s y => stp y s) s) = cnt s + l.length := by
  intro l
  induction l with
  | nil => intro s; rfl
  | cons y l ih => intro s; rw [List.foldl_cons, ih, h, List.length_cons]; omega
/- what a function that is called at each EXPR does: it changes block b alone, and what is known of the world goes by stp -/
structure Vis {σ : Type} (I : σ → World → Prop) (stp : X → σ → σ) (cnt : σ → Nat) (b fid : Nat) (p1 p2 : Nat) : Prop where
  ct : ∀ y s, cnt (stp y s) = cnt s + 1
  on : ∀ {s W W'}, I s W → Below W.heap.size W W' → I s W'
  does : ∀ {s W D x} {y : X}, cnt s < 100000 → I s W → RepL W D [y] [.pointer (some ⟨x, 0, none⟩)] → Tp.WX [y] → Calls Tryz.prog fid #[.pointer (some ⟨x, 0, none⟩), .pointer (some ⟨p1, 0, none⟩), .pointer (some ⟨p2, 0, none⟩)] W fun e w' => e = .returned (.tuple #[]) ∧ I (stp y s) w' ∧ Ext b W w'
/- the two boxes that expr reads -/
structure Bx (W : World) (fid t1 t2 b p1 p2 : Nat) : Prop where
  c1 : W.cell? ⟨t1, 0, none⟩ = some (.func (.func fid) #[] #[.pointer (some ⟨p1, 0, none⟩), .pointer (some ⟨p2, 0, none⟩)])
  c2 : W.cell? ⟨t2, 0, none⟩ = some (.func (.func 81) #[] #[.pointer (some ⟨t1, 0, none⟩), .pointer (some ⟨t2, 0, none⟩)])
  n1 : t1 ≠ b
  n2 : t2 ≠ b
theorem cell_ext {b t o : Nat} {w w' : World} {v : Value} (h : w.cell? ⟨t, o, none⟩ = some v) (k : Ext b w w') (hn : t ≠ b) : w'.cell? ⟨t, o, none⟩ = some v := by
  rw [← h]
  unfold World.cell?
  rw [k.block t (lt_of_cell h) hn]
theorem Bx.ext {W W' : World} {fid t1 t2 b p1 p2 : Nat} (h : Bx W fid t1 t2 b p1 p2) (k : Ext b W W') : Bx W' fid t1 t2 b p1 p2 := ⟨cell_ext h.c1 k h.n1, cell_ext h.c2 k h.n2, h.n1, h.n2⟩
theorem Bx.on {W W' : World} {fid t1 t2 b p1 p2 : Nat} (h : Bx W fid t1 t2 b p1 p2) (k : Below W.heap.size W W') : Bx W' fid t1 t2 b p1 p2 := ⟨(k.cell (p := ⟨t1, 0, none⟩) (lt_of_cell h.c1)).trans h.c1, (k.cell (p := ⟨t2, 0, none⟩) (lt_of_cell h.c2)).trans h.c2, h.n1, h.n2⟩
theorem Ext.of_below {b : Nat} {w w' : World} (k : Below w.heap.size w w') : Ext b w w' := ⟨k.os, k.tape, k.output, k.size, fun i hi _ => k.block i hi⟩
set_option maxRecDepth 100000 in
theorem expr_nil (W : World) (t1 t2 : Nat) : Calls Tryz.prog 81 #[.pointer none, .pointer (some ⟨t1, 0, none⟩), .pointer (some ⟨t2, 0, none⟩)] W fun e w' => e = .returned (.tuple #[]) ∧ w' = W := by
  go_enter Tryz.func81, Tryz.ntmps81
  go_wp2_with fail
  (try simp only [Exit.inBlock, Exit.then])
  refine bodyPost_ret (results_none rfl _ _ _) rfl ?_
  exact ⟨rfl, rfl⟩
def ExC {σ : Type} (I : σ → World → Prop) (stp : X → σ → σ) (cnt : σ → Nat) (b fid p1 p2 t1 t2 : Nat) (N : Nat) : Prop := ∀ (y : X), SizeOf.sizeOf y ≤ N → Tp.WX [y] → ∀ (W : World) (D : Nat → Prop) (x : Nat) (s : σ), cnt s + (allX [y]).length ≤ 100000 → I s W → RepL W D [y] [.pointer (some ⟨x, 0, none⟩)] → (∀ i, D i → i ≠ b) → Bx W fid t1 t2 b p1 p2 →
  Calls Tryz.prog 81 #[.pointer (some ⟨x, 0, none⟩), .pointer (some ⟨t1, 0, none⟩), .pointer (some ⟨t2, 0, none⟩)] W fun e w' => e = .returned (.tuple #[]) ∧ I ((allX [y]).foldl (fun s y => stp y s) s) w' ∧ Ext b W w'
/- Left, Right: one, or none -/
theorem ex_opt {σ : Type} {I : σ → World → Prop} {stp : X → σ → σ} {cnt : σ → Nat} {b fid p1 p2 t1 t2 N : Nat} (hE : ExC I stp cnt b fid p1 p2 t1 t2 N) {l : List X} (hl : l = [] ∨ ∃ z, l = [z] ∧ SizeOf.sizeOf z ≤ N ∧ Tp.WX [z]) {W : World} {D : Nat → Prop} {ls : List Value} {s : σ} (hc : cnt s + (allX l).length ≤ 100000) (hI : I s W) (hr : RepL W D l ls) (hD : ∀ i, D i → i ≠ b) (hB : Bx W fid t1 t2 b p1 p2) :
    Calls Tryz.prog 81 #[ls.headD (.pointer none), .pointer (some ⟨t1, 0, none⟩), .pointer (some ⟨t2, 0, none⟩)] W fun e w' => e = .returned (.tuple #[]) ∧ I ((allX l).foldl (fun s y => stp y s) s) w' ∧ Ext b W w' := by
  rcases hl with rfl | ⟨z, rfl, hz, hw⟩
  · have : ls = [] := List.eq_nil_of_length_eq_zero (by have := RepL.len _ _ hr; simpa using this)
    subst this
    refine (expr_nil W t1 t2).mono ?_
    rintro e w' ⟨rfl, rfl⟩
    exact ⟨rfl, by rw [allX_nil]; exact hI, Ext.refl _ _⟩
  · obtain ⟨c, rfl⟩ := hr.single
    exact hE z hz hw W D c s hc hI hr hD hB
theorem allX_app (l m : List X) : allX (l ++ m) = allX l ++ allX m := by
  induction l with
  | nil => rw [allX_nil]; rfl
  | cons x l ih => rw [List.cons_append, allX_cons, allX_cons, ih]; simp
theorem allX_take {l : List X} {i : Nat} (h : i < l.length) : allX (l.take (i + 1)) = allX (l.take i) ++ allX [l[i]] := by rw [List.take_succ_eq_append_getElem h, allX_app]
theorem allX_part {l : List X} {i : Nat} (h : i < l.length) : (allX (l.take i)).length + (allX [l[i]]).length ≤ (allX l).length := by
  have e : l = l.take (i + 1) ++ l.drop (i + 1) := (List.take_append_drop _ _).symm
  have h2 : (allX l).length = (allX (l.take (i + 1))).length + (allX (l.drop (i + 1))).length := by
    conv => lhs; rw [e, allX_app, List.length_append]
  rw [h2, allX_take h, List.length_append]
  omega
set_option maxRecDepth 100000 in
set_option maxHeartbeats 4000000 in
theorem expr_step {σ : Type} {I : σ → World → Prop} {stp : X → σ → σ} {cnt : σ → Nat} {b p1 p2 t1 t2 N : Nat} (hV : Vis I stp cnt b 56 p1 p2) (hE : ExC I stp cnt b 56 p1 p2 t1 t2 N) {y : X} (hle : y.left = [] ∨ ∃ z, y.left = [z] ∧ SizeOf.sizeOf z ≤ N ∧ Tp.WX [z]) (hri : y.right = [] ∨ ∃ z, y.right = [z] ∧ SizeOf.sizeOf z ≤ N ∧ Tp.WX [z]) (har : ∀ i (h : i < y.args.length), SizeOf.sizeOf y.args[i] ≤ N ∧ Tp.WX [y.args[i]]) (hw : Tp.WX [y])
    {W : World} {D : Nat → Prop} {x : Nat} {s : σ} (hc : cnt s + (allX [y]).length ≤ 100000) (hI : I s W) (hr : RepL W D [y] [.pointer (some ⟨x, 0, none⟩)]) (hD : ∀ i, D i → i ≠ b) (hB : Bx W 56 t1 t2 b p1 p2) :
    Calls Tryz.prog 81 #[.pointer (some ⟨x, 0, none⟩), .pointer (some ⟨t1, 0, none⟩), .pointer (some ⟨t2, 0, none⟩)] W fun e w' => e = .returned (.tuple #[]) ∧ I ((allX [y]).foldl (fun s y => stp y s) s) w' ∧ Ext b W w' := by
  obtain ⟨code, pos, n, md, nm, op, le, ri, ar⟩ := y
  obtain ⟨av, ls, rs, gs, hbW, hleW, hriW, harW, havW⟩ := hr.unit
  simp only at hle hri har
  have hxD : x ≠ b := by
    have hr' := hr
    rw [RepL] at hr'
    obtain ⟨b', _, _, _, _, _, h1, h2, _⟩ := hr'
    cases h1
    exact hD _ h2
  have HXB : Hid (x ≠ b) := hxD
  have hcl : (allX [(⟨code, pos, n, md, nm, op, le, ri, ar⟩ : X)]).length = 1 + (allX le).length + (allX ri).length + (allX ar).length := by rw [allX_cons, allX_nil]; simp only [List.length_cons, List.length_append, List.length_nil]; omega
  rw [hcl] at hc
  have HF := Lib.hid (hV.does (by omega) hI hr hw)
  have HCT : Hid (∀ (l : List X) (s : σ), cnt (l.foldl (fun s y => stp y s) s) = cnt s + l.length) := fold_cnt hV.ct
  have HV := Lib.hid hV
  have HE := Lib.hid hE
  have HD := Lib.hid hD
  have HB := Lib.hid hB
  have HLE := Lib.hid hle
  have HRI := Lib.hid hri
  have HAR := Lib.hid har
  have HLW := Lib.hid hleW
  have HRW := Lib.hid hriW
  have HAW := Lib.hid harW
  have HVW := Lib.hid havW
  have HBW := Lib.hid hbW
  obtain ⟨la, hla⟩ := hleW.headP
  obtain ⟨ra, hra⟩ := hriW.headP
  have HLA := Lib.hid hla
  have HRA := Lib.hid hra
  have b1 := hB.c1
  have hl1 := lt_of_cell b1
  obtain ⟨s1, hs1⟩ : ∃ s1, s1 = stp ⟨code, pos, n, md, nm, op, le, ri, ar⟩ s := ⟨_, rfl⟩
  rw [← hs1] at HF
  have HS1 := Lib.hid hs1
  have HCS : Hid (cnt s1 + (allX le).length + (allX ri).length + (allX ar).length ≤ 100000) := by show _ ≤ _; rw [hs1, hV.ct]; omega
  clear hc hcl hI hr hV hE hD hB hle hri har hw hleW hriW harW havW hbW hla hra hs1 hxD
  go_enter Tryz.func81, Tryz.ntmps81
  go_wp2_with fail
  refine HF.out.mono ?_
  rintro e w1 ⟨rfl, hI1, hx1⟩
  have hBw1 := HB.out.ext hx1
  have hbw1 : w1.heap[x]? = some (.cells #[.int .i64 (code : Int), .int .i64 (pos : Int), .int .i64 (n : Int), .string (bs md), .string (bs nm), .string (bs op), .pointer la, .pointer ra, av] 108 (0, 0)) := by
    have := (hx1.block x (lt_blk HBW.out) HXB.out).trans HBW.out
    rw [HLA.out, HRA.out] at this
    exact this
  have hl1w := HLW.out.extD hx1 HD.out
  have hr1w := HRW.out.extD hx1 HD.out
  have ha1w := HAW.out.extD hx1 HD.out
  have HHL : Hid (RepL w1 D le ls) := hl1w
  have HHR : Hid (RepL w1 D ri rs) := hr1w
  have HHA : Hid (RepL w1 D ar gs) := ha1w
  have HI1 := Lib.hid hI1
  have HX1 := Lib.hid hx1
  clear hl1w hr1w ha1w hI1 HF
  have HC2 : Hid (w1.drew.cell? ⟨t2, 0, none⟩ = some (.func (.func 81) #[] #[.pointer (some ⟨t1, 0, none⟩), .pointer (some ⟨t2, 0, none⟩)]) ∧ w1.drew.cell? ⟨x, 6, none⟩ = some (.pointer la)) := ⟨hBw1.c2, cell_blk hbw1⟩
  have HL2 : Hid (Calls Tryz.prog 81 #[.pointer la, .pointer (some ⟨t1, 0, none⟩), .pointer (some ⟨t2, 0, none⟩)] w1.drew fun e w' => e = .returned (.tuple #[]) ∧ I ((allX le).foldl (fun s y => stp y s) s1) w' ∧ Ext b w1 w') := by
    have := ex_opt (W := w1.drew) HE.out HLE.out (by have := HCS.out; omega) (HV.out.on HI1.out ((Below.refl _ _).drew)) (HHL.out.step' ((Below.refl _ _).drew)) HD.out (hBw1.on ((Below.refl _ _).drew))
    rw [HLA.out] at this
    exact this.mono fun e w' q => ⟨q.1, q.2.1, (Ext.of_below ((Below.refl _ _).drew)).trans q.2.2⟩
  have HN2 : Hid (∀ w', Ext b w1 w' → w'.cell? ⟨t2, 0, none⟩ = some (.func (.func 81) #[] #[.pointer (some ⟨t1, 0, none⟩), .pointer (some ⟨t2, 0, none⟩)]) ∧ w'.cell? ⟨x, 6, none⟩ = some (.pointer la)) := fun w' k => ⟨cell_ext hBw1.c2 k hBw1.n2, cell_ext (cell_blk hbw1) k HXB.out⟩
  have hlx := lt_blk hbw1
  have HBB2 := Lib.hid hBw1
  have HBK2 := Lib.hid hbw1
  clear hBw1 hbw1
  go_upto_region 2 with fail
  go_cut [] from 11 (fun wq => Hid (I ((allX le).foldl (fun s y => stp y s) s1) wq) ∧ Hid (Ext b w1 wq))
  case first =>
    go_region_held3 (fun w' => w'.cell? ⟨t2, 0, none⟩ = some (.func (.func 81) #[] #[.pointer (some ⟨t1, 0, none⟩), .pointer (some ⟨t2, 0, none⟩)]) ∧ w'.cell? ⟨x, 6, none⟩ = some (.pointer la)) (with_reducible (first | exact HC9.out | exact HC2.out | fail "KEEP")) (first | (go_at_call 81; refine HL2.out.mono ?_; rintro e w9 ⟨rfl, hI9, hx9⟩; have HC9 : Hid (w9.cell? ⟨t2, 0, none⟩ = some (.func (.func 81) #[] #[.pointer (some ⟨t1, 0, none⟩), .pointer (some ⟨t2, 0, none⟩)]) ∧ w9.cell? ⟨x, 6, none⟩ = some (.pointer la)) := HN2.out w9 hx9; have HI9 := Lib.hid hI9; have HX9 := Lib.hid hx9; clear hI9 hx9))
    go_wp2_with fail
    go_meet
    case rel => exact ⟨HI9, HX9⟩
  case rest =>
    obtain ⟨HI2, HX2⟩ := hcut
    rename World => w2
    have hBw2 := HBB2.out.ext HX2.out
    have hbw2 := (HX2.out.block x (lt_blk HBK2.out) HXB.out).trans HBK2.out
    have HHR2 : Hid (RepL w2 D ri rs) := HHR.out.extD HX2.out HD.out
    have HHA2 : Hid (RepL w2 D ar gs) := HHA.out.extD HX2.out HD.out
    clear HHL HHR HHA HC2 HL2 HN2 HLE HBB2 HBK2 hlx
    have HC3 : Hid (w2.drew.cell? ⟨t2, 0, none⟩ = some (.func (.func 81) #[] #[.pointer (some ⟨t1, 0, none⟩), .pointer (some ⟨t2, 0, none⟩)]) ∧ w2.drew.cell? ⟨x, 7, none⟩ = some (.pointer ra)) := ⟨hBw2.c2, cell_blk hbw2⟩
    have HL3 : Hid (Calls Tryz.prog 81 #[.pointer ra, .pointer (some ⟨t1, 0, none⟩), .pointer (some ⟨t2, 0, none⟩)] w2.drew fun e w' => e = .returned (.tuple #[]) ∧ I ((allX ri).foldl (fun s y => stp y s) ((allX le).foldl (fun s y => stp y s) s1)) w' ∧ Ext b w2 w') := by
        have := ex_opt (W := w2.drew) HE.out HRI.out (by rw [HCT.out]; have := HCS.out; omega) (HV.out.on HI2.out ((Below.refl _ _).drew)) (HHR2.out.step' ((Below.refl _ _).drew)) HD.out (hBw2.on ((Below.refl _ _).drew))
        rw [HRA.out] at this
        exact this.mono fun e w' q => ⟨q.1, q.2.1, (Ext.of_below ((Below.refl _ _).drew)).trans q.2.2⟩
    have HN3 : Hid (∀ w', Ext b w2 w' → w'.cell? ⟨t2, 0, none⟩ = some (.func (.func 81) #[] #[.pointer (some ⟨t1, 0, none⟩), .pointer (some ⟨t2, 0, none⟩)]) ∧ w'.cell? ⟨x, 7, none⟩ = some (.pointer ra)) := fun w' k => ⟨cell_ext hBw2.c2 k hBw2.n2, cell_ext (cell_blk hbw2) k HXB.out⟩
    have hlx := lt_blk hbw2
    have HBB3 := Lib.hid hBw2
    have HBK3 := Lib.hid hbw2
    clear hBw2 hbw2
    go_upto_region 3 with fail
    go_cut [] from 17 (fun wq => Hid (I ((allX ri).foldl (fun s y => stp y s) ((allX le).foldl (fun s y => stp y s) s1)) wq) ∧ Hid (Ext b w2 wq))
    case first =>
      go_region_held3 (fun w' => w'.cell? ⟨t2, 0, none⟩ = some (.func (.func 81) #[] #[.pointer (some ⟨t1, 0, none⟩), .pointer (some ⟨t2, 0, none⟩)]) ∧ w'.cell? ⟨x, 7, none⟩ = some (.pointer ra)) (with_reducible (first | exact HC9.out | exact HC3.out | fail "KEEP")) (first | (go_at_call 81; refine HL3.out.mono ?_; rintro e w9 ⟨rfl, hI9, hx9⟩; have HC9 : Hid (w9.cell? ⟨t2, 0, none⟩ = some (.func (.func 81) #[] #[.pointer (some ⟨t1, 0, none⟩), .pointer (some ⟨t2, 0, none⟩)]) ∧ w9.cell? ⟨x, 7, none⟩ = some (.pointer ra)) := HN3.out w9 hx9; have HI9 := Lib.hid hI9; have HX9 := Lib.hid hx9; clear hI9 hx9))
      go_wp2_with fail
      go_meet
      case rel => exact ⟨HI9, HX9⟩
    case rest =>
      obtain ⟨HI3, HX3⟩ := hcut
      rename World => w3
      have hBw3 := HBB3.out.ext HX3.out
      have hbw3 := (HX3.out.block x (lt_blk HBK3.out) HXB.out).trans HBK3.out
      have HHA3 : Hid (RepL w3 D ar gs) := HHA2.out.extD HX3.out HD.out
      have hgl := RepL.len _ _ HAW.out
      have hav3 : ArgsAt w3 D av gs := by
        have k := (HX1.out.trans HX2.out).trans HX3.out
        rcases HVW.out with q | ⟨g, cap, cur, q1, q2, q3, q4⟩
        · exact Or.inl q
        · exact Or.inr ⟨g, cap, cur, q1, q2, (k.block g (lt_blk q3) (HD.out g q2)).trans q3, q4⟩
      obtain ⟨hgn, aa, ac, rfl, hac⟩ := hav3.shape
      rw [hgl] at hgn hbw3
      have HAC : Hid (∀ i (h : i < ar.length), ∃ g c : Nat, aa = some ⟨g, 0, none⟩ ∧ g ≠ b ∧ w3.cell? ⟨g, i, none⟩ = some (.pointer (some ⟨c, 0, none⟩)) ∧ RepL w3 D [ar[i]] [.pointer (some ⟨c, 0, none⟩)]) := fun i h => by
        obtain ⟨c, z1, z2⟩ := RepL.nth _ _ HHA3.out i h
        rcases hav3 with ⟨q1, q2⟩ | ⟨g, cap, cur, q1, q2, q3, q4⟩
        · rw [q1] at z1; simp at z1
        · obtain ⟨g', e1, e2, e3⟩ := hac i _ z1
          have : g' = g := by cases q1; cases e1; rfl
          subst this
          exact ⟨g', c, e1, HD.out g' q2, e3, z2⟩
      have y8 : w3.cell? ⟨x, 8, none⟩ = some (.slice aa ar.length ac) := cell_blk hbw3
      have hlx := lt_blk hbw3
      have hn' : (ar.length : Int) ≤ 9223372036854775807 := by omega
      have HBB4 := Lib.hid hBw3
      obtain ⟨s3, hs3⟩ : ∃ s3, s3 = (allX ri).foldl (fun s y => stp y s) ((allX le).foldl (fun s y => stp y s) s1) := ⟨_, rfl⟩
      have HI3' : Hid (I s3 w3) := by rw [hs3]; exact HI3.out
      have HS3 := Lib.hid hs3
      have HXX : Hid (Ext b W w3) := (HX1.out.trans HX2.out).trans HX3.out
      clear HI3 hs3 hac hav3 HC3 HL3 HN3 HBB3 HBK3 HHA2 HHR2 hBw3 hbw3 HVW HHA3
      go_wp2_with fail
      clear y8 hlx
      go_loopg [28] ar.length (fun k vi wr => ∃ i : Nat, i ≤ ar.length ∧ k = ar.length - i ∧ vi = .int .i64 (i : Int) ∧ Hid (I ((allX (ar.take i)).foldl (fun s y => stp y s) s3) wr) ∧ Hid (Ext b w3 wr))
      case atStart => exact ⟨0, by omega, by omega, rfl, by rw [List.take_zero, allX_nil]; exact HI3', Ext.refl _ _⟩
      case round =>
        obtain ⟨i, hid, hk, rfl, HII, HXW⟩ := hrel
        by_cases hlt : i < ar.length
        · have hlt' : (i : Int) < (ar.length : Int) := by omega
          obtain ⟨g, c, rfl, hgb, hgc, hrc⟩ := HAC.out i hlt
          have x0 : wr.cell? ⟨g, i, none⟩ = some (.pointer (some ⟨c, 0, none⟩)) := cell_ext hgc HXW.out hgb
          have hgw := lt_of_cell x0
          have hBr := HBB4.out.ext HXW.out
          have c2 := hBr.c2
          have hl2 := lt_of_cell c2
          obtain ⟨z1, z2⟩ := HAR.out i hlt
          have HC := Lib.hid (HE.out ar[i] z1 z2 wr D c _ (by have := HCS.out; have h2 := allX_part hlt; rw [HCT.out, HS3.out, HCT.out, HCT.out]; omega) HII.out (hrc.extD HXW.out HD.out) HD.out hBr)
          clear hgc hrc hBr z1 z2
          go_wp2_with fail
          refine HC.out.mono ?_
          rintro e w5 ⟨rfl, hI5, hx5⟩
          have HI5 : Hid (I ((allX (ar.take (i + 1))).foldl (fun s y => stp y s) s3) w5) := by
            rw [allX_take hlt, List.foldl_append]
            exact hI5
          have HX5 := Lib.hid (HXW.out.trans hx5)
          clear hI5 hx5 HC x0 hgw c2 hl2
          go_wp2_with fail
          go_roundg (ar.length - (i + 1))
          case measure => omega
          case rel => exact ⟨i + 1, by omega, rfl, by go_num, HI5, HX5⟩
        · have hlt' : ¬ (i : Int) < (ar.length : Int) := by omega
          have he : i = ar.length := by omega
          have HIF : Hid (I ((allX [⟨code, pos, n, md, nm, op, le, ri, ar⟩]).foldl (fun s y => stp y s) s) wr) := by
            have := HII.out
            rw [he, List.take_length] at this
            rw [allX_cons, allX_nil, List.append_nil, List.foldl_cons, ← HS1.out, List.foldl_append, List.foldl_append, ← HS3.out]
            exact this
          have HXF := Lib.hid (HXX.out.trans HXW.out)
          go_wp2_with fail
          go_end0
          exact ⟨rfl, HIF.out, HXF.out⟩
theorem wxn : ∀ (l : List X), Tp.WX l → ∀ i (h : i < l.length), Tp.WX [l[i]] := by
  intro l
  induction l with
  | nil => intro _ i h; simp at h
  | cons x l ih =>
    intro hw i h
    obtain ⟨code, pos, n, md, nm, op, le, ri, ar⟩ := x
    rw [Tp.WX] at hw
    cases i with
    | zero =>
      show Tp.WX [⟨code, pos, n, md, nm, op, le, ri, ar⟩]
      rw [Tp.WX]
      exact ⟨hw.1, by rw [Tp.WX]; trivial⟩
    | succ i => exact ih hw.2 i (by simpa using h)
theorem one_of {l : List X} (h : l.length = 1) (hw : Tp.WX l) : ∃ z, l = [z] ∧ Tp.WX [z] := by
  obtain ⟨z, rfl⟩ := Tp.len1 h
  exact ⟨z, rfl, hw⟩
theorem wx_parts {y : X} (h : Tp.WX [y]) : (y.left = [] ∨ ∃ z, y.left = [z] ∧ Tp.WX [z]) ∧ (y.right = [] ∨ ∃ z, y.right = [z] ∧ Tp.WX [z]) ∧ ∀ i (h : i < y.args.length), Tp.WX [y.args[i]] := by
  obtain ⟨code, pos, n, md, nm, op, le, ri, ar⟩ := y
  rw [Tp.WX] at h
  simp only
  rcases h.1 with ⟨rfl, h1, rfl, rfl, rfl, rfl, rfl, rfl⟩ | ⟨rfl, rfl, h2, rfl, rfl, rfl, rfl⟩ | ⟨rfl, rfl, h2, rfl, h3, h4, rfl, rfl⟩ | ⟨rfl, rfl, rfl, rfl, h2, h3, h4, rfl, rfl⟩ | ⟨rfl, rfl, rfl, rfl, h2, h3, h4, h5, h6, rfl⟩ | ⟨rfl, rfl, h2, rfl, rfl, rfl, h3⟩
  · exact ⟨Or.inl rfl, Or.inl rfl, fun i h => by simp at h⟩
  · exact ⟨Or.inl rfl, Or.inl rfl, fun i h => by simp at h⟩
  · exact ⟨Or.inr (one_of h4 h3), Or.inl rfl, fun i h => by simp at h⟩
  · exact ⟨Or.inr (one_of h4 h3), Or.inl rfl, fun i h => by simp at h⟩
  · exact ⟨Or.inr (one_of h4 h3), Or.inr (one_of h6 h5), fun i h => by simp at h⟩
  · exact ⟨Or.inl rfl, Or.inl rfl, fun i h => wxn ar h3 i h⟩
theorem szN {y z : X} {l : List X} {N : Nat} (h : SizeOf.sizeOf y ≤ N + 1) (hl : l = [z]) (hy : SizeOf.sizeOf l < SizeOf.sizeOf y) : SizeOf.sizeOf z ≤ N := by
  subst hl
  simp only [List.cons.sizeOf_spec] at hy
  omega
theorem ex_all {σ : Type} {I : σ → World → Prop} {stp : X → σ → σ} {cnt : σ → Nat} {b p1 p2 t1 t2 : Nat} (hV : Vis I stp cnt b 56 p1 p2) : ∀ N, ExC I stp cnt b 56 p1 p2 t1 t2 N := by
  intro N
  induction N with
  | zero => intro y hy; cases y; simp only [X.mk.sizeOf_spec] at hy; omega
  | succ N ih =>
    intro y hy hw W D x s hc hI hr hD hB
    obtain ⟨q1, q2, q3⟩ := wx_parts hw
    have hs : SizeOf.sizeOf y.left < SizeOf.sizeOf y ∧ SizeOf.sizeOf y.right < SizeOf.sizeOf y ∧ SizeOf.sizeOf y.args < SizeOf.sizeOf y := by
      cases y
      simp only [X.mk.sizeOf_spec]
      omega
    refine expr_step hV ih (q1.imp id fun ⟨z, e, q⟩ => ⟨z, e, szN hy e hs.1, q⟩) (q2.imp id fun ⟨z, e, q⟩ => ⟨z, e, szN hy e hs.2.1, q⟩) (fun i h => ⟨?_, q3 i h⟩) hw hc hI hr hD hB
    have : SizeOf.sizeOf y.args[i] < SizeOf.sizeOf y.args := List.sizeOf_lt_of_mem (List.getElem_mem h)
    omega
end Go.Proofs.YtfcdphgggdioeaaGreatDoor
/- The document's walk, as Used calls it: statements. -/
namespace Go.Proofs.YtfcdphgggdioeaaGreatDoor
open Go.RowKit Go.Sort
open Tp (X S)
/- all EXPRs of statements -/
def allSt : List S → List X
  | [] => []
  | ⟨_, _, _, ix, vl, th, el⟩ :: ss => allX ix ++ allX vl ++ allSt th ++ allSt el ++ allSt ss
theorem allSt_nil : allSt [] = [] := by rw [allSt]
theorem allSt_cons (s : S) (l : List S) : allSt (s :: l) = allX s.index ++ allX s.value ++ allSt s.thn ++ allSt s.els ++ allSt l := by
  obtain ⟨⟩ := s
  rw [allSt]
theorem allSt_app (l m : List S) : allSt (l ++ m) = allSt l ++ allSt m := by
  induction l with
  | nil => rw [allSt_nil]; rfl
  | cons x l ih => rw [List.cons_append, allSt_cons, allSt_cons, ih]; simp
theorem allSt_take {l : List S} {i : Nat} (h : i < l.length) : allSt (l.take (i + 1)) = allSt (l.take i) ++ (allX l[i].index ++ allX l[i].value ++ allSt l[i].thn ++ allSt l[i].els) := by
  rw [List.take_succ_eq_append_getElem h, allSt_app, allSt_cons, allSt_nil, List.append_nil]
theorem allSt_part {l : List S} {i : Nat} (h : i < l.length) : (allSt (l.take i)).length + (allX l[i].index).length + (allX l[i].value).length + (allSt l[i].thn).length + (allSt l[i].els).length ≤ (allSt l).length := by
  have e : l = l.take (i + 1) ++ l.drop (i + 1) := (List.take_append_drop _ _).symm
  have h2 : (allSt l).length = (allSt (l.take (i + 1))).length + (allSt (l.drop (i + 1))).length := by
    conv => lhs; rw [e, allSt_app, List.length_append]
  rw [h2, allSt_take h]
  simp only [List.length_append]
  omega
def WkC {σ : Type} (I : σ → World → Prop) (stp : X → σ → σ) (cnt : σ → Nat) (b p1 p2 : Nat) (W : World) (l : List S) (v : Value) : Prop := ∀ (W' : World) (s : σ), Ext b W W' → cnt s + (allSt l).length ≤ 100000 → I s W' → Calls Tryz.prog 57 #[v, .func (.func 56) #[] #[.pointer (some ⟨p1, 0, none⟩), .pointer (some ⟨p2, 0, none⟩)]] W' fun e w' => e = .returned (.tuple #[]) ∧ I ((allSt l).foldl (fun s y => stp y s) s) w' ∧ Ext b W' w'
set_option maxRecDepth 100000 in
set_option maxHeartbeats 4000000 in
theorem walk_go {σ : Type} {I : σ → World → Prop} {stp : X → σ → σ} {cnt : σ → Nat} {b p1 p2 : Nat} (hV : Vis I stp cnt b 56 p1 p2) {l : List S} {aa : Option Addr} {ac : Nat} (hn : l.length ≤ 9223372036854775807) {W : World} {D : Nat → Prop} {s : σ} (hc : cnt s + (allSt l).length ≤ 100000) (hI : I s W) (hD : ∀ i, D i → i ≠ b) (hb : b < W.heap.size)
    (hst : ∀ i (h : i < l.length), ∃ (g : Nat) (ls vs : List Value) (xa va ta ea : Option Addr) (tc ec : Nat), aa = some ⟨g, 0, none⟩ ∧ g < W.heap.size ∧ g ≠ b ∧ (∀ j, j < 7 → W.cell? ⟨g, i * 7 + j, none⟩ = [.int .i64 (l[i].code : Int), .int .i64 (l[i].pos : Int), .string (bs l[i].name), .pointer xa, .pointer va, .slice ta l[i].thn.length tc, .slice ea l[i].els.length ec][j]?) ∧ RepL W D l[i].index ls ∧ RepL W D l[i].value vs ∧ ls.headD (.pointer none) = .pointer xa ∧ vs.headD (.pointer none) = .pointer va ∧ (l[i].index = [] ∨ ∃ z, l[i].index = [z] ∧ Tp.WX [z]) ∧ (l[i].value = [] ∨ ∃ z, l[i].value = [z] ∧ Tp.WX [z]) ∧ WkC I stp cnt b p1 p2 W l[i].thn (.slice ta l[i].thn.length tc) ∧ WkC I stp cnt b p1 p2 W l[i].els (.slice ea l[i].els.length ec)) :
    Calls Tryz.prog 57 #[.slice aa l.length ac, .func (.func 56) #[] #[.pointer (some ⟨p1, 0, none⟩), .pointer (some ⟨p2, 0, none⟩)]] W fun e w' => e = .returned (.tuple #[]) ∧ I ((allSt l).foldl (fun s y => stp y s) s) w' ∧ Ext b W w' := by
  have hmf : ∀ (fn : Fn) (first cap : Array Value) (w : World), (Instr.makeFunc fn first cap).run Tryz.prog w = .ok (.func fn first cap) w := fun _ _ _ _ => rfl
  have hn' : (l.length : Int) ≤ 9223372036854775807 := by omega
  obtain ⟨W1, hW1⟩ : ∃ W1, W1 = (W.alloc (.cells #[.func (.func 56) #[] #[.pointer (some ⟨p1, 0, none⟩), .pointer (some ⟨p2, 0, none⟩)]] 109)).alloc (.cells #[(.func (.func 81) #[] #[.pointer (some ⟨W.heap.size, 0, none⟩), .pointer (some ⟨W.heap.size + 1, 0, none⟩)])] 109) := ⟨_, rfl⟩
  have hbW : Below W.heap.size W W1 := by rw [hW1]; exact ((Below.refl _ _).alloc (Nat.le_refl _) _).alloc (by simp) _
  obtain ⟨t1, ht1⟩ : ∃ t1, t1 = W.heap.size := ⟨_, rfl⟩
  obtain ⟨t2, ht2⟩ : ∃ t2, t2 = W.heap.size + 1 := ⟨_, rfl⟩
  have hBx : Bx W1 56 t1 t2 b p1 p2 := by
    rw [ht1, ht2, hW1]
    refine ⟨?_, ?_, by omega, by omega⟩
    · exact cell_alloc (cell_blk (new_blk W _)) _
    · simp
  have HV := Lib.hid hV
  have HBW := Lib.hid hbW
  have HBX := Lib.hid hBx
  have HI1 := Lib.hid (hV.on hI hbW)
  have HD := Lib.hid hD
  have HST := Lib.hid hst
  have HCS := Lib.hid hc
  have HCT : Hid (∀ (l : List X) (s : σ), cnt (l.foldl (fun s y => stp y s) s) = cnt s + l.length) := fold_cnt hV.ct
  have HW1 := Lib.hid hW1
  have hbl1 : b < W1.heap.size := Nat.lt_of_lt_of_le hb hbW.size
  clear hbW hBx hI hD hst hV hW1 hb hc
  go_enter Tryz.func57, Tryz.ntmps57
  go_upto_region 3 with fail
  rw [← HW1.out]
  rw [← ht1]
  rw [show t1 + 1 = t2 by omega]
  clear ht1 ht2 HW1
  go_wp2_with fail
  go_loopg [10] l.length (fun k vi wr => ∃ i : Nat, i ≤ l.length ∧ k = l.length - i ∧ vi = .int .i64 (i : Int) ∧ Hid (I ((allSt (l.take i)).foldl (fun s y => stp y s) s) wr) ∧ Hid (Ext b W1 wr))
  case atStart => exact ⟨0, by omega, by omega, rfl, by rw [List.take_zero, allSt_nil]; exact HI1, Ext.refl _ _⟩
  case round =>
    obtain ⟨i, hid, hk, rfl, HII, HXW⟩ := hrel
    by_cases hlt : i < l.length
    · have hlt' : (i : Int) < (l.length : Int) := by omega
      obtain ⟨g, ls, vs, xa, va, ta, ea, tc, ec, rfl, hgl, hgb, hcl, hrx, hrv, hxa, hva, hix, hvl, hT, hE⟩ := HST.out i hlt
      have hEW : Ext b W wr := (Ext.of_below HBW.out).trans HXW.out
      have hcell : ∀ j, j < 7 → wr.cell? ⟨g, i * 7 + j, none⟩ = [.int .i64 (l[i].code : Int), .int .i64 (l[i].pos : Int), .string (bs l[i].name), .pointer xa, .pointer va, .slice ta l[i].thn.length tc, .slice ea l[i].els.length ec][j]? := fun j hj => by
        rw [← hcl j hj]
        unfold World.cell?
        rw [hEW.block g hgl hgb]
      have x0 : wr.cell? ⟨g, i * 7, none⟩ = some (.int .i64 (l[i].code : Int)) := hcell 0 (by omega)
      have x1 : wr.cell? ⟨g, i * 7 + 1, none⟩ = some (.int .i64 (l[i].pos : Int)) := hcell 1 (by omega)
      have x2 : wr.cell? ⟨g, i * 7 + 2, none⟩ = some (.string (bs l[i].name)) := hcell 2 (by omega)
      have x3 : wr.cell? ⟨g, i * 7 + 3, none⟩ = some (.pointer xa) := hcell 3 (by omega)
      have x4 : wr.cell? ⟨g, i * 7 + 4, none⟩ = some (.pointer va) := hcell 4 (by omega)
      have x5 : wr.cell? ⟨g, i * 7 + 5, none⟩ = some (.slice ta l[i].thn.length tc) := hcell 5 (by omega)
      have x6 : wr.cell? ⟨g, i * 7 + 6, none⟩ = some (.slice ea l[i].els.length ec) := hcell 6 (by omega)
      have hgw := lt_of_cell x0
      obtain ⟨wq, hwq⟩ : ∃ wq, wq = wr.alloc (.cells #[.int .i64 (l[i].code : Int), .int .i64 (l[i].pos : Int), .string (bs l[i].name), .pointer xa, .pointer va, .slice ta l[i].thn.length tc, .slice ea l[i].els.length ec] 97) := ⟨_, rfl⟩
      obtain ⟨b2, hb2⟩ : ∃ b2, b2 = wr.heap.size := ⟨_, rfl⟩
      have hbq : Below wr.heap.size wr wq := by rw [hwq]; exact (Below.refl _ _).alloc (Nat.le_refl _) _
      have hkq : wq.heap[b2]? = some (.cells #[.int .i64 (l[i].code : Int), .int .i64 (l[i].pos : Int), .string (bs l[i].name), .pointer xa, .pointer va, .slice ta l[i].thn.length tc, .slice ea l[i].els.length ec] 97 (0, 0)) := by rw [hwq, hb2]; exact new_blk _ _
      have hb2b : b2 ≠ b := by have := HXW.out.size; omega
      have hEQ : Ext b W wq := hEW.trans (Ext.of_below hbq)
      have hxq : Ext b W1 wq := HXW.out.trans (Ext.of_below hbq)
      have hBq := HBX.out.ext hxq
      have hrxq := hrx.extD hEQ HD.out
      have hrvq := hrv.extD hEQ HD.out
      have hIq := HV.out.on HII.out hbq
      have hpt := allSt_part hlt
      have hct := HCT.out (allSt (l.take i)) s
      have HTK := Lib.hid (allSt_take hlt)
      obtain ⟨s0, hs0⟩ : ∃ s0, s0 = (allSt (l.take i)).foldl (fun s y => stp y s) s := ⟨_, rfl⟩
      rw [← hs0] at hct hIq
      have HS0 := Lib.hid hs0
      obtain ⟨N, hN⟩ : ∃ N, N = SizeOf.sizeOf l[i].index + SizeOf.sizeOf l[i].value := ⟨_, rfl⟩
      have HE := ex_all (t1 := t1) (t2 := t2) HV.out N
      have HIX : l[i].index = [] ∨ ∃ z, l[i].index = [z] ∧ SizeOf.sizeOf z ≤ N ∧ Tp.WX [z] := hix.imp id fun ⟨z, e, q⟩ => ⟨z, e, by rw [hN, e]; simp only [List.cons.sizeOf_spec]; omega, q⟩
      have HVL : Hid (l[i].value = [] ∨ ∃ z, l[i].value = [z] ∧ SizeOf.sizeOf z ≤ N ∧ Tp.WX [z]) := hvl.imp id fun ⟨z, e, q⟩ => ⟨z, e, by rw [hN, e]; simp only [List.cons.sizeOf_spec]; omega, q⟩
      have HCX : Hid (Calls Tryz.prog 81 #[.pointer xa, .pointer (some ⟨t1, 0, none⟩), .pointer (some ⟨t2, 0, none⟩)] wq fun e w' => e = .returned (.tuple #[]) ∧ I ((allX l[i].index).foldl (fun s y => stp y s) s0) w' ∧ Ext b wq w') := by
        have := ex_opt HE HIX (by have := HCS.out; omega) hIq hrxq HD.out hBq
        rw [hxa] at this
        exact this
      have HRV := Lib.hid hrvq
      have HVA := Lib.hid hva
      have HEX := Lib.hid HE
      have HBQ := Lib.hid hBq
      have HKQ := Lib.hid hkq
      have HEQ := Lib.hid hEQ
      have HXQ := Lib.hid hxq
      have HPT : Hid (cnt s0 + (allX l[i].index).length + (allX l[i].value).length + (allSt l[i].thn).length + (allSt l[i].els).length ≤ 100000) := by show _ ≤ _; have := HCS.out; omega
      have HT := Lib.hid hT
      have HEL := Lib.hid hE
      have y3 : wq.cell? ⟨b2, 3, none⟩ = some (.pointer xa) := cell_blk hkq
      have hlq := lt_blk hkq
      have c2 := hBq.c2
      have hlt2 := lt_of_cell c2
      clear hcl hrx hrv hxa hva hix hvl hT hE hEW hcell hbq hEQ hxq hBq hrxq hrvq hIq hpt hct hs0 hN HE HIX hkq HII hgb hgl
      go_upto_region 6 with fail
      rw [← hwq, ← hb2]
      clear hwq hb2 x0 x1 x2 x3 x4 x5 x6 hgw
      go_wp2_with fail
      refine HCX.out.mono ?_
      rintro e w3 ⟨rfl, hI3, hx3⟩
      have HCV : Hid (Calls Tryz.prog 81 #[.pointer va, .pointer (some ⟨t1, 0, none⟩), .pointer (some ⟨t2, 0, none⟩)] w3 fun e w' => e = .returned (.tuple #[]) ∧ I ((allX l[i].value).foldl (fun s y => stp y s) ((allX l[i].index).foldl (fun s y => stp y s) s0)) w' ∧ Ext b w3 w') := by
        have := ex_opt HEX.out HVL.out (by rw [HCT.out]; have := HPT.out; omega) hI3 (HRV.out.extD hx3 HD.out) HD.out (HBQ.out.ext hx3)
        rw [HVA.out] at this
        exact this
      have hk3 := (hx3.block b2 (lt_blk HKQ.out) hb2b).trans HKQ.out
      have HK3 := Lib.hid hk3
      have HX3 := Lib.hid hx3
      have HB3 := Lib.hid (HBQ.out.ext hx3)
      clear hI3 HCX y3 hlq c2 hlt2
      have y4 : w3.cell? ⟨b2, 4, none⟩ = some (.pointer va) := cell_blk hk3
      have hl3 := lt_blk hk3
      have c2 := HB3.out.c2
      have hlt2 := lt_of_cell c2
      clear hk3 hx3
      go_wp2_with fail
      refine HCV.out.mono ?_
      rintro e w4 ⟨rfl, hI4, hx4⟩
      have hk4 := (hx4.block b2 (lt_blk HK3.out) hb2b).trans HK3.out
      have HK4 := Lib.hid hk4
      have HX4 := Lib.hid (HX3.out.trans hx4)
      have HB4 := Lib.hid (HB3.out.ext hx4)
      have HCT4 := Lib.hid (HT.out w4 _ (HEQ.out.trans HX4.out) (by rw [HCT.out, HCT.out]; have := HPT.out; omega) hI4)
      clear hI4 HCV y4 hl3 c2 hlt2
      have y5 : w4.cell? ⟨b2, 5, none⟩ = some (.slice ta l[i].thn.length tc) := cell_blk hk4
      have hl4 := lt_blk hk4
      have c1 := HB4.out.c1
      have hlt1 := lt_of_cell c1
      clear hk4 hx4
      go_wp2_with fail
      refine HCT4.out.mono ?_
      rintro e w5 ⟨rfl, hI5, hx5⟩
      have hk5 := (hx5.block b2 (lt_blk HK4.out) hb2b).trans HK4.out
      have HX5 := Lib.hid (HX4.out.trans hx5)
      have HB5 := Lib.hid (HB4.out.ext hx5)
      have HCE5 := Lib.hid (HEL.out w5 _ (HEQ.out.trans HX5.out) (by rw [HCT.out, HCT.out, HCT.out]; have := HPT.out; omega) hI5)
      clear hI5 HCT4 y5 hl4 c1 hlt1
      have y6 : w5.cell? ⟨b2, 6, none⟩ = some (.slice ea l[i].els.length ec) := cell_blk hk5
      have hl5 := lt_blk hk5
      have c1 := HB5.out.c1
      have hlt1 := lt_of_cell c1
      clear hk5 hx5
      go_wp2_with fail
      refine HCE5.out.mono ?_
      rintro e w6 ⟨rfl, hI6, hx6⟩
      have HI6 : Hid (I ((allSt (l.take (i + 1))).foldl (fun s y => stp y s) s) w6) := by
        show I _ _
        rw [HTK.out, List.foldl_append, List.foldl_append, List.foldl_append, List.foldl_append, ← HS0.out]
        exact hI6
      have HX6 := Lib.hid ((HXQ.out.trans HX5.out).trans hx6)
      clear hI6 hx6 HCE5 y6 hl5 c1 hlt1
      go_wp2_with fail
      go_roundg (l.length - (i + 1))
      case measure => omega
      case rel => exact ⟨i + 1, by omega, rfl, by go_num, HI6, HX6⟩
    · have hlt' : ¬ (i : Int) < (l.length : Int) := by omega
      have he : i = l.length := by omega
      have HIF : Hid (I ((allSt l).foldl (fun s y => stp y s) s) wr) := by
        have := HII.out
        rw [he, List.take_length] at this
        exact this
      have HXF := Lib.hid ((Ext.of_below (b := b) HBW.out).trans HXW.out)
      clear he
      go_wp2_with fail
      go_end0
      exact ⟨rfl, HIF.out, HXF.out⟩
end Go.Proofs.YtfcdphgggdioeaaGreatDoor
/- The document's Used: its closure; the walk of all statements. -/
namespace Go.Proofs.YtfcdphgggdioeaaGreatDoor
open Go.RowKit Go.Sort
open Tp (X S Bs)
theorem ws_nT : ∀ (l : List S), Tp.WS l → ∀ i (h : i < l.length), Tp.WS [l[i]] := by
  intro l
  induction l with
  | nil => intro _ i h; simp at h
  | cons x l ih =>
    intro hw i h
    obtain ⟨code, pos, nm, ix, v, th, el⟩ := x
    rw [Tp.WS] at hw
    cases i with
    | zero =>
      show Tp.WS [⟨code, pos, nm, ix, v, th, el⟩]
      rw [Tp.WS]
      exact ⟨hw.1, by rw [Tp.WS]; trivial⟩
    | succ i => exact ih hw.2 i (by simpa using h)
theorem optWT {v : List X} (h : Tp.ev v) : ∃ z, v = [z] ∧ Tp.WX [z] := one_of h.2.1 h.1
theorem ws_partsT {s : S} (h : Tp.WS [s]) : (s.index = [] ∨ ∃ z, s.index = [z] ∧ Tp.WX [z]) ∧ (s.value = [] ∨ ∃ z, s.value = [z] ∧ Tp.WX [z]) ∧ Tp.WS s.thn ∧ Tp.WS s.els := by
  obtain ⟨code, pos, nm, ix, v, th, el⟩ := s
  rw [Tp.WS] at h
  simp only
  rcases h.1 with ⟨rfl, _, a2, a3, rfl, rfl⟩ | ⟨rfl, rfl, rfl, a3, a4, a5⟩ | ⟨rfl, rfl, rfl, a3, a4, rfl⟩ | ⟨hc, rfl, rfl, a3, rfl, rfl⟩ | ⟨rfl, rfl, rfl, a3, _, rfl, rfl⟩
  · exact ⟨a2.imp id fun q => one_of q.2.1 q.1, Or.inr (optWT a3), Tp.WS_nil, Tp.WS_nil⟩
  · exact ⟨Or.inl rfl, Or.inr (optWT a3), a4, a5⟩
  · exact ⟨Or.inl rfl, Or.inr (optWT a3), a4, Tp.WS_nil⟩
  · exact ⟨Or.inl rfl, Or.inr (optWT a3), Tp.WS_nil, Tp.WS_nil⟩
  · exact ⟨Or.inl rfl, Or.inr (optWT a3), Tp.WS_nil, Tp.WS_nil⟩
theorem walk_all {σ : Type} {I : σ → World → Prop} {stp : X → σ → σ} {cnt : σ → Nat} {b p1 p2 : Nat} (hV : Vis I stp cnt b 56 p1 p2) {D : Nat → Prop} (hD : ∀ i, D i → i ≠ b) :
    ∀ (N : Nat) (l : List S), SizeOf.sizeOf l ≤ N → Tp.WS l → ∀ (W : World) (v : Value) (cs : List Value) (s : σ), cnt s + (allSt l).length ≤ 100000 → I s W → b < W.heap.size → RepS W D l cs → OwnS W D v l.length cs →
    Calls Tryz.prog 57 #[v, .func (.func 56) #[] #[.pointer (some ⟨p1, 0, none⟩), .pointer (some ⟨p2, 0, none⟩)]] W fun e w' => e = .returned (.tuple #[]) ∧ I ((allSt l).foldl (fun s y => stp y s) s) w' ∧ Ext b W w' := by
  intro N
  induction N with
  | zero => intro l h; cases l <;> simp at h <;> omega
  | succ N ih =>
    intro l hl hw W v cs s hc hI hb hr ho
    obtain ⟨hlen, aa, ac, rfl⟩ := ho.long
    refine walk_go hV hlen hc hI hD hb fun i hi => ?_
    obtain ⟨tv, ev, ls, vs, tcs, ecs, q0, q1, _, q3, _, q5, q6, q7, q8⟩ := RepS.nth l cs hr i hi
    obtain ⟨g, g1, g2, g3⟩ := ho.at' i hi
    have hgD : g ≠ b := by
      rcases ho with ⟨_, q⟩ | ⟨g', cap, cur, e1, e2, _⟩
      · omega
      · cases e1
        cases g1
        exact hD _ e2
    obtain ⟨t0, ta, tc, rfl⟩ := q6.long
    obtain ⟨e0, ea, ec, rfl⟩ := q8.long
    obtain ⟨xa, e1⟩ := q1.headP
    obtain ⟨va, e2⟩ := q3.headP
    obtain ⟨z1, z2, z3, z4⟩ := ws_partsT (ws_nT l hw i hi)
    have hsz : SizeOf.sizeOf l[i] < SizeOf.sizeOf l := List.sizeOf_lt_of_mem (List.getElem_mem hi)
    obtain ⟨hs2, hs3⟩ := sizeS l[i]
    have hk : ∀ {W' : World}, Ext b W W' → ∀ i, D i → i < W.heap.size → W'.heap[i]? = W.heap[i]? ∧ D i := fun {W'} k i hi hl => ⟨k.block i hl (hD i hi), hi⟩
    refine ⟨g, ls, vs, xa, va, ta, ea, tc, ec, g1, g2, hgD, fun j hj => ?_, q1, q3, e1, e2, z1, z2, fun W' s' hx hc' hI' => ?_, fun W' s' hx hc' hI' => ?_⟩
    · rw [g3 j hj, q0 j hj, e1, e2]
    · exact ih l[i].thn (by omega) z3 W' _ tcs s' hc' hI' (Nat.lt_of_lt_of_le hb hx.size) (q5.mono' (hk hx)) (q6.mono (hk hx))
    · exact ih l[i].els (by omega) z4 W' _ ecs s' hc' hI' (Nat.lt_of_lt_of_le hb hx.size) (q7.mono' (hk hx)) (q8.mono (hk hx))
/- names that are used of another module, as they come -/
def usX (o : Bs) (s : List X) : List Bs := (s.filter fun y => decide (y.mod = o ∧ o ≠ [])).map (·.name)
def boolF (l : List Bs) : Bs → Option Value := fun k => if k ∈ l then some (.bool true) else none
theorem usX_yes {o : Bs} {s : List X} {y : X} (h : y.mod = o ∧ o ≠ []) : updV (boolF (usX o s)) y.name (.bool true) = boolF (usX o (s ++ [y])) := by
  funext k
  have e : usX o (s ++ [y]) = usX o s ++ [y.name] := by unfold usX; rw [List.filter_append, List.map_append, List.filter_cons_of_pos (by simpa using h)]; rfl
  unfold updV boolF
  rw [e]
  by_cases hk : k = y.name
  · rw [if_pos hk, if_pos (List.mem_append.2 (Or.inr (by simp [hk])))]
  · rw [if_neg hk]
    show (if k ∈ usX o s then some (Value.bool true) else none) = _
    by_cases hq : k ∈ usX o s
    · rw [if_pos hq, if_pos (List.mem_append.2 (Or.inl hq))]
    · rw [if_neg hq, if_neg]
      intro z
      rcases List.mem_append.1 z with z | z
      · exact hq z
      · exact hk (by simpa using z)
theorem usX_no {o : Bs} {s : List X} {y : X} (h : ¬ (y.mod = o ∧ o ≠ [])) : usX o (s ++ [y]) = usX o s := by
  unfold usX
  rw [List.filter_append, List.map_append, List.filter_cons_of_neg (by simpa using h)]
  simp
structure UsI (o : Bs) (b p1 p2 : Nat) (s : List X) (W : World) : Prop where
  c1 : W.cell? ⟨p1, 0, none⟩ = some (.string (bs o))
  c2 : W.cell? ⟨p2, 0, none⟩ = some (.map (some b))
  n1 : p1 ≠ b
  n2 : p2 ≠ b
  mp : ∃ n, n ≤ s.length ∧ MapV W b n (boolF (usX o s))
theorem UsI.on {o : Bs} {b p1 p2 : Nat} {s : List X} {W W' : World} (h : UsI o b p1 p2 s W) (k : Below W.heap.size W W') : UsI o b p1 p2 s W' := by
  obtain ⟨n, hn, hm⟩ := h.mp
  exact ⟨(k.cell (p := ⟨p1, 0, none⟩) (lt_of_cell h.c1)).trans h.c1, (k.cell (p := ⟨p2, 0, none⟩) (lt_of_cell h.c2)).trans h.c2, h.n1, h.n2, n, hn, hm.on (k.block _ hm.lt)⟩
theorem wx_nm {y : X} (h : Tp.WX [y]) : y.name.length ≤ 1000000 := by
  obtain ⟨code, pos, n, md, nm, op, le, ri, ar⟩ := y
  rw [Tp.WX] at h
  simp only
  rcases h.1 with ⟨rfl, h1, rfl, rfl, rfl, rfl, rfl, rfl⟩ | ⟨rfl, rfl, h2, rfl, rfl, rfl, rfl⟩ | ⟨rfl, rfl, h2, rfl, h3, h4, rfl, rfl⟩ | ⟨rfl, rfl, rfl, rfl, h2, h3, h4, rfl, rfl⟩ | ⟨rfl, rfl, rfl, rfl, h2, h3, h4, h5, h6, rfl⟩ | ⟨rfl, rfl, h2, rfl, rfl, rfl, h3⟩
  · simp
  · exact (Tp.okr_len h2).2
  · exact (Tp.okr_len h2).2
  · simp
  · simp
  · exact (Tp.okr_len h2).2
set_option maxRecDepth 100000 in
set_option maxHeartbeats 2000000 in
theorem used1_no {o : Bs} {p1 p2 x : Nat} {W : World} {md nm : Bs} {v0 v1 v2 v5 v6 v7 v8 : Value} (c1 : W.cell? ⟨p1, 0, none⟩ = some (.string (bs o))) (hx : W.heap[x]? = some (.cells #[v0, v1, v2, .string (bs md), .string (bs nm), v5, v6, v7, v8] 108 (0, 0))) (h : ¬ (md = o ∧ o ≠ [])) :
    Calls Tryz.prog 56 #[.pointer (some ⟨x, 0, none⟩), .pointer (some ⟨p1, 0, none⟩), .pointer (some ⟨p2, 0, none⟩)] W fun e w' => e = .returned (.tuple #[]) ∧ Below W.heap.size W w' := by
  have x3 : W.cell? ⟨x, 3, none⟩ = some (.string (bs md)) := cell_blk hx
  have hxl := lt_blk hx
  have hpl := lt_of_cell c1
  have HB : Hid (∀ n, Below W.heap.size W (W.drewN n)) := fun n => below_drewN (Below.refl _ _) n
  obtain ⟨d, hd⟩ : ∃ d, ((bs md).toList == (bs o).toList) = d := ⟨_, rfl⟩
  have hdm : d = true ↔ md = o := by rw [← hd, bs_toList, bs_toList, beq_iff_eq]
  clear hx
  cases d with
  | false =>
    clear hdm h
    go_enter Tryz.func56, Tryz.ntmps56
    go_upto_region 0 with fail
    go_quiet (fail)
    go_wp2_with fail
    go_end0
    exact ⟨rfl, HB.out _⟩
  | true =>
    have ho : o = [] := Classical.byContradiction fun q => h ⟨hdm.1 rfl, q⟩
    have hie : (bs o).toList.isEmpty = true := by rw [bs_toList, ho]; rfl
    clear hdm h ho
    go_enter Tryz.func56, Tryz.ntmps56
    go_upto_region 0 with fail
    go_quiet (fail)
    go_wp2_with fail
    go_end0
    exact ⟨rfl, HB.out _⟩
set_option maxRecDepth 100000 in
set_option maxHeartbeats 2000000 in
theorem used1_yes {o : Bs} {b p1 p2 x n : Nat} {W : World} {md nm : Bs} {f : Bs → Option Value} {v0 v1 v2 v5 v6 v7 v8 : Value} (c1 : W.cell? ⟨p1, 0, none⟩ = some (.string (bs o))) (c2 : W.cell? ⟨p2, 0, none⟩ = some (.map (some b))) (hx : W.heap[x]? = some (.cells #[v0, v1, v2, .string (bs md), .string (bs nm), v5, v6, v7, v8] 108 (0, 0))) (h : md = o ∧ o ≠ []) (hm : MapV W b n f) (hn : n < 1000000) (hnl : nm.length ≤ 1000000) :
    Calls Tryz.prog 56 #[.pointer (some ⟨x, 0, none⟩), .pointer (some ⟨p1, 0, none⟩), .pointer (some ⟨p2, 0, none⟩)] W fun e w' => e = .returned (.tuple #[]) ∧ MapV w' b (n + 1) (updV f nm (.bool true)) ∧ Ext b W w' := by
  have x3 : W.cell? ⟨x, 3, none⟩ = some (.string (bs md)) := cell_blk hx
  have hxl := lt_blk hx
  have hpl := lt_of_cell c1
  have hd : ((bs md).toList == (bs o).toList) = true := by rw [bs_toList, bs_toList, beq_iff_eq]; exact h.1
  have hie : (bs o).toList.isEmpty = false := by
    rw [bs_toList]
    cases o with
    | nil => exact absurd rfl h.2
    | cons a t => rfl
  have HN : Hid (∀ q, ∃ w2, (Instr.mapUpdate 66 (.map (some b)) (.string (bs nm)) (.bool true)).run Tryz.prog (W.drewN q).drew = .ok () w2 ∧ MapV w2 b (n + 1) (updV f nm (.bool true)) ∧ Ext b W w2) := fun q => by
    obtain ⟨w2, r1, r2, r3, _⟩ := (hm.on (w' := (W.drewN q).drew) rfl).store (t := 66) Tryz.underlying66 hn nm hnl (.bool true)
    exact ⟨w2, r1, r2, (Ext.of_below (b := b) (below_drewN (Below.refl _ _) q).drew).trans r3⟩
  have HC : Hid (∀ q, (W.drewN q).cell? ⟨p2, 0, none⟩ = some (.map (some b)) ∧ (W.drewN q).cell? ⟨x, 4, none⟩ = some (.string (bs nm)) ∧ p2 < (W.drewN q).heap.size ∧ x < (W.drewN q).heap.size) := fun q => ⟨c2, cell_blk hx, lt_of_cell c2, lt_blk hx⟩
  clear hx h hm c2
  go_enter Tryz.func56, Tryz.ntmps56
  go_upto_region 0 with fail
  go_quiet (fail)
  obtain ⟨k2, k4, l2, l4⟩ := HC.out nq
  obtain ⟨w2, hmu, r2, r3⟩ := HN.out nq
  clear x3 c1 hpl hxl HN HC
  generalize W.drewN nq = Wq at *
  have HR2 := Lib.hid r2
  have HR3 := Lib.hid r3
  clear r2 r3
  go_upto_region 1 with fail
  go_region
  go_wp2_with fail
  go_end0
  exact ⟨rfl, HR2.out, HR3.out⟩
theorem vis_used (o : Bs) (b p1 p2 : Nat) : Vis (UsI o b p1 p2) (fun y s => s ++ [y]) List.length b 56 p1 p2 where
  ct := fun y s => by simp
  on := fun hI hb => hI.on hb
  does := fun {s W D x y} hl hI hr hw => by
    have hnl := wx_nm hw
    obtain ⟨code, pos, n, md, nm, op, le, ri, ar⟩ := y
    obtain ⟨av, ls, rs, gs, hb, _, _, har, hav⟩ := hr.unit
    obtain ⟨k, hk, hm⟩ := hI.mp
    by_cases h : md = o ∧ o ≠ []
    · refine (used1_yes hI.c1 hI.c2 hb h hm (by omega) hnl).mono ?_
      rintro e w' ⟨rfl, q1, q2⟩
      refine ⟨rfl, ⟨cell_ext hI.c1 q2 hI.n1, cell_ext hI.c2 q2 hI.n2, hI.n1, hI.n2, k + 1, by simp; omega, ?_⟩, q2⟩
      rw [← usX_yes (y := ⟨code, pos, n, md, nm, op, le, ri, ar⟩) h]
      exact q1
    · refine (used1_no hI.c1 hb h).mono ?_
      rintro e w' ⟨rfl, q1⟩
      have hI' := hI.on q1
      refine ⟨rfl, ⟨hI'.c1, hI'.c2, hI.n1, hI.n2, ?_⟩, Ext.of_below q1⟩
      obtain ⟨k', hk', hm'⟩ := hI'.mp
      refine ⟨k', by simp; omega, ?_⟩
      rw [usX_no (y := ⟨code, pos, n, md, nm, op, le, ri, ar⟩) h]
      exact hm'
theorem fold_app (l s : List X) : l.foldl (fun s y => s ++ [y]) s = s ++ l := by
  induction l generalizing s with
  | nil => simp
  | cons y l ih => rw [List.foldl_cons, ih]; simp
end Go.Proofs.YtfcdphgggdioeaaGreatDoor
