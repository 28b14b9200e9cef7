import Derived.Test.YtfcdphgggdioeaaGreatDoorKMa
import Derived.Lib.ConvBytes
/- What is needed: Needs. -/
namespace Go.Proofs.YtfcdphgggdioeaaGreatDoor
open Go.RowKit Go.Sort
open Tp (Sy)

theorem conv_buf {kk : Nat → Prop} {w : World} {B : Nat} {v : Value} {l : List UInt8} (h : Buf kk w B v l) : (convert 146 9 v).run Tryz.prog w = .ok (.string (bs l)) w := by
  rcases h.own.2 with ⟨rfl, h2⟩ | ⟨g, cap, cur, rfl, h2, h3, h4, h5, h6, h7⟩
  · have e : l = [] := List.eq_nil_of_length_eq_zero h2
    subst e
    rw [run_convert_bytes_string w 146 9 5 none 0 0 Tryz.underlying146 Tryz.underlying5 Tryz.underlying9]
    rfl
  · refine run_convert_bytes_back w 146 9 5 ⟨g, 0, none⟩ cap l Tryz.underlying146 Tryz.underlying5 Tryz.underlying9 (fun j hj => ?_)
    have := h.own.cells (g := g) rfl j (.int .u8 (l[j].toNat : Int)) (by rw [u8s, List.getElem?_map, List.getElem?_eq_getElem hj]; rfl)
    simpa using this
theorem lineOf_len (s : Sy) (h : s.2.1 < 100 ∧ s.2.2 < 100 ∧ -1 ≤ s.2.2 ∧ s.1.length ≤ 100) : (Tp.lineOf s).length ≤ 200 := by
  have hd : ∀ n, n < 100 → (Tp.dec n).length ≤ 2 := by
    intro n hn
    rw [Tp.dec]
    split
    · simp
    · rw [Tp.dec_d (show n / 10 < 10 by omega)]; simp
  unfold Tp.lineOf
  split
  · have := hd s.2.2.toNat (by omega)
    simp [Tp.wordsL, Tp.wProc]; omega
  · split
    · have := hd s.2.1 h.1
      simp [Tp.wordsL, Tp.wArr]; omega
    · simp [Tp.wordsL, Tp.wInt]; omega
theorem need_at (l : List Sy) (n : List UInt8) : (∃ (k : Nat) (hk : k < l.length), fidx l n = (k : Int) ∧ Tp.needS l n = Tp.lineOf l[k]) ∨ fidx l n = -1 ∧ Tp.needS l n = Tp.wordsL [110, 111, 110, 101] [n] := by
  unfold fidx Tp.needS Tp.findS
  cases h : l.findIdx? (fun s => s.1 == n) with
  | some k =>
    left
    have h' := h
    rw [List.findIdx?_eq_some_iff_getElem] at h'
    obtain ⟨hk, h1, h2⟩ := h'
    refine ⟨k, hk, rfl, ?_⟩
    have : l.find? (fun s => s.1 == n) = some l[k] := by
      rw [List.find?_eq_some_iff_getElem]
      exact ⟨by simpa using h1, k, hk, rfl, fun j hj => by simpa using h2 j hj⟩
    rw [this]
  | none =>
    right
    have : l.find? (fun s => s.1 == n) = none := by
      rw [List.find?_eq_none]
      rw [List.findIdx?_eq_none_iff] at h
      intro x hx
      simpa using h x hx
    rw [this]
    exact ⟨rfl, rfl⟩
theorem need_len (l : List Sy) (n : List UInt8) (h : AllSmall l) (hn : n.length ≤ 100) : (Tp.needS l n).length ≤ 200 := by
  rcases need_at l n with ⟨k, hk, _, e⟩ | ⟨_, e⟩
  · rw [e]; exact lineOf_len _ (h _ (List.getElem_mem hk))
  · rw [e]; simp [Tp.wordsL]; omega
theorem needs_len (l : List Sy) (ns : List (List UInt8)) (h : AllSmall l) (hn : ∀ n ∈ ns, n.length ≤ 100) : (Tp.needsS l ns).length ≤ 200 * ns.length := by
  induction ns with
  | nil => simp [Tp.needsS]
  | cons n ns ih =>
    have h1 := need_len l n h (hn n (by simp))
    have h2 := ih (fun x hx => hn x (by simp [hx]))
    simp only [Tp.needsS, List.map_cons, List.flatten_cons, List.length_append, List.length_cons] at h2 ⊢
    omega
set_option maxRecDepth 100000 in
set_option maxHeartbeats 2000000 in
theorem needs_post {w : World} {B : Nat} {v : Value} {l : List Sy} (h : SL w B v l) (hs : AllSmall l) (hn : l.length ≤ 1000) {ns : List (List UInt8)} {na : Option Addr} {nc : Nat} (hns : StrsAt w ns na) (hnl : ∀ n ∈ ns, n.length ≤ 100) (hnn : ns.length ≤ 9000) :
    Calls Tryz.prog 50 #[v, .slice na ns.length nc] w fun e w' => e = .returned (.string (bs (Tp.needsS l ns))) ∧ Below w.heap.size w w' := by
  obtain ⟨a, c, rfl⟩ := h.len
  have hnn' : (ns.length : Int) ≤ 9000 := by omega
  have hln' : (l.length : Int) ≤ 1000 := by omega
  have HSL := Lib.hid h
  have HS := Lib.hid hs
  have HNS := Lib.hid hns
  have HNL := Lib.hid hnl
  have HF : Hid (∀ W, Below w.heap.size w W → ∀ n, Calls Tryz.prog 77 #[.slice a l.length c, .string (bs n)] W fun e w' => e = .returned (.int .i64 (fidx l n)) ∧ Below W.heap.size W w') := fun W hW n => find_post (h.on hW) hn n
  obtain ⟨nn, hnq⟩ : ∃ nn, nn = ns.length := ⟨_, rfl⟩
  rw [← hnq] at hnn' ⊢
  have HNQ := Lib.hid hnq
  obtain ⟨ln, hlq⟩ : ∃ ln, ln = l.length := ⟨_, rfl⟩
  rw [← hlq] at hln' HF ⊢
  have HLQ := Lib.hid hlq
  clear h hs hns hnl hnq hlq
  go_enter Tryz.func50, Tryz.ntmps50
  go_wp2_with fail
  go_loopg [5, 11] nn (fun k v vi wr => ∃ i : Nat, i ≤ nn ∧ k = nn - i ∧ vi = .int .i64 (i : Int) ∧ Hid (Buf (fun _ => False) wr w.heap.size v (Tp.needsS l (ns.take i))) ∧ Hid (Bw (fun _ => False) w.heap.size w wr))
  case atStart => exact ⟨0, by omega, by omega, rfl, Buf.nil _ _ (Nat.le_refl _) (fun k hk => hk.elim), Bw.refl _ _⟩
  case round =>
    obtain ⟨i, hid, hk, rfl, HB, HW⟩ := hrel
    by_cases hlt : i < nn
    · have hlt' : (i : Int) < (nn : Int) := by omega
      have hia : i < ns.length := by have := HNQ.out; omega
      obtain ⟨b, o, rfl, hbl, hcell⟩ := HNS.out.c i hia
      have kc : wr.cell? ⟨b, o + i, none⟩ = some (.string (bs ns[i])) := (HW.out.cell (p := ⟨b, o + i, none⟩) hbl).trans hcell
      have hlgr : b < wr.heap.size := by have := HW.out.size; omega
      have e1 : Tp.needsS l (ns.take (i + 1)) = Tp.needsS l (ns.take i) ++ Tp.needS l ns[i] := by
        unfold Tp.needsS
        rw [List.take_succ_eq_append_getElem hia, List.map_append, List.flatten_append]; simp
      have hpl := needs_len l (ns.take (i + 1)) HS.out (fun x hx => HNL.out x (List.mem_of_mem_take hx))
      have hlen : (Tp.needsS l (ns.take i) ++ Tp.needS l ns[i]).length ≤ 1000000000 := by rw [← e1]; simp only [List.length_take] at hpl; omega
      obtain ⟨m, hm⟩ : ∃ m, m = Tp.needsS l (ns.take i) := ⟨_, rfl⟩
      obtain ⟨m2, hm2⟩ : ∃ m2, m2 = Tp.needsS l (ns.take (i + 1)) := ⟨_, rfl⟩
      have hbuf := HB.out
      rw [← hm] at hbuf hlen e1
      rw [← hm2] at e1
      obtain ⟨a1, c1, hv⟩ := owns_shape hbuf.1
      subst hv
      have HFI := Lib.hid (HF.out wr HW.out.toBelow ns[i])
      have HBF := Lib.hid hbuf
      have HM2 := Lib.hid hm2
      have HE1 := Lib.hid e1
      have HLN := Lib.hid hlen
      clear hbuf HB hcell hpl hm hm2 e1 hlen
      generalize ns[i] = nm at *
      go_wp2_with fail
      refine HFI.out.mono ?_
      rintro e w3 ⟨rfl, h3⟩
      have HB3 := Lib.hid (HBF.out.below h3)
      have HW3 := Lib.hid (HW.out.trans (Bw.of h3 HBF.out.2))
      clear h3 kc
      rcases need_at l nm with ⟨k, hkl, hfi, hne⟩ | ⟨hfi, hne⟩
      · obtain ⟨g, hag, _, hgl, hc3⟩ := HSL.out.cell k hkl
        subst hag
        have hc := fun j (hj : j < 3) => (HW3.out.cell (p := ⟨g, k * 3 + j, none⟩) hgl).trans (hc3 j hj)
        have kc0 : w3.cell? ⟨g, k * 3, none⟩ = some (.string (bs l[k].1)) := hc 0 (by omega)
        have kc1 : w3.cell? ⟨g, k * 3 + 1, none⟩ = some (.int .i64 (l[k].2.1 : Int)) := hc 1 (by omega)
        have kc2 : w3.cell? ⟨g, k * 3 + 2, none⟩ = some (.int .i64 l[k].2.2) := hc 2 (by omega)
        have hlg3 : g < w3.heap.size := by have := HW3.out.size; omega
        have hsm := HS.out l[k] (List.getElem_mem hkl)
        have hkl' : (k : Int) < (ln : Int) := by have := HLQ.out; omega
        have hcall := addSym_post l[k] hsm.1 hsm.2.1 hsm.2.2.1 HB3.out (by rw [← hne]; exact HLN.out)
        rw [← hne, ← HE1.out] at hcall
        have HC : Hid (Calls Tryz.prog 78 #[.slice a1 m.length c1, .agg #[.string (bs l[k].1), .int .i64 (l[k].2.1 : Int), .int .i64 l[k].2.2]] w3 (Wrote (fun _ => False) w.heap.size w3 m2)) := hcall
        clear hcall hne hc hc3 hsm
        generalize l[k].1 = x0 at *
        generalize l[k].2.1 = x1 at *
        generalize l[k].2.2 = x2 at *
        rw [hfi]
        go_wp2_with fail
        refine HC.out.mono ?_
        rintro e w4 ⟨v4, rfl, hb4, hw4⟩
        have HB4 : Hid (Buf (fun _ => False) w4 w.heap.size v4 (Tp.needsS l (ns.take (i + 1)))) := by rw [← HM2.out]; exact hb4
        have HW4 := Lib.hid (HW3.out.trans hw4)
        clear hb4 hw4
        go_wp2_with fail
        go_roundg (nn - (i + 1))
        case measure => omega
        case rel => exact ⟨i + 1, by omega, rfl, by go_num, HB4, HW4⟩
      · have hcall := addLine_post (HB3.out.below ((Below.refl _ _).alloc (Nat.le_refl _) (.cells #[.string (bs nm)] 9))) [110, 111, 110, 101] [nm] w3.heap.size 1 (new_blk _ _) (by simp) (by rw [← hne]; exact HLN.out)
        rw [← hne, ← HE1.out] at hcall
        have HC : Hid (Calls Tryz.prog 79 #[.slice a1 m.length c1, .string ⟨#[110, 111, 110, 101]⟩, .slice (some ⟨w3.heap.size, 0, none⟩) 1 1] (w3.alloc (.cells #[.string (bs nm)] 9)) (Wrote (fun _ => False) w.heap.size (w3.alloc (.cells #[.string (bs nm)] 9)) m2)) := hcall
        have HWA := Lib.hid (HW3.out.trans (Bw.of ((Below.refl _ _).alloc (Nat.le_refl _) (.cells #[.string (bs nm)] 9)) HB3.out.2))
        clear hcall hne
        rw [hfi]
        go_wp2_with fail
        refine HC.out.mono ?_
        rintro e w4 ⟨v4, rfl, hb4, hw4⟩
        have HB4 : Hid (Buf (fun _ => False) w4 w.heap.size v4 (Tp.needsS l (ns.take (i + 1)))) := by rw [← HM2.out]; exact hb4
        have HW4 := Lib.hid (HWA.out.trans hw4)
        clear hb4 hw4
        go_wp2_with fail
        go_roundg (nn - (i + 1))
        case measure => omega
        case rel => exact ⟨i + 1, by omega, rfl, by go_num, HB4, HW4⟩
    · have hlt' : ¬ (i : Int) < (nn : Int) := by omega
      have e : i = ns.length := by have := HNQ.out; omega
      have hbuf := HB.out
      rw [e, List.take_length] at hbuf
      have hcv := conv_buf hbuf
      obtain ⟨a1, c1, hv⟩ := owns_shape hbuf.1
      subst hv
      have HBB := Lib.hid HW.out.toBelow
      clear hbuf HB HW
      go_wp2_with fail
      go_ret
      exact ⟨rfl, HBB.out⟩
end Go.Proofs.YtfcdphgggdioeaaGreatDoor
