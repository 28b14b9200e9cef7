import Derived.Test.YtkpapioaijmidaaGreatDoorKEs
import Derived.Test.YtkpapioaijmidaaGreatDoorKWa
import Derived.Test.YtkpapioaijmidaaGreatDoorKGb
import Derived.Lib.Hide
/- The document's reader: what it holds, as one; ok, fails, take, must, name by it; names. -/
namespace Go.Proofs.YtkpapioaijmidaaGreatDoor
open Go.RowKit
open Tp (Tok hd tx at' stp)
open Nr (Fl fine Sx tk tkS fl mu nm nu nms)
abbrev RX (w : World) (q : Rp) (ts : List Tok) (s : Sx) : Prop := RS w q ts s.1 s.2
theorem rok_s {w : World} {q : Rp} {ts : List Tok} {s : Sx} (h : RX w q ts s) :
    Calls Tryz.prog 11 #[.pointer (some ⟨q.rb, 0, none⟩)] w fun e w' => e = .returned (.bool (decide (s.2 = fine))) ∧ Below w.heap.size w w' := rok_any h
theorem rfails_s {w : World} {q : Rp} {ts : List Tok} {s : Sx} (h : RX w q ts s) (en : Nat) :
    Calls Tryz.prog 15 #[.pointer (some ⟨q.rb, 0, none⟩), .int .i64 (en : Int)] w fun e w' => e = .returned (.tuple #[]) ∧ RX w' q ts (fl en s) ∧ Ext q.rb w w' := rfails_any h en
theorem rsee_s {w : World} {q : Rp} {ts : List Tok} {s : Sx} (h : RX w q ts s) (m : List UInt8) (hm : m ≠ []) (x : ByteArray) (hx : Hid (x = bs m)) :
    Calls Tryz.prog 17 #[.pointer (some ⟨q.rb, 0, none⟩), .string x] w fun e w' => e = .returned (.bool (tk m s)) ∧ Below w.heap.size w w' := rsee_any h m hm x hx
theorem rtake_s {w : World} {q : Rp} {ts : List Tok} {s : Sx} (h : RX w q ts s) (m : List UInt8) (hm : m ≠ []) (x : ByteArray) (hx : Hid (x = bs m)) :
    Calls Tryz.prog 13 #[.pointer (some ⟨q.rb, 0, none⟩), .string x] w fun e w' => e = .returned (.bool (tk m s)) ∧ RX w' q ts (tkS m s) ∧ Ext q.rb w w' := rtake_any h m hm x hx
theorem rmust_s {w : World} {q : Rp} {ts : List Tok} {s : Sx} (h : RX w q ts s) (m : List UInt8) (hm : m ≠ []) (x : ByteArray) (hx : Hid (x = bs m)) :
    Calls Tryz.prog 10 #[.pointer (some ⟨q.rb, 0, none⟩), .string x] w fun e w' => e = .returned (.tuple #[]) ∧ RX w' q ts (mu m s) ∧ Ext q.rb w w' := rmust_any h m hm x hx
theorem rok_f {w : World} {q : Rp} {ts r : List Tok} (h : RS w q ts r fine) :
    Calls Tryz.prog 11 #[.pointer (some ⟨q.rb, 0, none⟩)] w fun e w' => e = .returned (.bool true) ∧ Below w.heap.size w w' := by
  have := rok_any h
  rw [decide_eq_true (rfl : (fine : Fl) = fine)] at this
  exact this
theorem rok_b {w : World} {q : Rp} {ts r : List Tok} {bad : Fl} (h : RS w q ts r bad) (hb : bad ≠ fine) :
    Calls Tryz.prog 11 #[.pointer (some ⟨q.rb, 0, none⟩)] w fun e w' => e = .returned (.bool false) ∧ Below w.heap.size w w' := by
  have := rok_any h
  rw [decide_eq_false hb] at this
  exact this
theorem nmR_eq (s : Sx) : nmR s.1 s.2 = ((nm s).1, (nm s).2.1, (nm s).2.2) := by
  unfold nmR nm
  by_cases h : s.2 = fine
  · rw [if_pos h, if_pos h]
    cases Tp.name s.1 with
    | error e => rfl
    | ok y => rfl
  · rw [if_neg h, if_neg h]
theorem rname_s {w : World} {q : Rp} {ts : List Tok} {s : Sx} (h : RX w q ts s) :
    Calls Tryz.prog 12 #[.pointer (some ⟨q.rb, 0, none⟩)] w fun e w' => e = .returned (.string (bs (nm s).1)) ∧ RX w' q ts (nm s).2 ∧ Ext q.rb w w' := by
  have := rname_any h
  rw [nmR_eq] at this
  exact this
set_option maxRecDepth 100000 in
set_option maxHeartbeats 1000000 in
theorem rnames_s {w : World} {q : Rp} {ts : List Tok} {s : Sx} (h : RX w q ts s) (hf : s.2 = fine) (most g : Nat) (hm : most ≤ 10) (y : List (List UInt8) × Sx) (hg : nms g most [] s = some y) :
    Calls Tryz.prog 14 #[.pointer (some ⟨q.rb, 0, none⟩), .int .i64 (most : Int)] w fun e w' => ∃ v, e = .returned v ∧ w'.ownsRow w.heap.size 9 1 v y.1.length (strs y.1) ∧ RX w' q ts y.2 ∧ Ext q.rb w w' := by
  obtain ⟨i0, hi, hz0, hz1, hz2⟩ := info_parts Tryz.infoString
  have hpl := lt_of_cell h.c0
  have hd0 := decide_eq_true hf
  have HY := Lib.hid hg
  clear hf hg
  go_enter Tryz.func14, Tryz.ntmps14
  go_wp2_with fail
  refine (rok_s h).mono ?_
  rintro e w1 ⟨rfl, hb1⟩
  rw [hd0]
  have h1 := h.below hb1
  have HX1 : Hid (Ext q.rb w w1) := Ext.below hb1
  have hsz1 := hb1.size
  clear h hb1
  go_wp2_with fail
  go_loopg [5, 6] g (fun k vl vm wr => ∃ (l : List (List UInt8)) (s' : Sx) (b : Bool), vm = .bool b ∧ l.length ≤ most ∧ Hid (wr.ownsRow w.heap.size 9 1 vl l.length (strs l)) ∧ RX wr q ts s' ∧ Hid (Ext q.rb w wr) ∧ Hid (if b = true then nms k most l s' = some y else y = (l, s')))
  case atStart => exact ⟨[], s, true, rfl, by simp, World.ownsRow_nil _ _ _ _, h1, HX1, HY.out⟩
  case round =>
    obtain ⟨l, s', b, rfl, hll, HO, hst, HX, HS⟩ := hrel
    obtain ⟨ao, cap, rfl⟩ := owns_shape HO.out
    cases b with
    | false =>
      have HS' : Hid (y = (l, s')) := HS.out
      clear HS
      go_wp2_with fail
      refine bodyPost_ret (v := .slice ao l.length cap) (by simp [results, Tryz.results14, go_sem]) rfl ⟨_, rfl, ?_, ?_, HX.out⟩
      · rw [HS'.out]; exact HO.out
      · rw [HS'.out]; exact hst
    | true =>
      obtain ⟨k, rfl⟩ : ∃ k, gk = k + 1 := by
        cases gk with
        | zero => have := HS.out; simp [nms] at this
        | succ k => exact ⟨k, rfl⟩
      have HS1 : Hid (nms (k + 1) most l s' = some y) := HS.out
      clear HS
      by_cases hfull : most ≤ l.length
      · have HS2 : Hid (y = (l, fl 4 s')) := by
          have := HS1.out
          rw [nms, if_pos hfull] at this
          exact (Option.some.inj this).symm
        go_wp2_with fail
        refine (rfails_s hst 4).mono ?_
        rintro e w2 ⟨rfl, hst2, hx2⟩
        have hown2 := owns_ext HO.out hx2 hpl
        go_wp2_with fail
        refine bodyPost_ret (v := .slice ao l.length cap) (by simp [results, Tryz.results14, go_sem]) rfl ⟨_, rfl, ?_, ?_, HX.out.trans hx2⟩
        · rw [HS2.out]; exact hown2
        · rw [HS2.out]; exact hst2
      · have HS2 : Hid (if tk Tp.mComma (nm s').2 = true then nms k most (l ++ [(nm s').1]) (tkS Tp.mComma (nm s').2) = some y else y = (l ++ [(nm s').1], (nm s').2)) := by
          have := HS1.out
          rw [nms, if_neg hfull] at this
          show if _ then _ else _
          split
          · rename_i hc; rw [if_pos hc] at this; exact this
          · rename_i hc; rw [if_neg hc] at this; exact (Option.some.inj this).symm
        clear HS1
        go_wp2_with fail
        refine (rname_s hst).mono ?_
        rintro e w2 ⟨rfl, hst2, hx2⟩
        have hown2 := owns_ext HO.out hx2 hpl
        have hx2' := HX.out.trans hx2
        have hsz2 := hx2'.size
        clear HO hst HX hx2
        generalize (nm s').1 = x at *
        generalize (nm s').2 = s2 at *
        go_wp2_with (at_builtin; refine wpList_append_own _ rfl _ _ 25 rfl w.heap.size 9 i0 (.string ⟨#[]⟩) 1 16 Tryz.underlying25 hi hz0 hz1 hz2 rfl (by decide) _ _ _ rfl (hown2.alloc _) ⟨w2.heap.size, 0, none⟩ 1 1 [.string (bs x)] rfl rfl ?c1 ?c2 ?c3 ?c4 ?c5 ?_)
        case c1 =>
          intro j u hj
          match j, hj with
          | 0, hj => simp at hj; subst hj; simp [Addr.add]
        case c2 => intro u hu; simp at hu; subst hu; rfl
        case c3 => unfold maxLen; omega
        case c4 => omega
        case c5 => simp; omega
        · intro v' w3 hown3 hgrow _
          have hb3 : Below w.heap.size w2 w3 := ((Below.refl _ _).alloc hsz2 _).trans ((Below.refl _ _).grown hgrow (by simp; omega) (owns_row hown2))
          have hst3 : RX w3 q ts s2 := hst2.belowB hb3 hpl
          have hx3 : Ext q.rb w w3 := hx2'.trans' hb3
          clear hgrow hown2 hst2 hx2'
          go_wp2_with fail
          refine (rtake_s hst3 Tp.mComma (by decide) _ rfl).mono ?_
          rintro e w4 ⟨rfl, hst4, hx4⟩
          have hown4 := owns_ext hown3 hx4 hpl
          have HX4 : Hid (Ext q.rb w w4) := hx3.trans hx4
          have HO4 : Hid (w4.ownsRow w.heap.size 9 1 v' (l ++ [x]).length (strs (l ++ [x]))) := by unfold Hid; simpa [strs] using hown4
          clear hown3 hown4 hx3 hx4 hst3 hb3
          have HS3 : Hid (if tk Tp.mComma s2 = true then nms k most (l ++ [x]) (tkS Tp.mComma s2) = some y else y = (l ++ [x], tkS Tp.mComma s2)) := by
            have := HS2.out
            show if _ then _ else _
            split
            · rename_i hc; rw [if_pos hc] at this; exact this
            · rename_i hc
              rw [if_neg hc] at this
              rw [this]
              have e : ¬ (s2.2 = fine ∧ tx s2.1 = Tp.mComma) := fun h => hc (decide_eq_true h)
              unfold tkS
              rw [if_neg e]
          clear HS2
          generalize tk Tp.mComma s2 = bb at *
          go_wp2_with fail
          go_roundg k
          case measure => omega
          case rel => exact ⟨l ++ [x], _, bb, rfl, by simp; omega, HO4, hst4, HX4, HS3⟩
end Go.Proofs.YtkpapioaijmidaaGreatDoor
