/- Writing: procedures and code; Write. -/
import Derived.Test.YtljnddcddclmeaaJ16
namespace Go.Proofs.Ytljnddcddclmeaa
open Go.RowKit
open Ob (Bs)

theorem numberAt {f : FuncId} {p : Value} {w w' : World} {n k : Nat} {Q : Ending → World → Prop} (hs : w.heap.size = n) (h : Calls Try.prog f #[p, .slice (some ⟨w.heap.size, 0, none⟩) k k] w' Q) : Calls Try.prog f #[p, .slice (some ⟨n, 0, none⟩) k k] w' Q := by rw [← hs]; exact h
theorem size_alloc (w : World) (ob : Obj) : (w.alloc ob).heap.size = w.heap.size + 1 := by simp
theorem enW_len {x : Ob.En} (h : Ob.I64 x.at' ∧ Ob.I64 x.args ∧ Ob.I64 x.locals) : (Ob.enW x).length ≤ 30 := by
  have h1 := num_len h.1
  have h2 := num_len h.2.1
  have h3 := num_len h.2.2
  unfold Ob.enW; simp only [List.length_append]; omega
theorem inW_len {x : Ob.In} (h : Ob.I64 x.op ∧ Ob.I64 x.a ∧ Ob.I64 x.b) : (Ob.inW x).length ≤ 30 := by
  have h1 := num_len h.1
  have h2 := num_len h.2.1
  have h3 := num_len h.2.2
  unfold Ob.inW; simp only [List.length_append]; omega
set_option maxRecDepth 100000 in
set_option maxHeartbeats 4000000 in
theorem code_w {w0 w : World} {wb b o : Nat} {v : Value} {O : Ob.O} {l : Bs} (h : Wst w wb v l) (hO : OA w0 b o O) (hR : RB O) (hb0 : Below w0.heap.size w0 w) (hw0 : w0.heap.size ≤ wb) (hl : l.length ≤ 100000) :
    Calls Try.prog 25 #[.pointer (some ⟨wb, 0, none⟩), .pointer (some ⟨b, o, none⟩)] w (Wrote wb w v (l ++ Ob.codeW O)) := by
  obtain ⟨sa, ua, va, pa, na, ca, sc, uc, vc, pc, nc, cc, hV⟩ := hO
  have HV := Lib.hid hV
  have HR := Lib.hid hR
  have HB0 := Lib.hid hb0
  have HH := Lib.hid h
  have hbl := lt_of_cell hV.c0
  have hb1 : b < w.heap.size := Nat.lt_of_lt_of_le hbl hb0.size
  have hnl := hR.nl
  have hpl := hR.pl
  have hcl := hR.cl
  have HT : Hid (l ++ Ob.codeW O = l ++ Ob.lst Ob.txt O.names ++ (O.procs.map Ob.enW).flatten ++ Ob.lst Ob.inW O.code) := by show _ = _; simp [Ob.codeW]
  generalize l ++ Ob.codeW O = T at *
  have hc0 : w.cell? ⟨b, o + 5, none⟩ = some (.slice na O.names.length nc) := (hb0.cell (p := ⟨b, o + 5, none⟩) hbl).trans hV.c5
  have HC := Lib.hid (names_w h O.names hV.n hb0 hw0 (by omega) hR.n (by omega))
  have HL0 : Hid ((l ++ Ob.lst Ob.txt O.names).length ≤ 100500) := by
    have := lst_len Ob.txt 20 O.names (fun y hy => by have := HR.out.n y hy; have := txt_len (s := y) (by omega); omega) (by omega)
    show _ ≤ _
    rw [List.length_append]; omega
  generalize l ++ Ob.lst Ob.txt O.names = t0 at *
  clear hV hR hb0 h
  go_enter Try.func25, Try.ntmps25
  go_wp2_with fail
  refine HC.out.mono ?_
  rintro e w2 ⟨rfl, v1, h1, h2⟩
  have HW2 := Lib.hid h2
  have hB2 := HB0.out.trans (HH.out.toBelow h2 hw0)
  have hc2 : w2.cell? ⟨b, o + 4, none⟩ = some (.slice pa O.procs.length pc) := (hB2.cell (p := ⟨b, o + 4, none⟩) hbl).trans HV.out.c4
  have hb2 : b < w2.heap.size := lt_of_cell hc2
  have HS2 := Lib.hid h1
  have HLT := HL0
  clear h1 h2 HC hc0 HL0 hB2
  go_wp2_with fail
  go_loopg [19] O.procs.length (fun k vi wr => ∃ (i : Nat) (v' : Value), i ≤ O.procs.length ∧ k = O.procs.length - i ∧ vi = .int .i64 (i : Int) ∧ Hid (Wst wr wb v' (t0 ++ ((O.procs.take i).map Ob.enW).flatten)) ∧ Hid (Wr wb w v wr v'))
  case atStart => exact ⟨0, _, by omega, by omega, rfl, by simpa using HS2, HW2⟩
  case round =>
    obtain ⟨i, v3, hid, hk, rfl, HST, HW⟩ := hrel
    clear HS2 HW2 hc2 hb2
    by_cases hlt : i < O.procs.length
    · have hlt' : (i : Int) < (O.procs.length : Int) := by omega
      have hbw : Below w0.heap.size w0 wr := HB0.out.trans (HH.out.toBelow HW.out hw0)
      obtain ⟨g, go, rfl, hgl, hcell⟩ := HV.out.p.at' enC_len (by omega) i hlt
      have e0 : wr.cell? ⟨g, go + i * 3, none⟩ = some (.int .i64 O.procs[i].at') := (hbw.cell (p := ⟨g, go + i * 3, none⟩) hgl).trans (hcell 0 _ rfl)
      have e1 : wr.cell? ⟨g, go + i * 3 + 1, none⟩ = some (.int .i64 O.procs[i].args) := (hbw.cell (p := ⟨g, go + i * 3 + 1, none⟩) hgl).trans (hcell 1 _ rfl)
      have e2 : wr.cell? ⟨g, go + i * 3 + 2, none⟩ = some (.int .i64 O.procs[i].locals) := (hbw.cell (p := ⟨g, go + i * 3 + 2, none⟩) hgl).trans (hcell 2 _ rfl)
      clear hcell
      have hx := HR.out.p O.procs[i] (List.getElem_mem hlt)
      have HSN := Lib.hid (part_next Ob.enW t0 O.procs i hlt)
      have HPL := Lib.hid (part_len Ob.enW 30 t0 O.procs (fun x hx => enW_len (HR.out.p x hx)) i)
      have hglw : g < wr.heap.size := Nat.lt_of_lt_of_le hgl hbw.size
      generalize O.procs[i] = x at *
      have HML : Hid ((t0 ++ ((O.procs.take i).map Ob.enW).flatten).length ≤ 300000) := by have := HPL.out; have := HLT.out; show _ ≤ _; omega
      have HF : Hid (Ob.enW x = Ob.num x.at' ++ Ob.num x.args ++ Ob.num x.locals) := rfl
      rw [HF.out] at HSN
      generalize t0 ++ ((O.procs.take i).map Ob.enW).flatten = m at *
      have b6 := size_alloc wr (.cells #[.int .i64 x.at', .int .i64 x.args, .int .i64 x.locals] 35)
      obtain ⟨b1, b2, b3, b4, b5⟩ := HST.out.box (.cells #[.int .i64 x.at', .int .i64 x.args, .int .i64 x.locals] 35)
      have HBW := Lib.hid hbw
      clear hbw HPL HF
      go_wp2_with fail
      generalize wr.alloc (.cells #[.int .i64 x.at', .int .i64 x.args, .int .i64 x.locals] 35) = wA at *
      have HAW := Lib.hid (HW.out.trans b2)
      have hrA : wr.heap.size < wA.heap.size := lt_blk b3
      have HC0 := Lib.hid (numberAt b6 (number3 b1 x.at' x.args x.locals hx.1 hx.2.1 hx.2.2 (by have := HML.out; skip; (try simp only [List.length_append]); omega)))
      have HLn0 : Hid ((Ob.num x.at' ++ Ob.num x.args ++ Ob.num x.locals).length ≤ 30) := by exact enW_len hx
      refine HC0.out.mono ?_
      rintro e w4 ⟨rfl, v4, h4a, h4b⟩
      have HQ4 : Hid (Wr wb wA v3 w4 v4) := h4b
      have hk4 := HQ4.out.new b3 b4 b5
      have HSTn : Hid (Wst w4 wb v4 (t0 ++ ((O.procs.take (i + 1)).map Ob.enW).flatten)) := by rw [← HSN.out]; have q := h4a; simp only [List.append_assoc] at q ⊢; exact q
      have HWn := Lib.hid (HAW.out.trans HQ4.out)
      clear h4a h4b b1 b2 b3 HST HW HAW HQ4 hk4
      go_wp2_with fail
      go_roundg (O.procs.length - (i + 1))
      case measure => omega
      case rel => exact ⟨i + 1, v4, by omega, rfl, by go_num, HSTn, HWn⟩
    · have hlt' : ¬ (i : Int) < (O.procs.length : Int) := by omega
      have hei : i = O.procs.length := by omega
      have HF : Hid (Wst wr wb v3 (t0 ++ (O.procs.map Ob.enW).flatten)) := by rw [hei, List.take_length] at HST; exact HST
      have HFL : Hid ((t0 ++ (O.procs.map Ob.enW).flatten).length ≤ 101000) := by
        have := part_len Ob.enW 30 t0 O.procs (fun x hx => enW_len (HR.out.p x hx)) O.procs.length
        rw [List.take_length] at this
        have := HLT.out
        show _ ≤ _; omega
      have hB1 := HB0.out.trans (HH.out.toBelow HW.out hw0)
      have hc1 : wr.cell? ⟨b, o + 6, none⟩ = some (.slice ca O.code.length cc) := (hB1.cell (p := ⟨b, o + 6, none⟩) hbl).trans HV.out.c6
      have hb1' : b < wr.heap.size := lt_of_cell hc1
      have HC1 := Lib.hid (many_w HF.out (O.code.length : Int) (by unfold Ob.I64; omega) (by have := HFL.out; omega))
      have HT1 : Hid (T = t0 ++ (O.procs.map Ob.enW).flatten ++ Ob.num (O.code.length : Int) ++ (O.code.map Ob.inW).flatten) := by rw [HT.out, lst_eq Ob.inW]; exact rfl
      have HLT2 : Hid ((t0 ++ (O.procs.map Ob.enW).flatten ++ Ob.num (O.code.length : Int)).length ≤ 101010) := by have := HFL.out; have h3 := num_len (n := (O.code.length : Int)) (by unfold Ob.I64; omega); show _ ≤ _; rw [List.length_append]; omega
      clear HST hei HT HF HFL HLT
      generalize t0 ++ (O.procs.map Ob.enW).flatten ++ Ob.num (O.code.length : Int) = t1 at *
      go_wp2_with fail
      refine HC1.out.mono ?_
      rintro e w2 ⟨rfl, v2, h3, h4⟩
      have HW2 := Lib.hid (HW.out.trans h4)
      have hB2 := HB0.out.trans (HH.out.toBelow HW2.out hw0)
      have hc2 : w2.cell? ⟨b, o + 6, none⟩ = some (.slice ca O.code.length cc) := (hB2.cell (p := ⟨b, o + 6, none⟩) hbl).trans HV.out.c6
      have hb2 : b < w2.heap.size := lt_of_cell hc2
      have HS2 := Lib.hid h3
      have HLT := HLT2
      clear h3 h4 HC1 HW hc1 hB1 hB2 HLT2
      go_wp2_with fail
      go_loopg [45] O.code.length (fun k vi wr => ∃ (i : Nat) (v' : Value), i ≤ O.code.length ∧ k = O.code.length - i ∧ vi = .int .i64 (i : Int) ∧ Hid (Wst wr wb v' (t1 ++ ((O.code.take i).map Ob.inW).flatten)) ∧ Hid (Wr wb w v wr v'))
      case atStart => exact ⟨0, _, by omega, by omega, rfl, by simpa using HS2, HW2⟩
      case round =>
        obtain ⟨i, v3, hid, hk, rfl, HST, HW⟩ := hrel
        clear HS2 HW2 hc2 hb2
        by_cases hlt : i < O.code.length
        · have hlt' : (i : Int) < (O.code.length : Int) := by omega
          have hbw : Below w0.heap.size w0 wr := HB0.out.trans (HH.out.toBelow HW.out hw0)
          obtain ⟨g, go, rfl, hgl, hcell⟩ := HV.out.c.at' inC_len (by omega) i hlt
          have e0 : wr.cell? ⟨g, go + i * 3, none⟩ = some (.int .i64 O.code[i].op) := (hbw.cell (p := ⟨g, go + i * 3, none⟩) hgl).trans (hcell 0 _ rfl)
          have e1 : wr.cell? ⟨g, go + i * 3 + 1, none⟩ = some (.int .i64 O.code[i].a) := (hbw.cell (p := ⟨g, go + i * 3 + 1, none⟩) hgl).trans (hcell 1 _ rfl)
          have e2 : wr.cell? ⟨g, go + i * 3 + 2, none⟩ = some (.int .i64 O.code[i].b) := (hbw.cell (p := ⟨g, go + i * 3 + 2, none⟩) hgl).trans (hcell 2 _ rfl)
          clear hcell
          have hx := HR.out.c O.code[i] (List.getElem_mem hlt)
          have HSN := Lib.hid (part_next Ob.inW t1 O.code i hlt)
          have HPL := Lib.hid (part_len Ob.inW 30 t1 O.code (fun x hx => inW_len (HR.out.c x hx)) i)
          have hglw : g < wr.heap.size := Nat.lt_of_lt_of_le hgl hbw.size
          generalize O.code[i] = x at *
          have HML : Hid ((t1 ++ ((O.code.take i).map Ob.inW).flatten).length ≤ 700000) := by have := HPL.out; have := HLT.out; show _ ≤ _; omega
          have HF : Hid (Ob.inW x = Ob.num x.op ++ Ob.num x.a ++ Ob.num x.b) := rfl
          rw [HF.out] at HSN
          generalize t1 ++ ((O.code.take i).map Ob.inW).flatten = m at *
          have b6 := size_alloc wr (.cells #[.int .i64 x.op, .int .i64 x.a, .int .i64 x.b] 45)
          obtain ⟨b1, b2, b3, b4, b5⟩ := HST.out.box (.cells #[.int .i64 x.op, .int .i64 x.a, .int .i64 x.b] 45)
          have HBW := Lib.hid hbw
          clear hbw HPL HF
          go_wp2_with fail
          generalize wr.alloc (.cells #[.int .i64 x.op, .int .i64 x.a, .int .i64 x.b] 45) = wA at *
          have HAW := Lib.hid (HW.out.trans b2)
          have hrA : wr.heap.size < wA.heap.size := lt_blk b3
          have HC0 := Lib.hid (numberAt b6 (number3 b1 x.op x.a x.b hx.1 hx.2.1 hx.2.2 (by have := HML.out; skip; (try simp only [List.length_append]); omega)))
          have HLn0 : Hid ((Ob.num x.op ++ Ob.num x.a ++ Ob.num x.b).length ≤ 30) := by exact inW_len hx
          refine HC0.out.mono ?_
          rintro e w4 ⟨rfl, v4, h4a, h4b⟩
          have HQ4 : Hid (Wr wb wA v3 w4 v4) := h4b
          have hk4 := HQ4.out.new b3 b4 b5
          have HSTn : Hid (Wst w4 wb v4 (t1 ++ ((O.code.take (i + 1)).map Ob.inW).flatten)) := by rw [← HSN.out]; have q := h4a; simp only [List.append_assoc] at q ⊢; exact q
          have HWn := Lib.hid (HAW.out.trans HQ4.out)
          clear h4a h4b b1 b2 b3 HST HW HAW HQ4 hk4
          go_wp2_with fail
          go_roundg (O.code.length - (i + 1))
          case measure => omega
          case rel => exact ⟨i + 1, v4, by omega, rfl, by go_num, HSTn, HWn⟩
        · have hlt' : ¬ (i : Int) < (O.code.length : Int) := by omega
          have hei : i = O.code.length := by omega
          have HF : Hid (Wst wr wb v3 T) := by rw [hei, List.take_length] at HST; rw [HT1.out]; exact HST
          clear HST hei
          go_wp2_with fail
          exact bodyPost_end (results_none rfl _ _ _) rfl ⟨rfl, v3, HF.out, HW.out⟩
end Go.Proofs.Ytljnddcddclmeaa
