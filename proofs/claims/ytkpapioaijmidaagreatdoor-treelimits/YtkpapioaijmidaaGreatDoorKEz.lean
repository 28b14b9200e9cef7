import Derived.Test.YtkpapioaijmidaaGreatDoorKEy
import Derived.Test.YtkpapioaijmidaaGreatDoorKWe
/- The document's reader: value, STMTs. -/
namespace Go.Proofs.YtkpapioaijmidaaGreatDoor
open Go.RowKit
open Tp (Tok hd tx at' stp X S)
open Nr (Fl fine Sx tk tkS fl mu nm nu nms nex naft nval nsx)
theorem mu_len {w : World} {q : Rp} {ts : List Tok} {s : Sx} {m : List UInt8} (h : RX w q ts s) (hm : m ≠ []) (hf : (mu m s).2 = fine) : (mu m s).1.length + 1 ≤ s.1.length := by
  have hc : tx s.1 = m := mu_tx hf
  have hk : (hd s.1).kind ≠ 0 := fun hk => by have := h.txt _ (List.mem_of_getElem? h.hd.1) hk; simp only [tx] at hc; rw [hc] at this; exact hm this
  obtain ⟨y1, _, y3, _, _⟩ := h.stp_of hk
  have e : (mu m s).1 = stp s.1 := by unfold mu; rw [if_pos ⟨mu_fine hf, hc⟩]
  rw [e, y1]; omega
set_option maxRecDepth 100000 in
set_option maxHeartbeats 400000 in
theorem rvalue_s {w : World} {q : Rp} {ts : List Tok} {s : Sx} (h : RX w q ts s) (g : Nat) (y : List X × Sx) (hy : nval g s = some y) :
    Calls Tryz.prog 53 #[.pointer (some ⟨q.rb, 0, none⟩)] w fun e w' => RPost q ts w y e w' := by
  obtain ⟨r, b⟩ := s
  have h : RS w q ts r b := h
  unfold nval at hy
  by_cases hf : b = fine
  · subst hf
    rw [if_pos rfl] at hy
    have HC : Hid (∀ W, RS W q ts r fine → Calls Tryz.prog 70 #[.pointer (some ⟨q.rb, 0, none⟩), .int .i64 0, .int .i64 0] W fun e w' => RPost q ts W y e w') := fun W hW => (expr_allR q ts g).1 W r 0 0 y hW (by omega) (by omega) hy
    clear hy
    go_enter Tryz.func53, Tryz.ntmps53
    go_wp2_with fail
    refine (rok_f h).mono ?_
    rintro e w1 ⟨rfl, hb1⟩
    have h1 := h.below hb1
    have hsz := hb1.size
    go_wp2_with fail
    refine (HC.out w1 h1).mono ?_
    rintro e w2 ⟨p, rfl, hv, hst, hx⟩
    have HF : Hid (RPost q ts w y (.returned (.pointer p)) w2) := ⟨p, rfl, fun hf => (hv hf).base hsz, hst, (Ext.below hb1).trans hx⟩
    clear hv hst hx
    go_wp2_with fail
    exact bodyPost_ret (v := .pointer p) (by simp [results, Tryz.results53, go_sem]) rfl HF.out
  · rw [if_neg hf] at hy
    obtain rfl := Option.some.inj hy
    go_enter Tryz.func53, Tryz.ntmps53
    go_wp2_with fail
    refine (rok_b h hf).mono ?_
    rintro e w1 ⟨rfl, hb1⟩
    have HF : Hid (RPost q ts w ([], (r, b)) (.returned (.pointer none)) w1) := ⟨none, rfl, fun h => absurd h hf, h.below hb1, Ext.below hb1⟩
    go_wp2_with fail
    exact bodyPost_ret (v := .pointer none) (by simp [results, Tryz.results53, go_sem]) rfl HF.out
def SPost (q : Rp) (ts : List Tok) (w : World) (y : List S × Sx) (e : Ending) (w' : World) : Prop :=
  ∃ (aa : Option Addr) (an ac : Nat), e = .returned (.slice aa an ac) ∧ (y.2.2 = fine → VL w.heap.size y.1 (.slice aa an ac) w') ∧ RX w' q ts y.2 ∧ Ext q.rb w w'
def TPost (q : Rp) (ts : List Tok) (w : World) (y : List S × Sx) (e : Ending) (w' : World) : Prop :=
  ∃ (code pos : Int) (name : ByteArray) (ia va ta ea : Option Addr) (tn tc en ec : Nat), e = .returned (.agg (scells code pos name (.pointer ia) (.pointer va) (.slice ta tn tc) (.slice ea en ec))) ∧
    (y.2.2 = fine → VS w.heap.size y.1 (.agg (scells code pos name (.pointer ia) (.pointer va) (.slice ta tn tc) (.slice ea en ec))) w') ∧ RX w' q ts y.2 ∧ Ext q.rb w w'
def StsR (q : Rp) (ts : List Tok) (g : Nat) : Prop := ∀ (w : World) (r : List Tok) (deep : Nat) (y : List S × Sx), RS w q ts r fine → deep ≤ 11 → nsx g 0 deep 0 [] (r, fine) = some y →
  Calls Tryz.prog 19 #[.pointer (some ⟨q.rb, 0, none⟩), .int .i64 (deep : Int)] w fun e w' => SPost q ts w y e w'
def StR (q : Rp) (ts : List Tok) (g : Nat) : Prop := ∀ (w : World) (r : List Tok) (deep : Nat) (y : List S × Sx), RS w q ts r fine → deep ≤ 10 → nsx g 2 deep 0 [] (r, fine) = some y →
  Calls Tryz.prog 33 #[.pointer (some ⟨q.rb, 0, none⟩), .int .i64 (deep : Int)] w fun e w' => TPost q ts w y e w'
theorem StR.mono {q : Rp} {ts : List Tok} {f g : Nat} (h : StR q ts g) (hf : f ≤ g) : StR q ts f := fun w r deep y h1 h2 h3 => h w r deep y h1 h2 (Nr.mo_nsx 2 deep 0 [] (r, fine) f g hf y h3)
theorem nsx1_end {g deep a : Nat} {acc : List S} {s : Sx} {y : List S × Sx} (h : nsx g 1 deep a acc s = some y) (he : ¬ (s.2 = fine ∧ ¬ (tx s.1 = Tp.wEnd ∨ tx s.1 = Tp.wElsif ∨ tx s.1 = Tp.wElse))) : y = (acc, s) := by
  cases g with
  | zero => cases h
  | succ g =>
    rw [nsx, if_neg (by omega), if_pos rfl, if_neg he] at h
    exact (Option.some.inj h).symm
theorem nsx1_on {g deep a : Nat} {acc : List S} {r : List Tok} {y : List S × Sx} (h : nsx g 1 deep a acc (r, fine) = some y) (he : ¬ (tx r = Tp.wEnd ∨ tx r = Tp.wElsif ∨ tx r = Tp.wElse)) : ∃ g' z, g = g' + 1 ∧ nsx g' 2 deep 0 [] (r, fine) = some z ∧ nsx g' 1 deep 0 (acc ++ z.1) (mu Tp.mSemi z.2) = some y := by
  cases g with
  | zero => cases h
  | succ g =>
    rw [nsx, if_neg (by omega), if_pos rfl, if_pos ⟨rfl, he⟩] at h
    obtain ⟨z, h1, h2⟩ := bind_some' h
    exact ⟨g, z, rfl, h1, h2⟩
theorem VS.len1 {B : Nat} {l : List S} {v : Value} {w : World} (h : VS B l v w) : l.length = 1 := by
  obtain ⟨c, p, n, ia, va, ta, ea, tn, tc, en, ec, _, h2⟩ := h
  have := RepS.len _ _ h2
  simp [scells] at this
  omega
set_option maxRecDepth 100000 in
set_option maxHeartbeats 2000000 in
theorem rstmts_loop {q : Rp} {ts : List Tok} {g : Nat} (hT : StR q ts g) {w : World} {s0 : Sx} {deep : Nat} {y : List S × Sx} (h : RX w q ts s0) (hd : deep ≤ 10) (hy : nsx g 1 deep 0 [] s0 = some y) :
    Calls Tryz.prog 19 #[.pointer (some ⟨q.rb, 0, none⟩), .int .i64 (deep : Int)] w fun e w' => SPost q ts w y e w' := by
  obtain ⟨i3, hi3, hz30, hz31, hz32⟩ := info_parts Tryz.infoStmt
  have hpl := lt_of_cell h.c0
  have hlen := h.len
  have hl0 : s0.1.length ≤ 1000 := by have := h.hd.2.2.2; omega
  have HT : Hid (∀ g', g' ≤ g → ∀ W r' z, RS W q ts r' fine → nsx g' 2 deep 0 [] (r', fine) = some z → Calls Tryz.prog 33 #[.pointer (some ⟨q.rb, 0, none⟩), .int .i64 (deep : Int)] W fun e w' => TPost q ts W z e w') := fun g' hg W r' z hW hz => (hT.mono hg) W r' deep z hW hd hz
  have HY := Lib.hid hy
  have hdi : ¬ (10 : Int) < (deep : Int) := by omega
  clear hT hy
  go_enter Tryz.func19, Tryz.ntmps19
  go_wp2_with fail
  go_loopg [5] g (fun gk v wr => ∃ (l : List S) (cs : List Value) (s' : Sx) (aa : Option Addr) (nn ac : Nat), gk ≤ g ∧ v = .slice aa nn ac ∧ nn ≤ 1001 ∧ Hid (s'.2 = fine → nn + s'.1.length ≤ 1000) ∧ Hid (wr.ownsRow w.heap.size 85 7 (.slice aa nn ac) nn cs) ∧ Hid (s'.2 = fine → nn = l.length ∧ RepS wr (fun b => w.heap.size ≤ b ∧ (Value.slice aa nn ac).ownBlock ≠ some b) l cs) ∧ RX wr q ts s' ∧ Hid (Ext q.rb w wr) ∧ Hid (nsx gk 1 deep 0 l s' = some y))
  case atStart => exact ⟨[], [], s0, none, 0, 0, Nat.le_refl _, rfl, by omega, (fun _ => by omega), World.ownsRow_nil _ _ _ _, (fun _ => ⟨rfl, by rw [RepS]⟩), h, Ext.refl _ _, HY⟩
  case round =>
    obtain ⟨l, cs, ⟨r', b'⟩, aa, nn, ac, hgk, rfl, hnn, HLN, HO, HRP, hst, HX, HS⟩ := hrel
    clear h HY hl0
    have hst : RS wr q ts r' b' := hst
    have HEND : Hid (∀ W, Below wr.heap.size wr W → y = (l, (r', b')) → SPost q ts w y (.returned (.slice aa nn ac)) W) := fun W hW hy => by
      rw [hy]
      refine ⟨aa, nn, ac, rfl, fun hf => ?_, hst.below hW, HX.out.trans (Ext.below hW)⟩
      obtain ⟨e1, e2⟩ := HRP.out hf
      refine ⟨cs, e2.mono' (fun i hi hl => ⟨hW.block i hl, hi⟩), ?_⟩
      rw [← e1]
      exact owns_ext HO.out (Ext.below (b := q.rb) hW) hpl
    by_cases hf : b' = fine
    rotate_left
    · have HE := Lib.hid (nsx1_end HS.out (fun h => hf h.1))
      have HK := Lib.hid (rok_b hst hf)
      clear hf
      go_wp2_with fail
      refine HK.out.mono ?_
      rintro e w5 ⟨rfl, hb5⟩
      have HF := Lib.hid (HEND.out w5 hb5 HE.out)
      go_wp2_with fail
      exact bodyPost_ret (v := .slice aa nn ac) (by simp [results, Tryz.results19, go_sem]) rfl HF.out
    · subst hf
      have hln0 := HLN.out rfl
      have hrp0 := HRP.out rfl
      have HLN0 := Lib.hid hln0
      have HRP0 := Lib.hid hrp0
      clear hln0 hrp0
      have HK := Lib.hid (rok_f hst)
      go_wp2_with fail
      refine HK.out.mono ?_
      rintro e w5 ⟨rfl, hb5⟩
      have hst5 : RX w5 q ts (r', fine) := hst.below hb5
      clear HK
      go_wp2_with fail
      refine (rsee_s hst5 Tp.wEnd (by decide) _ rfl).mono ?_
      rintro e w6 ⟨rfl, hb6⟩
      have hb6' : Below wr.heap.size wr w6 := hb5.trans (hb6.mono hb5.size)
      cases h1 : tk Tp.wEnd (r', fine) with
      | true =>
        have HE := Lib.hid (nsx1_end HS.out (fun h => h.2 (Or.inl (tk_true h1).2.1)))
        have HF := Lib.hid (HEND.out w6 hb6' HE.out)
        clear h1
        go_wp2_with fail
        exact bodyPost_ret (v := .slice aa nn ac) (by simp [results, Tryz.results19, go_sem]) rfl HF.out
      | false =>
        have hst6 : RX w6 q ts (r', fine) := hst.below hb6'
        go_wp2_with fail
        refine (rsee_s hst6 Tp.wElse (by decide) _ rfl).mono ?_
        rintro e w7 ⟨rfl, hb7⟩
        have hb7' : Below wr.heap.size wr w7 := hb6'.trans (hb7.mono hb6'.size)
        cases h2 : tk Tp.wElse (r', fine) with
        | true =>
          have HE := Lib.hid (nsx1_end HS.out (fun h => h.2 (Or.inr (Or.inr (tk_true h2).2.1))))
          have HF := Lib.hid (HEND.out w7 hb7' HE.out)
          clear h1 h2
          go_wp2_with fail
          exact bodyPost_ret (v := .slice aa nn ac) (by simp [results, Tryz.results19, go_sem]) rfl HF.out
        | false =>
          have hst7 : RX w7 q ts (r', fine) := hst.below hb7'
          go_wp2_with fail
          refine (rsee_s hst7 Tp.wElsif (by decide) _ rfl).mono ?_
          rintro e w8 ⟨rfl, hb8⟩
          have hb8' : Below wr.heap.size wr w8 := hb7'.trans (hb8.mono hb7'.size)
          cases h3 : tk Tp.wElsif (r', fine) with
          | true =>
            have HE := Lib.hid (nsx1_end HS.out (fun h => h.2 (Or.inr (Or.inl (tk_true h3).2.1))))
            have HF := Lib.hid (HEND.out w8 hb8' HE.out)
            clear h1 h2 h3
            go_wp2_with fail
            exact bodyPost_ret (v := .slice aa nn ac) (by simp [results, Tryz.results19, go_sem]) rfl HF.out
          | false =>
            obtain ⟨g', z, hgg, hz, hyz⟩ := nsx1_on HS.out (fun h => by
              rcases h with h | h | h
              · exact of_decide_eq_false h1 ⟨rfl, h⟩
              · exact of_decide_eq_false h3 ⟨rfl, h⟩
              · exact of_decide_eq_false h2 ⟨rfl, h⟩)
            subst hgg
            have hst8 : RS w8 q ts r' fine := hst.below hb8'
            have HC := Lib.hid (HT.out g' (by omega) w8 r' z hst8 hz)
            have hln := HLN0.out
            have hzl := Nr.nsx_len g' 2 deep 0 [] (r', fine) r'.length (Nat.le_refl _) z hz
            obtain ⟨hnl, hrp⟩ := HRP0.out
            have HO8 := Lib.hid (owns_ext HO.out (Ext.below (b := q.rb) hb8') hpl)
            have HR8 := Lib.hid (hrp.mono' (w' := w8) (D' := fun b => w.heap.size ≤ b ∧ (Value.slice aa nn ac).ownBlock ≠ some b) (fun i hi hl => ⟨hb8'.block i hl, hi⟩))
            have HX8 := Lib.hid (HX.out.trans (Ext.below hb8'))
            have HYZ := Lib.hid hyz
            have HNL := Lib.hid hnl
            clear h1 h2 h3 HS hz hyz hnl hrp HRP HRP0 HLN0 HO HLN HEND hst hst5 hst6 hst7 hb5 hb6 hb6' hb7 hb7' hb8 hb8' HX
            go_wp2_with fail
            refine HC.out.mono ?_
            rintro e w9 ⟨code, pos, name, ia, va, ta, ea, tn, tc, en, ec, rfl, hv9, hst9, hx9⟩
            have HO9 := Lib.hid (owns_ext HO8.out hx9 hpl)
            have HR9 := Lib.hid (HR8.out.mono' (w' := w9) (D' := fun b => w.heap.size ≤ b ∧ (Value.slice aa nn ac).ownBlock ≠ some b) (fun i hi hl => ⟨hx9.block i hl (by omega), hi⟩))
            have HX9 := Lib.hid (HX8.out.trans hx9)
            have hsz8 := HX8.out.size
            have hsz9 := HX9.out.size
            have HV9 := Lib.hid hv9
            have HOL : Hid (∀ gq, (Value.slice aa nn ac).ownBlock = some gq → gq < w8.heap.size) := fun gq hgq => (HO8.out.lt gq hgq).2
            have hown9 := HO9.out
            clear hv9 hx9 HO8 HR8 HX8 hst8
            simp only [scells]
            go_wp2_with (at_builtin; refine wpList_append_where _ rfl _ _ 29 rfl w.heap.size 85 i3 (.agg #[.int .i64 0, .int .i64 0, .string ⟨#[]⟩, .pointer none, .pointer none, .slice none 0 0, .slice none 0 0]) 7 96 Tryz.underlying29 hi3 hz30 hz31 hz32 rfl (by decide) _ _ _ rfl (hown9.alloc _) ⟨w9.heap.size, 0, none⟩ 1 1 [.int .i64 code, .int .i64 pos, .string name, .pointer ia, .pointer va, .slice ta tn tc, .slice ea en ec] rfl rfl ?c1 ?c2 ?c3 ?c4 ?c5 ?_)
            case c1 => exact news7 w9 _ _ _ _ _ _ _ _
            case c2 => intro u hu; simp at hu; rcases hu with rfl | rfl | rfl | rfl | rfl | rfl | rfl <;> rfl
            case c3 => unfold maxLen; omega
            case c4 => omega
            case c5 => simp; omega
            · intro v' w10 hown10 hgrow10 hwhere10
              have hb10 : Below w.heap.size w9 w10 := ((Below.refl _ _).alloc hsz9 _).trans ((Below.refl _ _).grown hgrow10 (by simp; omega) (owns_row hown9))
              obtain ⟨na, nc, hvv⟩ := owns_shape hown10
              subst hvv
              have hst10 : RX w10 q ts z.2 := hst9.belowB hb10 hpl
              have HX10 := Lib.hid (HX9.out.trans' hb10)
              have HR10 : Hid (z.2.2 = fine → nn + 1 = (l ++ z.1).length ∧ RepS w10 (fun b => w.heap.size ≤ b ∧ (Value.slice na (nn + 1) nc).ownBlock ≠ some b) (l ++ z.1) (cs ++ [.int .i64 code, .int .i64 pos, .string name, .pointer ia, .pointer va, .slice ta tn tc, .slice ea en ec])) := fun hf => by
                have hv := HV9.out hf
                refine ⟨by rw [List.length_append, hv.len1, HNL.out], ?_⟩
                obtain ⟨c1, p1, n1, ia1, va1, ta1, ea1, tn1, tc1, en1, ec1, he1, hr1⟩ := hv
                have e2 : (scells (c1 : Int) (p1 : Int) (bs n1) (.pointer ia1) (.pointer va1) (.slice ta1 tn1 tc1) (.slice ea1 en1 ec1)).toList = [.int .i64 code, .int .i64 pos, .string name, .pointer ia, .pointer va, .slice ta tn tc, .slice ea en ec] := by
                  have := congrArg (fun v => match v with | Value.agg a => a.toList | _ => []) he1
                  simp only [scells] at this ⊢
                  exact this.symm
                rw [e2] at hr1
                have h2 : RepS w9 (fun b => w.heap.size ≤ b ∧ (Value.slice aa nn ac).ownBlock ≠ some b) z.1 [.int .i64 code, .int .i64 pos, .string name, .pointer ia, .pointer va, .slice ta tn tc, .slice ea en ec] := RepS.of_new hr1 hsz8 HOL.out
                have h3 := RepS.app _ _ _ _ (HR9.out.alloc (.cells #[.int .i64 code, .int .i64 pos, .string name, .pointer ia, .pointer va, .slice ta tn tc, .slice ea en ec] 85)) (h2.alloc (.cells #[.int .i64 code, .int .i64 pos, .string name, .pointer ia, .pointer va, .slice ta tn tc, .slice ea en ec] 85))
                exact h3.grown hgrow10 (by simpa using hwhere10)
              have HO10 := Lib.hid hown10
              clear hown9 hown10 hgrow10 hwhere10 hb10 hst9 HO9 HR9 HX9 HV9
              go_wp2_with fail
              refine (rmust_s hst10 Tp.mSemi (by decide) _ rfl).mono ?_
              rintro e w11 ⟨rfl, hst11, hx11⟩
              have HO11 := Lib.hid (owns_ext HO10.out hx11 hpl)
              have HX11 := Lib.hid (HX10.out.trans hx11)
              have HR11 : Hid ((mu Tp.mSemi z.2).2 = fine → nn + 1 = (l ++ z.1).length ∧ RepS w11 (fun b => w.heap.size ≤ b ∧ (Value.slice na (nn + 1) nc).ownBlock ≠ some b) (l ++ z.1) (cs ++ [.int .i64 code, .int .i64 pos, .string name, .pointer ia, .pointer va, .slice ta tn tc, .slice ea en ec])) := fun hf => by
                obtain ⟨e1, e2⟩ := HR10.out (mu_fine hf)
                exact ⟨e1, e2.mono' (fun i hi hl => ⟨hx11.block i hl (by omega), hi⟩)⟩
              have HLN : Hid ((mu Tp.mSemi z.2).2 = fine → nn + 1 + (mu Tp.mSemi z.2).1.length ≤ 1000) := fun hf => by
                have := mu_len hst10 (by decide) hf
                omega
              have hn1 : nn + 1 ≤ 1001 := by omega
              clear hst10 hx11 HO10 HR10 HX10 hln hzl
              go_wp2_with fail
              go_roundg g'
              case measure => omega
              case rel => exact ⟨l ++ z.1, _, _, na, nn + 1, nc, by omega, rfl, hn1, HLN, HO11, HR11, hst11, HX11, HYZ⟩
set_option maxRecDepth 100000 in
set_option maxHeartbeats 400000 in
theorem rstmts_deep {q : Rp} {ts : List Tok} {w : World} {r : List Tok} {deep : Nat} (h : RS w q ts r fine) (hd : 10 < deep) (hd2 : deep ≤ 11) :
    Calls Tryz.prog 19 #[.pointer (some ⟨q.rb, 0, none⟩), .int .i64 (deep : Int)] w fun e w' => SPost q ts w ([], (r, ((4 : Int), (at' r : Int)))) e w' := by
  go_enter Tryz.func19, Tryz.ntmps19
  go_wp2_with fail
  refine (rfails_any h 4).mono ?_
  rintro e w1 ⟨rfl, h1, hx1⟩
  rw [if_pos rfl] at h1
  have h1 : RS w1 q ts r ((4 : Int), (at' r : Int)) := h1
  have HX1 := Lib.hid hx1
  clear hx1
  go_wp2_with fail
  go_loopg [5] 0 (fun gk v wr => v = .slice none 0 0 ∧ RS wr q ts r ((4 : Int), (at' r : Int)) ∧ Hid (Ext q.rb w wr))
  case atStart => exact ⟨rfl, h1, HX1⟩
  case round =>
    obtain ⟨rfl, hst, HX⟩ := hrel
    go_wp2_with fail
    refine (rok_b hst (four_ne _)).mono ?_
    rintro e w2 ⟨rfl, hb2⟩
    have HF : Hid (SPost q ts w ([], (r, ((4 : Int), (at' r : Int)))) (.returned (.slice none 0 0)) w2) := ⟨none, 0, 0, rfl, fun hf => absurd hf (four_ne _), hst.below hb2, HX.out.trans (Ext.below hb2)⟩
    go_wp2_with fail
    exact bodyPost_ret (v := .slice none 0 0) (by simp [results, Tryz.results19, go_sem]) rfl HF.out
theorem rstmts_post {q : Rp} {ts : List Tok} {g : Nat} (hT : StR q ts g) : StsR q ts (g + 1) := by
  intro w r deep y h hd hy
  rw [nsx, if_pos rfl] at hy
  by_cases h10 : 10 < deep
  · rw [if_pos h10] at hy
    have e : fl 4 (r, fine) = (r, ((4 : Int), (at' r : Int))) := by simp [fl]
    rw [e] at hy
    rw [nsx1_end hy (fun h => four_ne _ h.1)]
    exact rstmts_deep h h10 hd
  · rw [if_neg h10] at hy
    exact rstmts_loop hT (s0 := (r, fine)) h (by omega) hy
end Go.Proofs.YtkpapioaijmidaaGreatDoor
