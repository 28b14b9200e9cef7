import Derived.Test.YtfcdphgggdioeaaGreatDoorKLa
import Derived.Test.YtfcdphgggdioeaaGreatDoorKDa
import Derived.Test.YtfcdphgggdioeaaGreatDoorKTb
/- Maps whose keys may be as long as texts are. -/
namespace Go.Proofs.YtfcdphgggdioeaaGreatDoor
open Go.RowKit Go.Maps
open Tp (Bs)
theorem skey_ofL (l : Bs) (hl : l.length ≤ 9223372036854775807) : keyOf Tryz.prog 9 (.string (bs l)) = some (.string l) := by
  have := Go.WideMaps.keyOf_string_mk (P := Tryz.prog) (k := 9) Tryz.underlying9 (s := bs l) (by simp [bs, ByteArray.size, maxLen]; omega)
  simpa [bs] using this
theorem MapV.lookL {w : World} {b n : Nat} {f : Bs → Option Value} (h : MapV w b n f) {t e : TypeId} (ht : Tryz.prog.underlying t = some (.map 9 e)) {z : Value} (hz : (zeroValue e).run Tryz.prog w = .ok z w) (l : Bs) (hl : l.length ≤ 9223372036854775807) (c : Bool) :
    (Instr.lookup t (.map (some b)) (.string (bs l)) c).run Tryz.prog w = .ok (if c then .tuple #[(f l).getD z, .bool (f l).isSome] else (f l).getD z) w := by
  obtain ⟨D, h1, h2⟩ := h.own
  obtain ⟨e1, e2⟩ := h2 l
  have key : ∀ v, heldV v = some (D.atKey (.string l) (.held z), ([] : List MemPlace)) → v = (f l).getD z := by
    intro v hv
    unfold heldV at hv
    simp only [Option.some.injEq, Prod.mk.injEq, and_true] at hv
    cases hf : f l with
    | none =>
      rw [hf] at e1
      rw [atKey_of_not_has e1] at hv
      injection hv
    | some u =>
      rw [e2 u hf] at hv
      injection hv
  have key' : ∀ v ps, heldV v = some (D.atKey (.string l) (.held z), ps) → v = (f l).getD z := by
    intro v ps hv
    refine key v ?_
    unfold heldV at hv ⊢
    simp only [Option.some.injEq, Prod.mk.injEq] at hv ⊢
    exact ⟨hv.1, trivial⟩
  cases c with
  | true =>
    obtain ⟨v, ps, r1, r2⟩ := h1.look_ok skey ht hz (zd := .held z) (zp := []) rfl (skey_ofL l hl)
    rw [r1, key' v ps r2, e1]
    rfl
  | false =>
    obtain ⟨v, ps, r1, r2⟩ := h1.lookup skey ht hz (zd := .held z) (zp := []) rfl (skey_ofL l hl)
    rw [r1, key' v ps r2]
    rfl
theorem MapV.storeL {w : World} {b n : Nat} {f : Bs → Option Value} (h : MapV w b n f) {t e : TypeId} (ht : Tryz.prog.underlying t = some (.map 9 e)) (hn : n < 1000000) (l : Bs) (hl : l.length ≤ 9223372036854775807) (v : Value) :
    ∃ w', (Instr.mapUpdate t (.map (some b)) (.string (bs l)) v).run Tryz.prog w = .ok () w' ∧ MapV w' b (n + 1) (updV f l v) ∧ Ext b w w' ∧ w'.heap.size = w.heap.size := by
  obtain ⟨D, h1, h2⟩ := h.own
  obtain ⟨w', r1, r2, r3⟩ := h1.store skey ht (by unfold maxLen; omega) (skey_ofL l hl) (d := .held v) (ps := []) rfl
  have hm := h1.isMap
  refine ⟨w', r1, ⟨⟨_, r2, fun s => ?_⟩⟩, ?_, ?_⟩
  · by_cases hs : s = l
    · subst hs
      have hk : WideAt.IsKeyLit (.string s) := by simp [WideAt.IsKeyLit]
      refine ⟨by rw [has_put_same hm hk]; simp [updV], fun u hu z => ?_⟩
      rw [atKey_put_same hm hk]
      simp [updV] at hu
      rw [hu]
    · have hne : (Lit.string s) ≠ .string l := fun e => hs (by injection e)
      refine ⟨by rw [has_put_other hne, (h2 s).1]; simp [updV, hs], fun u hu z => ?_⟩
      rw [atKey_put_other hne]
      simp [updV, hs] at hu
      exact (h2 s).2 u hu z
  · have g := r3.grown
    exact ⟨g.os, g.tape, g.output, g.size, fun k hk hb => g.block k hk (fun e => hb (by injection e))⟩
  · obtain ⟨es, clock, es', clock', _, rfl⟩ := r3
    simp [ChangeMaps.setBlock]
theorem wpList_mapUpdate_vL (w : World) {ops : Array Oper} {rest : List Oper} {o : Oper} {a : Act} {Q : Exit → Act → World → Prop}
    (hg : o.guard = none) (m x v : Operand) (t : TypeId) (hop : o.op = Op.mapUpdate t m x v) (e : TypeId) (ht : Tryz.prog.underlying t = some (.map 9 e))
    (b n : Nat) (f : Bs → Option Value) (hown : MapV w b n f) (hn : n < 1000000) (l : Bs) (hl : l.length ≤ 9223372036854775807) (val : Value) (hm : a.eval m = .map (some b)) (hx : a.eval x = .string (bs l)) (hv : a.eval v = val)
    (hK : ∀ w', MapV w' b (n + 1) (updV f l val) → Ext b w w' → w'.heap.size = w.heap.size → wpList Tryz.prog ops Q rest (a.put o.dst undef) w') :
    wpList Tryz.prog ops Q (o :: rest) a w := by
  refine wpList_plain hg fun K' hK' => ?_
  obtain ⟨w', hrun, r1, r2, r3⟩ := hown.storeL ht hn l hl val
  unfold Oper.wp
  simp [execOp, hop, hm, hx, hv, hrun, Result.andThen]
  exact hK' _ _ (hK w' r1 r2 r3)
end Go.Proofs.YtfcdphgggdioeaaGreatDoor
/- Chapter 9: viewsOf, walked: of any two maps of modules, of whatever names. -/

namespace Go.Proofs.YtfcdphgggdioeaaGreatDoor
open Go.RowKit Go.Maps
open Tp (Bs Sy)
/- what is seen of x -/
def syP (F : Bs → Option Tp.M) (x : Bs) : List Sy := match F x with
  | some m => ofS m
  | none => []
def lookM (mb : Option Nat) (x : Bs) (X : Value) (V : World) : Prop := (Instr.lookup 23 (.map mb) (.string (bs x)) false).run Tryz.prog V = .ok X V
/- a module in a map, or none: Module{} -/
theorem map_mod {w : World} {mb n : Nat} {f : Bs → Option Value} {F : Bs → Option Tp.M} (h : ModF w mb n f F) {x : Bs} (hl : x.length ≤ 9223372036854775807) :
    ∃ X m ia ga pa ba ic gc pc bc, X = .agg (mcells (bs m.name) (.slice ia m.imports.length ic) (.slice ga m.vars.length gc) (.slice pa m.procs.length pc) (.slice ba m.body.length bc)) ∧ (∀ V, V.heap[mb]? = w.heap[mb]? → lookM (some mb) x X V) ∧ (∀ V, Below w.heap.size w V → MB V V.heap.size m ia ga pa ba ic gc pc bc) ∧ ofS m = syP F x ∧ m.vars.length ≤ 10 ∧ m.procs.length ≤ 10 ∧ AllSmall (syP F x) ∧ (syP F x).length ≤ 1000 := by
  cases hx : F x with
  | none =>
    refine ⟨.agg (mcells (bs mZ.name) (.slice none 0 0) (.slice none 0 0) (.slice none 0 0) (.slice none 0 0)), mZ, none, none, none, none, 0, 0, 0, 0, rfl, fun V hV => ?_, fun V _ => mb_zero V, ?_, by decide, by decide, ?_, ?_⟩
    · have := (h.m.on hV).lookL (t := 23) Tryz.underlying23 (zeroMod' V) x hl false
      simp only [Bool.false_eq_true, if_false] at this
      rw [h.no x hx, Option.getD_none] at this
      exact this
    · unfold syP; rw [hx]
      have : (ofS mZ).length = 0 := by unfold ofS; rw [srt_len]; rfl
      exact List.eq_nil_of_length_eq_zero this
    · unfold syP; rw [hx]; exact fun s hs => by cases hs
    · unfold syP; rw [hx]; exact Nat.zero_le _
  | some m =>
    obtain ⟨v, ia, ga, pa, ba, ic, gc, pc, bc, h1, h2⟩ := h.is x m hx
    refine ⟨v, m, ia, ga, pa, ba, ic, gc, pc, bc, h2.v, fun V hV => ?_, fun V hV => ?_, ?_, h2.wm.gc, h2.wm.pc, ?_, ?_⟩
    · have := (h.m.on hV).lookL (t := 23) Tryz.underlying23 (zeroMod' V) x hl false
      simp only [Bool.false_eq_true, if_false] at this
      rw [h1, Option.getD_some] at this
      exact this
    · have hmd := h2.md.mono (w' := V) (D' := fun b => b < V.heap.size) (fun b _ hb => ⟨hV.block b hb, by have := hV.size; omega⟩)
      exact hmd.mb (fun b hb _ => hb)
    · unfold syP; rw [hx]
    · unfold syP; rw [hx]; exact ofS_small h2.wm
    · unfold syP; rw [hx]; exact ofS_len h2.wm.gc h2.wm.pc
/- views, in memory: of the names ch: what was seen, what is -/
structure VZ (w : World) (F G : Bs → Option Tp.M) (vb n : Nat) (fv : Bs → Option Value) (ch : List Bs) : Prop where
  m : MapV w vb n fv
  key : ∀ x, (fv x).isSome = true ↔ x ∈ ch
  val : ∀ x v, fv x = some v → ∃ a1 n1 c1 a2 n2 c2, v = .agg #[.slice a1 n1 c1, .slice a2 n2 c2] ∧ SL w 0 (.slice a1 n1 c1) (syP F x) ∧ SL w 0 (.slice a2 n2 c2) (syP G x)
theorem VZ.on {w w' : World} {F G : Bs → Option Tp.M} {vb n : Nat} {fv : Bs → Option Value} {ch : List Bs} (h : VZ w F G vb n fv ch) (k : Below w.heap.size w w') : VZ w' F G vb n fv ch :=
  ⟨h.m.on (k.block _ h.m.lt), h.key, fun x v hx => by
    obtain ⟨a1, n1, c1, a2, n2, c2, h1, q1, q2⟩ := h.val x v hx
    exact ⟨a1, n1, c1, a2, n2, c2, h1, q1.on k, q2.on k⟩⟩
theorem VZ.put {w w' : World} {F G : Bs → Option Tp.M} {vb n : Nat} {fv : Bs → Option Value} {ch : List Bs} (h : VZ w F G vb n fv ch) {x : Bs} {a1 a2 : Option Addr} {n1 c1 n2 c2 : Nat} (s1 : SL w 0 (.slice a1 n1 c1) (syP F x)) (s2 : SL w 0 (.slice a2 n2 c2) (syP G x)) (hf : MapV w' vb (n + 1) (updV fv x (.agg #[.slice a1 n1 c1, .slice a2 n2 c2]))) (k : Ext vb w w') : VZ w' F G vb (n + 1) (updV fv x (.agg #[.slice a1 n1 c1, .slice a2 n2 c2])) (ch ++ [x]) := by
  refine ⟨hf, fun y => ?_, fun y v hy => ?_⟩
  · unfold updV
    by_cases e : y = x
    · simp [e]
    · rw [if_neg e, h.key y]; simp [e]
  · unfold updV at hy
    by_cases e : y = x
    · rw [if_pos e] at hy
      cases hy
      rw [e]
      exact ⟨a1, n1, c1, a2, n2, c2, rfl, s1.extM k h.m, s2.extM k h.m⟩
    · rw [if_neg e] at hy
      obtain ⟨b1, m1, d1, b2, m2, d2, h1, q1, q2⟩ := h.val y v hy
      exact ⟨b1, m1, d1, b2, m2, d2, h1, q1.extM k h.m, q2.extM k h.m⟩
theorem VZ.more {w : World} {F G : Bs → Option Tp.M} {vb n : Nat} {fv : Bs → Option Value} {ch : List Bs} (h : VZ w F G vb n fv ch) {x : Bs} (hx : x ∈ ch) : VZ w F G vb n fv (ch ++ [x]) :=
  ⟨h.m, fun y => (h.key y).trans ⟨fun q => List.mem_append_left _ q, fun q => (List.mem_append.1 q).elim id fun z => by simp at z; rw [z]; exact hx⟩, h.val⟩
def ViewsX (w : World) (F G : Bs → Option Tp.M) (ch : List Bs) (e : Ending) (w' : World) : Prop := ∃ vb n fv, e = .returned (.map (some vb)) ∧ w.heap.size ≤ vb ∧ n ≤ ch.length ∧ VZ w' F G vb n fv ch ∧ Below w.heap.size w w'
set_option maxRecDepth 100000 in
set_option maxHeartbeats 4000000 in
theorem viewsX_post {w : World} {ma mb na n : Nat} {fa f : Bs → Option Value} {F G : Bs → Option Tp.M} (hA : ModF w ma na fa F) (h : ModF w mb n f G) {ch : List Bs} {ca : Option Addr} {cc : Nat} (hS : StrsAt w ch ca) (hch : ∀ x ∈ ch, x.length ≤ 9223372036854775807) (hcl : ch.length ≤ 100) :
    Calls Tryz.prog 28 #[.map (some ma), .map (some mb), .slice ca ch.length cc] w (ViewsX w F G ch) := by
  have HFA := Lib.hid hA
  have HF := Lib.hid h
  have HS := Lib.hid hS
  have HCH := Lib.hid hch
  have hmm := @run_makeMap Tryz.prog
  have hcl' : (ch.length : Int) ≤ 100 := by omega
  obtain ⟨w1, hw1⟩ : ∃ w1, w1 = w.alloc (.map #[] 0) := ⟨_, rfl⟩
  have hb1 : Below w.heap.size w w1 := by rw [hw1]; exact (Below.refl _ _).alloc (Nat.le_refl _) _
  obtain ⟨vb, hvb⟩ : ∃ vb, vb = w.heap.size := ⟨_, rfl⟩
  have HV1 : Hid (VZ w1 F G vb 0 (fun _ => none) (ch.take 0)) := ⟨by rw [hw1, hvb]; exact MapV.made w, fun x => by simp, fun x v hx => by cases hx⟩
  have HB1 := Lib.hid hb1
  have hvb1 : w.heap.size ≤ vb := by omega
  obtain ⟨cl, hcq⟩ : ∃ cl, cl = ch.length := ⟨_, rfl⟩
  rw [← hcq] at hcl hcl' ⊢
  have HCQ := Lib.hid hcq
  clear hA h hS hch hb1 hcq
  go_enter Tryz.func28, Tryz.ntmps28
  go_upto_region 2 with fail
  rw [← hw1, ← hvb]
  clear hw1 hvb hmm
  go_wp2_with fail
  go_loopg [15] cl (fun k vi wr => ∃ (i c : Nat) (fv : Bs → Option Value), i ≤ cl ∧ k = cl - i ∧ vi = .int .i64 (i : Int) ∧ c ≤ i ∧ Hid (VZ wr F G vb c fv (ch.take i)) ∧ Hid (Below w.heap.size w wr))
  case atStart => exact ⟨0, 0, _, by omega, by omega, rfl, by omega, HV1, HB1⟩
  case round =>
    obtain ⟨i, c, fv, hid, hk, rfl, hci, HVr, HBr⟩ := hrel
    clear HV1 HB1
    by_cases hlt : i < cl
    · have hlt' : (i : Int) < (cl : Int) := by omega
      have hi0 : ¬ (i : Int) < 0 := by omega
      have hic : i < ch.length := by have := HCQ.out; omega
      obtain ⟨g, o, hga, hgl, hcell⟩ := (HS.out.on HBr.out).c i hic
      subst hga
      have hxl := HCH.out _ (List.getElem_mem hic)
      have hAr := HFA.out.on HBr.out
      have hFr := HF.out.on HBr.out
      obtain ⟨A, mA, iA, gA, pA, bA, jA, hA', qA, rA, eA, hlA, hmA, hsA, gcA, pcA, smA, lnA⟩ := map_mod hAr hxl
      obtain ⟨N, mN, iN, gN, pN, bN, jN, hN', qN, rN, eN, hlN, hmN, hsN, gcN, pcN, smN, lnN⟩ := map_mod hFr hxl
      have HOA : Hid (∀ V, Below wr.heap.size wr V → Calls Tryz.prog 47 #[A] V fun e w' => ∃ a k c, e = .returned (.slice a k c) ∧ Below V.heap.size V w' ∧ SL w' 0 (.slice a k c) (syP F ch[i])) := fun V hV => by
        rw [eA]
        refine (of_post gcA pcA (hmA V hV)).mono ?_
        rintro e w' ⟨u, rfl, hb, hs⟩
        obtain ⟨a, c, rfl⟩ := hs.len
        exact ⟨a, _, c, rfl, hb, hsA ▸ hs.zero⟩
      have HON : Hid (∀ V, Below wr.heap.size wr V → Calls Tryz.prog 47 #[N] V fun e w' => ∃ a k c, e = .returned (.slice a k c) ∧ Below V.heap.size V w' ∧ SL w' 0 (.slice a k c) (syP G ch[i])) := fun V hV => by
        rw [eN]
        refine (of_post gcN pcN (hmN V hV)).mono ?_
        rintro e w' ⟨u, rfl, hb, hs⟩
        obtain ⟨a, c, rfl⟩ := hs.len
        exact ⟨a, _, c, rfl, hb, hsN ▸ hs.zero⟩
      have hlv := HVr.out.m.lookL (t := 75) Tryz.underlying75 (zeroView wr) ch[i] hxl true
      simp only [if_true] at hlv
      have HTK : Hid (ch.take (i + 1) = ch.take i ++ [ch[i]]) := List.take_succ_eq_append_getElem hic
      generalize ch[i] = x at *
      have hmA1 : ma ≠ vb := by have := HFA.out.m.lt; omega
      have hmlA := hAr.m.lt
      have HXL := Lib.hid hxl
      have HLA : Hid (∀ V, V.heap[ma]? = wr.heap[ma]? → (Instr.lookup 23 (.map (some ma)) (.string (bs x)) false).run Tryz.prog V = .ok A V) := hlA
      have HLN : Hid (∀ V, V.heap[mb]? = wr.heap[mb]? → (Instr.lookup 23 (.map (some mb)) (.string (bs x)) false).run Tryz.prog V = .ok N V) := hlN
      have hmlr := hFr.m.lt
      clear hAr hFr eA eN hlA hlN hmA hmN hsA hsN gcA gcN pcA pcN smA smN lnA lnN hxl
      cases hq : fv x with
      | some u =>
        have HVm : Hid (VZ wr F G vb c fv (ch.take (i + 1))) := by
          show VZ _ _ _ _ _ _ _
          rw [HTK.out]
          exact HVr.out.more ((HVr.out.key x).1 (by rw [hq]; rfl))
        obtain ⟨b1, k1, d1, b2, k2, d2, rfl, _⟩ := HVr.out.val x u hq
        rw [hq] at hlv
        simp only [Option.getD_some, Option.isSome_some] at hlv
        obtain ⟨w2, hw2⟩ : ∃ w2, w2 = wr.alloc (.cells #[.slice b1 k1 d1, .slice b2 k2 d2] 83) := ⟨_, rfl⟩
        have hb2 : Below wr.heap.size wr w2 := by rw [hw2]; exact (Below.refl _ _).alloc (Nat.le_refl _) _
        have HV2 := Lib.hid (HVm.out.on hb2)
        have HB2 := Lib.hid (HBr.out.trans (hb2.mono HBr.out.size))
        clear hb2 hq
        go_upto_region 6 with fail
        rw [← hw2]
        clear hw2 hlv
        go_wp2_with fail
        go_roundg (cl - (i + 1))
        case measure => omega
        case rel => exact ⟨i + 1, c, fv, by omega, rfl, by go_num, by omega, HV2, HB2⟩
      | none =>
      rw [hq] at hlv
      simp only [Option.getD_none, Option.isSome_none] at hlv
      clear hq
      obtain ⟨w2, hw2⟩ : ∃ w2, w2 = wr.alloc (.cells #[.slice none 0 0, .slice none 0 0] 83) := ⟨_, rfl⟩
      have hb2 : Below wr.heap.size wr w2 := by rw [hw2]; exact (Below.refl _ _).alloc (Nat.le_refl _) _
      have HV2 := Lib.hid (HVr.out.on hb2)
      have HB2 := Lib.hid hb2
      have HDR : Hid (Below wr.heap.size wr w2.drew) := hb2.trans ((Below.refl _ _).drew)
      have HSx : Hid (∀ V, V.heap[ma]? = wr.heap[ma]? → V.heap[mb]? = wr.heap[mb]? → (Instr.lookup 23 (.map (some ma)) (.string (bs x)) false).run Tryz.prog V = .ok A V ∧ (Instr.lookup 23 (.map (some mb)) (.string (bs x)) false).run Tryz.prog V = .ok N V) := fun V h1 h2 => ⟨HLA.out V h1, HLN.out V h2⟩
      have HS0 := Lib.hid (HSx.out _ (HDR.out.block ma hmlA) (HDR.out.block mb hmlr))
      have hmv : mb ≠ vb := by have := HF.out.m.lt; omega
      clear hb2
      go_upto_region 6 with fail
      rw [← hw2]
      clear hw2 hlv
      go_upto_region 7 with fail
      have HST : Hid (∀ W a1 k1 d1 a2 k2 d2, Below wr.heap.size wr W → SL W 0 (.slice a1 k1 d1) (syP F x) → SL W 0 (.slice a2 k2 d2) (syP G x) → ∃ w', (Instr.mapUpdate 75 (.map (some vb)) (.string (bs x)) (.agg #[.slice a1 k1 d1, .slice a2 k2 d2])).run Tryz.prog W = .ok () w' ∧ (VZ w' F G vb (c + 1) (updV fv x (.agg #[.slice a1 k1 d1, .slice a2 k2 d2])) (ch.take (i + 1)) ∧ Below w.heap.size w w') ∧ w'.heap[ma]? = wr.heap[ma]? ∧ w'.heap[mb]? = wr.heap[mb]?) := fun W a1 k1 d1 a2 k2 d2 hW s1 s2 => by
        have hVW := (HVr.out.on hW)
        obtain ⟨w', u1, q1, q2, _⟩ := hVW.m.storeL (t := 75) Tryz.underlying75 (by omega) x HXL.out (.agg #[.slice a1 k1 d1, .slice a2 k2 d2])
        refine ⟨w', u1, ⟨?_, (HBr.out.trans (hW.mono HBr.out.size)).trans (ext_below q2 hvb1 (by have := HBr.out.size; have := hW.size; omega))⟩, (q2.block ma (by have := hW.size; omega) hmA1).trans (hW.block ma hmlA), (q2.block mb (by have := hW.size; omega) hmv).trans (hW.block mb hmlr)⟩
        rw [HTK.out]
        exact hVW.put s1 s2 q1 q2
      go_region_held3 (fun V => (Instr.lookup 23 (.map (some ma)) (.string (bs x)) false).run Tryz.prog V = .ok A V ∧ (Instr.lookup 23 (.map (some mb)) (.string (bs x)) false).run Tryz.prog V = .ok N V) (with_reducible (first | exact HS5.out | exact HS4.out | exact HS3.out | exact HS0.out)) (first
        | (have _g := HMN; go_at_call 47; refine (HOA.out _ HB3.out).mono ?_; rintro e w4 ⟨a4, k4, d4, rfl, hb34, hs4⟩; have hb4 : Below wr.heap.size wr w4 := HB3.out.trans (hb34.mono HB3.out.size); have HB4 := Lib.hid hb4; have HS4 := Lib.hid (HSx.out w4 (hb4.block ma hmlA) (hb4.block mb hmlr)); obtain ⟨w5, u5, r5, m5, m6⟩ := HST.out w4 a4 k4 d4 a3 k3 d3 hb4 hs4 (HT3.out.on hb34); have HR5 := Lib.hid r5; have HS5 := Lib.hid (HSx.out w5 m5 m6); clear hb34 hb4 hs4 r5 m5 m6)
        | (have _g := HMA; go_at_call 47; refine (HON.out _ HB3.out).mono ?_; rintro e w4 ⟨a4, k4, d4, rfl, hb34, hs4⟩; have hb4 : Below wr.heap.size wr w4 := HB3.out.trans (hb34.mono HB3.out.size); have HB4 := Lib.hid hb4; have HS4 := Lib.hid (HSx.out w4 (hb4.block ma hmlA) (hb4.block mb hmlr)); obtain ⟨w5, u5, r5, m5, m6⟩ := HST.out w4 a3 k3 d3 a4 k4 d4 hb4 (HT3.out.on hb34) hs4; have HR5 := Lib.hid r5; have HS5 := Lib.hid (HSx.out w5 m5 m6); clear hb34 hb4 hs4 r5 m5 m6)
        | (go_at_call 47; refine (HOA.out _ HDR.out).mono ?_; rintro e w3 ⟨a3, k3, d3, rfl, hb23, hs3⟩; have hb3 : Below wr.heap.size wr w3 := HDR.out.trans (hb23.mono HDR.out.size); have HB3 := Lib.hid hb3; have HS3 := Lib.hid (HSx.out w3 (hb3.block ma hmlA) (hb3.block mb hmlr)); have HT3 := Lib.hid hs3; have HMA : Hid True := trivial; clear hb23 hb3 hs3)
        | (go_at_call 47; refine (HON.out _ HDR.out).mono ?_; rintro e w3 ⟨a3, k3, d3, rfl, hb23, hs3⟩; have hb3 : Below wr.heap.size wr w3 := HDR.out.trans (hb23.mono HDR.out.size); have HB3 := Lib.hid hb3; have HS3 := Lib.hid (HSx.out w3 (hb3.block ma hmlA) (hb3.block mb hmlr)); have HT3 := Lib.hid hs3; have HMN : Hid True := trivial; clear hb23 hb3 hs3))
      all_goals
        clear u5
        go_wp2_with fail
        go_roundg (cl - (i + 1))
        case measure => omega
        case rel => exact ⟨i + 1, c + 1, _, by omega, rfl, by go_num, by omega, HR5.out.1, HR5.out.2⟩
    · have hlt' : ¬ (i : Int) < (cl : Int) := by omega
      have HVe : Hid (VZ wr F G vb c fv ch) := by
        have := HVr.out
        rw [List.take_of_length_le (by have := HCQ.out; omega)] at this
        exact this
      go_wp2_with fail
      go_ret
      exact ⟨vb, c, fv, rfl, hvb1, by have := HCQ.out; omega, HVe.out, HBr.out⟩
end Go.Proofs.YtfcdphgggdioeaaGreatDoor
/- Chapter 9: what others saw and see differs; who uses what is otherwise. -/
namespace Go.Proofs.YtfcdphgggdioeaaGreatDoor
open Go.RowKit Go.Maps
open Tp (Bs Sy)
/- what m uses of k -/
def usP (m : Tp.M) (k : Bs) : List Bs := Lib.compact (sK (Tp.usedR m k))
/- whether that is needed otherwise -/
def difP (F G : Bs → Option Tp.M) (m : Tp.M) (k : Bs) : Bool := !decide (Tp.needsS (syP F k) (usP m k) = Tp.needsS (syP G k) (usP m k))
theorem syP_less {F : Bs → Option Tp.M} (h : ∀ x m, F x = some m → Tp.WM m) (x : Bs) : AllSmall (syP F x) ∧ (syP F x).length ≤ 1000 := by
  unfold syP
  cases hx : F x with
  | none => exact ⟨fun s hs => (by cases hs), Nat.zero_le _⟩
  | some m => exact ⟨ofS_small (h x m hx), ofS_len (h x m hx).gc (h x m hx).pc⟩
theorem usP_len {m : Tp.M} (hm : Tp.WM m) {k z : Bs} (hz : z ∈ usP m k) : z.length ≤ 100 := by
  unfold usP at hz
  rw [mem_compact, sK_mem] at hz
  have := Tp.okn_len (Tp.used_okn hm hz)
  omega
theorem usP_many {m : Tp.M} (hm : Tp.WM m) (hn : Tp.nM m ≤ 1000) (k : Bs) : (usP m k).length ≤ 9000 := by
  have h1 := compact_len (sK (Tp.usedR m k))
  rw [sK_len] at h1
  have h2 : (Tp.usedR m k).length ≤ (Tp.allR m).length := by unfold Tp.usedR; rw [List.length_map]; exact List.length_filter_le _ _
  have h3 := Tp.allR_count hm
  unfold usP
  omega
set_option maxRecDepth 100000 in
set_option maxHeartbeats 2000000 in
theorem differsX_post {w : World} {a1 a2 na : Option Addr} {n1 n2 c1 c2 nc : Nat} {l k : List Sy} (h1 : SL w 0 (.slice a1 n1 c1) l) (h2 : SL w 0 (.slice a2 n2 c2) k) (hs : AllSmall l) (hl : l.length ≤ 1000) (hs2 : AllSmall k) (hl2 : k.length ≤ 1000) {ns : List Bs} (hns : StrsAt w ns na) (hnl : ∀ n ∈ ns, n.length ≤ 100) (hnn : ns.length ≤ 9000) :
    Calls Tryz.prog 32 #[.agg #[.slice a1 n1 c1, .slice a2 n2 c2], .slice na ns.length nc] w fun e w' => e = .returned (.bool (!decide (Tp.needsS l ns = Tp.needsS k ns))) ∧ Below w.heap.size w w' := by
  obtain ⟨w1, hw1⟩ : ∃ w1, w1 = w.alloc (.cells #[.slice a1 n1 c1, .slice a2 n2 c2] 83) := ⟨_, rfl⟩
  have hb1 : Below w.heap.size w w1 := by rw [hw1]; exact (Below.refl _ _).alloc (Nat.le_refl _) _
  have hk1 : w1.heap[w.heap.size]? = some (.cells #[.slice a1 n1 c1, .slice a2 n2 c2] 83 (0, 0)) := by rw [hw1]; exact new_blk _ _
  have hl1 := lt_blk hk1
  have HN1 : Hid (∀ W, Below w1.heap.size w1 W → Calls Tryz.prog 50 #[.slice a1 n1 c1, .slice na ns.length nc] W fun e w' => e = .returned (.string (bs (Tp.needsS l ns))) ∧ Below w1.heap.size w1 w') := fun W hW => by
    have hW' : Below w.heap.size w W := hb1.trans (hW.mono hb1.size)
    exact (needs_post (nc := nc) (h1.on hW') hs hl (hns.on hW') hnl hnn).mono (fun e w' q => ⟨q.1, hW.trans (q.2.mono hW.size)⟩)
  have HN2 : Hid (∀ W, Below w1.heap.size w1 W → Calls Tryz.prog 50 #[.slice a2 n2 c2, .slice na ns.length nc] W fun e w' => e = .returned (.string (bs (Tp.needsS k ns))) ∧ Below w1.heap.size w1 w') := fun W hW => by
    have hW' : Below w.heap.size w W := hb1.trans (hW.mono hb1.size)
    exact (needs_post (nc := nc) (h2.on hW') hs2 hl2 (hns.on hW') hnl hnn).mono (fun e w' q => ⟨q.1, hW.trans (q.2.mono hW.size)⟩)
  have HSx : Hid (∀ V, Below w1.heap.size w1 V → V.cell? ⟨w.heap.size, 0, none⟩ = some (.slice a1 n1 c1) ∧ V.cell? ⟨w.heap.size, 1, none⟩ = some (.slice a2 n2 c2)) := fun V hV => by
    have := (hV.block _ hl1).trans hk1
    exact ⟨(cell_blk this).trans rfl, (cell_blk this).trans rfl⟩
  have HB1 := Lib.hid hb1
  have HDR : Hid (Below w1.heap.size w1 w1.drew) := (Below.refl _ _).drew
  have HS0 : Hid (w1.drew.cell? ⟨w.heap.size, 0, none⟩ = some (.slice a1 n1 c1) ∧ w1.drew.cell? ⟨w.heap.size, 1, none⟩ = some (.slice a2 n2 c2)) := HSx.out _ HDR.out
  have hq := bs_eq (Tp.needsS l ns) (Tp.needsS k ns)
  generalize decide (Tp.needsS l ns = Tp.needsS k ns) = dd at *
  generalize bs (Tp.needsS l ns) = tx at *
  generalize bs (Tp.needsS k ns) = ty at *
  generalize ns.length = nl at *
  obtain ⟨bb, hbb⟩ : ∃ bb, bb = w.heap.size := ⟨_, rfl⟩
  rw [← hbb] at HSx HS0
  clear h1 h2 hs hl hs2 hl2 hns hnl hnn hk1 hb1 hl1
  go_enter Tryz.func32, Tryz.ntmps32
  go_upto_region 1 with fail
  rw [← hw1, ← hbb]
  clear hw1 hbb
  go_region_held3 (fun w' => w'.cell? ⟨bb, 0, none⟩ = some (.slice a1 n1 c1) ∧ w'.cell? ⟨bb, 1, none⟩ = some (.slice a2 n2 c2)) (with_reducible (first | exact HS4.out | exact HS3.out | exact HS0.out)) (first
    | (have _g := HM1; go_at_call 50; refine (HN2.out _ HB3.out).mono ?_; rintro e w4 ⟨rfl, hb4⟩; have HB4 := Lib.hid hb4; have HS4 := Lib.hid (HSx.out w4 hb4); clear hb4)
    | (have _g := HM2; go_at_call 50; refine (HN1.out _ HB3.out).mono ?_; rintro e w4 ⟨rfl, hb4⟩; have HB4 := Lib.hid hb4; have HS4 := Lib.hid (HSx.out w4 hb4); clear hb4)
    | (go_at_call 50; refine (HN1.out _ HDR.out).mono ?_; rintro e w3 ⟨rfl, hb3⟩; have HB3 := Lib.hid hb3; have HS3 := Lib.hid (HSx.out w3 hb3); have HM1 : Hid True := trivial; clear hb3)
    | (go_at_call 50; refine (HN2.out _ HDR.out).mono ?_; rintro e w3 ⟨rfl, hb3⟩; have HB3 := Lib.hid hb3; have HS3 := Lib.hid (HSx.out w3 hb3); have HM2 : Hid True := trivial; clear hb3))
  all_goals
    go_wp2_with fail
    go_ret
    exact ⟨by first | rfl | (rw [← hq]; rfl) | simp [← hq, bne], HB1.out.trans (HB4.out.mono HB1.out.size)⟩
set_option maxRecDepth 100000 in
set_option maxHeartbeats 4000000 in
theorem otherX_post {w : World} {F G : Bs → Option Tp.M} (hFw : ∀ x m, F x = some m → Tp.WM m) (hGw : ∀ x m, G x = some m → Tp.WM m) {pv pm vb n : Nat} {fv : Bs → Option Value} {ch : List Bs} {m : Tp.M} {ia ga pa ba : Option Addr} {ic gc pc bc : Nat} (hV : VZ w F G vb n fv ch) (h1 : w.cell? ⟨pv, 0, none⟩ = some (.map (some vb))) (hm : MBk w pm m ia ga pa ba ic gc pc bc) (hwm : Tp.WM m) (hnm : Tp.nM m ≤ 1000) (y : Bs) (hy : y.length ≤ 1000000) :
    Calls Tryz.prog 31 #[.string (bs y), .pointer (some ⟨pv, 0, none⟩), .pointer (some ⟨pm, 0, none⟩)] w fun e w' => e = .returned (.bool (decide (y ∈ ch) && difP F G m y)) ∧ Below w.heap.size w w' := by
  have hlv := hV.m.look (t := 75) Tryz.underlying75 (zeroView w) y hy true
  simp only [if_true] at hlv
  have hl1 := lt_of_cell h1
  cases hq : fv y with
  | none =>
    have hny : y ∉ ch := fun z => by have := (hV.key y).2 z; rw [hq] at this; cases this
    rw [decide_eq_false hny, Bool.false_and]
    clear hny
    rw [hq] at hlv
    simp only [Option.getD_none, Option.isSome_none] at hlv
    obtain ⟨w1, hw1⟩ : ∃ w1, w1 = w.alloc (.cells #[.slice none 0 0, .slice none 0 0] 83) := ⟨_, rfl⟩
    have hb1 : Below w.heap.size w w1 := by rw [hw1]; exact (Below.refl _ _).alloc (Nat.le_refl _) _
    have HB1 := Lib.hid hb1
    clear hV hm hq hb1 hFw hGw
    go_enter Tryz.func31, Tryz.ntmps31
    go_upto_region 2 with fail
    rw [← hw1]
    clear hw1 hlv h1
    go_quiet (fail)
    have HBq : Hid (Below w.heap.size w (w1.drewN nq)) := below_drewN HB1.out _
    go_wp2_with fail
    go_ret
    exact ⟨rfl, HBq.out⟩
  | some v =>
    obtain ⟨a1, n1, c1, a2, n2, c2, rfl, s1, s2⟩ := hV.val y v hq
    have hyc : y ∈ ch := (hV.key y).1 (by rw [hq]; rfl)
    rw [decide_eq_true hyc, Bool.true_and]
    obtain ⟨s3, s4⟩ := syP_less hFw y
    obtain ⟨s5, s6⟩ := syP_less hGw y
    clear hyc
    rw [hq] at hlv
    simp only [Option.getD_some, Option.isSome_some] at hlv
    obtain ⟨w1, hw1⟩ : ∃ w1, w1 = w.alloc (.cells #[.slice a1 n1 c1, .slice a2 n2 c2] 83) := ⟨_, rfl⟩
    have hb1 : Below w.heap.size w w1 := by rw [hw1]; exact (Below.refl _ _).alloc (Nat.le_refl _) _
    have hk1 : w1.heap[w.heap.size]? = some (.cells #[.slice a1 n1 c1, .slice a2 n2 c2] 83 (0, 0)) := by rw [hw1]; exact new_blk _ _
    have hl2 := lt_blk hk1
    have HM1 := Lib.hid (hm.on hb1)
    have HB1 := Lib.hid hb1
    have hct : (Tp.allR m).length ≤ 1000 := by have := Tp.allR_count hwm; omega
    have HUS : Hid (Calls Tryz.prog 33 #[.agg #[.string (bs m.name), .slice ia m.imports.length ic, .slice ga m.vars.length gc, .slice pa m.procs.length pc, .slice ba m.body.length bc], .string (bs y)] w1.drew fun e w' => ∃ (a : Option Addr) (c : Nat) (ul : List Bs), e = .returned (.slice a ul.length c) ∧ Below w1.heap.size w1 w' ∧ ∀ W, Below w'.heap.size w' W → Calls Tryz.prog 32 #[.agg #[.slice a1 n1 c1, .slice a2 n2 c2], .slice a ul.length c] W fun e w'' => e = .returned (.bool (difP F G m y)) ∧ Below W.heap.size W w'') := by
      have hdr : Below w1.heap.size w1 w1.drew := (Below.refl _ _).drew
      refine (usedE_post (by have := hwm.pc; omega) (by omega) (HM1.out.on hdr).mb y).mono ?_
      rintro e w' ⟨a, c, rfl, hst, hb⟩
      have hbw : Below w1.heap.size w1 w' := hdr.trans hb
      refine ⟨a, c, _, rfl, hbw, fun W hW => ?_⟩
      have hbW : Below w.heap.size w W := (hb1.trans (hbw.mono hb1.size)).trans (hW.mono (by have := hb1.size; have := hbw.size; omega))
      exact differsX_post (s1.on hbW) (s2.on hbW) s3 s4 s5 s6 (hst.on hW) (fun z hz => usP_len hwm hz) (usP_many hwm hnm y)
    have HSx : Hid (∀ V, Below w1.heap.size w1 V → V.cell? ⟨w.heap.size, 0, none⟩ = some (.slice a1 n1 c1) ∧ V.cell? ⟨w.heap.size, 1, none⟩ = some (.slice a2 n2 c2) ∧ V.cell? ⟨pm, 0, none⟩ = some (.string (bs m.name)) ∧ V.cell? ⟨pm, 1, none⟩ = some (.slice ia m.imports.length ic) ∧ V.cell? ⟨pm, 2, none⟩ = some (.slice ga m.vars.length gc) ∧ V.cell? ⟨pm, 3, none⟩ = some (.slice pa m.procs.length pc) ∧ V.cell? ⟨pm, 4, none⟩ = some (.slice ba m.body.length bc)) := fun V hV => by
      have q1 := (hV.block _ hl2).trans hk1
      obtain ⟨d0, d1, d2, d3, d4, _⟩ := (HM1.out.on hV).cells
      exact ⟨(cell_blk q1).trans rfl, (cell_blk q1).trans rfl, d0, d1, d2, d3, d4⟩
    have HS0 := Lib.hid (HSx.out _ ((Below.refl _ _).drew))
    obtain ⟨bv, hbv⟩ : ∃ bv, bv = w.heap.size := ⟨_, rfl⟩
    rw [← hbv] at HSx HS0
    obtain ⟨dq, hdq⟩ : ∃ dq, dq = difP F G m y := ⟨_, rfl⟩
    rw [← hdq] at HUS ⊢
    clear hdq
    generalize bs m.name = mn at *
    generalize m.imports.length = il at *
    generalize m.vars.length = gl at *
    generalize m.procs.length = pl at *
    generalize m.body.length = bl at *
    clear hV hm hq hb1 hk1 s1 s2 s3 s4 s5 s6 hl2 hct hFw hGw hwm hnm
    go_enter Tryz.func31, Tryz.ntmps31
    go_upto_region 2 with fail
    rw [← hw1, ← hbv]
    clear hw1 hlv h1 hbv
    go_region_held3 (fun V => V.cell? ⟨bv, 0, none⟩ = some (.slice a1 n1 c1) ∧ V.cell? ⟨bv, 1, none⟩ = some (.slice a2 n2 c2) ∧ V.cell? ⟨pm, 0, none⟩ = some (.string mn) ∧ V.cell? ⟨pm, 1, none⟩ = some (.slice ia il ic) ∧ V.cell? ⟨pm, 2, none⟩ = some (.slice ga gl gc) ∧ V.cell? ⟨pm, 3, none⟩ = some (.slice pa pl pc) ∧ V.cell? ⟨pm, 4, none⟩ = some (.slice ba bl bc)) (with_reducible (first | exact HS4.out | exact HS3.out | exact HS0.out)) (first | (go_at_call 32; refine (HDI.out _ (Below.refl _ _)).mono ?_; rintro e w4 ⟨rfl, hb4⟩; have HB4 : Hid (Below w1.heap.size w1 w4) := HB3.out.trans (hb4.mono HB3.out.size); have HS4 := Lib.hid (HSx.out w4 HB4.out); clear hb4) | (go_at_call 33; refine HUS.out.mono ?_; rintro e w3 ⟨ua, uc, ul, rfl, hb3, hdi⟩; have HB3 := Lib.hid hb3; have HDI := Lib.hid hdi; have HS3 := Lib.hid (HSx.out w3 hb3); clear hb3 hdi))
    all_goals
      go_wp2_with fail
      go_ret
      exact ⟨by first | rfl | simp, HB1.out.trans (HB4.out.mono HB1.out.size)⟩
end Go.Proofs.YtfcdphgggdioeaaGreatDoor
/- Chapter 9: Stale, walked: of any two maps, of whatever names. -/
namespace Go.Proofs.YtfcdphgggdioeaaGreatDoor
open Go.RowKit Go.Maps
open Tp (Bs Sy)
/- whether x must be built anew -/
def stP (F G : Bs → Option Tp.M) (ch : List Bs) (x : Bs) : Bool := match G x with
  | some m => decide (x ∈ ch) || m.imports.any fun k => decide (k ∈ ch) && difP F G m k
  | none => decide (x ∈ ch)
theorem stP_some {F G : Bs → Option Tp.M} {ch : List Bs} {x : Bs} {m : Tp.M} (h : G x = some m) : stP F G ch x = (decide (x ∈ ch) || m.imports.any fun k => decide (k ∈ ch) && difP F G m k) := by unfold stP; rw [h]
def stX (F G : Bs → Option Tp.M) (K ch : List Bs) (i : Nat) : List Bs := ((sK K).take i).filter (stP F G ch)
theorem stX_in {F G : Bs → Option Tp.M} {K ch : List Bs} {i : Nat} (h : i < (sK K).length) (hx : stP F G ch (sK K)[i] = true) : stX F G K ch (i + 1) = stX F G K ch i ++ [(sK K)[i]] := by
  unfold stX
  rw [List.take_succ_eq_append_getElem h, List.filter_append]
  simp [hx]
theorem stX_out {F G : Bs → Option Tp.M} {K ch : List Bs} {i : Nat} (h : i < (sK K).length) (hx : stP F G ch (sK K)[i] = false) : stX F G K ch (i + 1) = stX F G K ch i := by
  unfold stX
  rw [List.take_succ_eq_append_getElem h, List.filter_append]
  simp [hx]
theorem stX_len (F G : Bs → Option Tp.M) (K ch : List Bs) (i : Nat) : (stX F G K ch i).length ≤ K.length := by
  unfold stX
  have h1 := List.length_filter_le (stP F G ch) ((sK K).take i)
  rw [List.length_take, sK_len] at h1
  omega
theorem modF_wm {w : World} {mb n : Nat} {f : Bs → Option Value} {F : Bs → Option Tp.M} (h : ModF w mb n f F) : ∀ x m, F x = some m → Tp.WM m := fun x m hx => by
  obtain ⟨_, _, _, _, _, _, _, _, _, _, h2⟩ := h.is x m hx
  exact h2.wm
set_option maxRecDepth 100000 in
set_option maxHeartbeats 4000000 in
theorem staleX_post {w : World} {ma mb na n : Nat} {fa f : Bs → Option Value} {F G : Bs → Option Tp.M} {K : List Bs} (hA : ModF w ma na fa F) (hF : ModF w mb n f G) (hM : Mods w mb n f K (imF G)) (hKF : ∀ x, x ∈ K ↔ (G x).isSome = true) {ch : List Bs} {ca : Option Addr} {cc : Nat} (hS : StrsAt w ch ca) (hch : ∀ x ∈ ch, x.length ≤ 9223372036854775807) (hcl : ch.length ≤ 100) :
    Calls Tryz.prog 9 #[.map (some ma), .map (some mb), .slice ca ch.length cc] w (StaleP w (stX F G K ch K.length)) := by
  have hn100 := hM.n
  have HVP := Lib.hid (viewsX_post (cc := cc) hA hF hS hch hcl)
  have HF := Lib.hid hF
  have HM := Lib.hid hM
  have HKF := Lib.hid hKF
  have HFW := Lib.hid (modF_wm hA)
  have HGW := Lib.hid (modF_wm hF)
  obtain ⟨cl, hcq⟩ : ∃ cl, cl = ch.length := ⟨_, rfl⟩
  rw [← hcq] at HVP ⊢
  obtain ⟨i1, hi, hz0, hz1, hz2⟩ := info_parts Tryz.infoString'
  clear hA hF hM hKF hS hch hcq
  go_enter Tryz.func9, Tryz.ntmps9
  go_wp2_with fail
  refine HVP.out.mono ?_
  rintro e w1 ⟨vb, vn, fv, rfl, hvb, hvn, hVW, hb1⟩
  obtain ⟨w2, hw2⟩ : ∃ w2, w2 = w1.alloc (.cells #[.map (some vb)] 75) := ⟨_, rfl⟩
  have hb12 : Below w1.heap.size w1 w2 := by rw [hw2]; exact (Below.refl _ _).alloc (Nat.le_refl _) _
  have hk2 : w2.heap[w1.heap.size]? = some (.cells #[.map (some vb)] 75 (0, 0)) := by rw [hw2]; exact new_blk _ _
  have hb2 : Below w.heap.size w w2 := hb1.trans (hb12.mono hb1.size)
  have HV2 := Lib.hid (hVW.on hb12)
  have HF2 := Lib.hid (HF.out.on hb2)
  have HM2 := Lib.hid (HM.out.on hb2)
  have HB2 := Lib.hid hb2
  obtain ⟨pv, hpv⟩ : ∃ pv, pv = w1.heap.size := ⟨_, rfl⟩
  rw [← hpv] at hk2
  have HK2 := Lib.hid hk2
  have HSO := Lib.hid (sortedC HM2.out)
  clear hVW hb1 hb12 hk2 hb2 HVP
  go_upto_region 2 with fail
  rw [← hw2, ← hpv]
  clear hw2 hpv
  go_wp2_with fail
  refine (keysC _ _).mono ?_
  rintro e w3 ⟨rfl, rfl⟩
  go_wp2_with fail
  refine HSO.out.mono ?_
  rintro e w4 ⟨sa, sc, rfl, how, hb4⟩
  have HV4 := Lib.hid (HV2.out.on hb4)
  have HF4 := Lib.hid (HF2.out.on hb4)
  have HM4 := Lib.hid (HM2.out.on hb4)
  have HK4 : Hid (w4.heap[pv]? = some (.cells #[.map (some vb)] 75 (0, 0))) := (hb4.block pv (lt_blk HK2.out)).trans HK2.out
  have HB4 : Hid (Below w.heap.size w w4) := HB2.out.trans (hb4.mono HB2.out.size)
  have HST : Hid (StrsAt w4 (sK K) sa) := by
    have := own_strsAt (l := sK K) (by rw [sK_len]; exact how)
    exact this
  obtain ⟨kl, hkl⟩ : ∃ kl, kl = K.length := ⟨_, rfl⟩
  rw [← hkl] at hn100 ⊢
  have HKL := Lib.hid hkl
  have hkl' : (kl : Int) ≤ 100 := by omega
  clear how hb4 HV2 HF2 HM2 HK2 HSO hkl
  go_wp2_with fail
  go_loopg [8, 23] kl (fun k v8 v23 wr => ∃ (i : Nat) (ta : Option Addr) (tc : Nat), i ≤ kl ∧ k = kl - i ∧ v23 = .int .i64 (i : Int) ∧ v8 = .slice ta (stX F G K ch i).length tc ∧ Hid (wr.ownsRow w4.heap.size 9 1 (.slice ta (stX F G K ch i).length tc) (stX F G K ch i).length (strs (stX F G K ch i))) ∧ Hid (Below w4.heap.size w4 wr))
  case atStart => exact ⟨0, none, 0, by omega, by omega, rfl, by simp [stX], by show World.ownsRow _ _ _ _ _ _ _; simp only [stX, List.take_zero, List.filter_nil, List.length_nil]; exact World.ownsRow_nil _ _ _ _, Below.refl _ _⟩
  case round =>
    obtain ⟨i, ta, tc, hid, hk, rfl, rfl, HRw, HBr⟩ := hrel
    have hsr := HBr.out.size
    by_cases hlt : i < kl
    · have hlt' : (i : Int) < (kl : Int) := by omega
      have hi0 : ¬ (i : Int) < 0 := by omega
      have hik : i < (sK K).length := by rw [sK_len]; have := HKL.out; omega
      obtain ⟨g, o, hga, hgl, hcell⟩ := (HST.out.on HBr.out).c i hik
      subst hga
      have hxK : (sK K)[i] ∈ K := sK_mem.1 (List.getElem_mem hik)
      obtain ⟨m, hm⟩ := Option.isSome_iff_exists.1 ((HKF.out _).1 hxK)
      have hFr := HF4.out.on HBr.out
      obtain ⟨v, ia, ga, pa, ba, ic, gc, pc, bc, e1, e2⟩ := hFr.is _ m hm
      have hxl : (sK K)[i].length ≤ 1000000 := by rw [← e2.k]; have := Tp.okn_len e2.wm.n; omega
      have hlk := hFr.m.look (t := 23) Tryz.underlying23 (zeroMod' wr) (sK K)[i] hxl false
      simp only [Bool.false_eq_true, if_false] at hlk
      rw [e1, Option.getD_some, e2.v] at hlk
      have HIN : Hid (stP F G ch (sK K)[i] = true → stX F G K ch (i + 1) = stX F G K ch i ++ [(sK K)[i]]) := fun q => stX_in hik q
      have HOUT : Hid (stP F G ch (sK K)[i] = false → stX F G K ch (i + 1) = stX F G K ch i) := fun q => stX_out hik q
      have HSP := Lib.hid (stP_some (F := F) (ch := ch) hm)
      have hsl := stX_len F G K ch i
      generalize (sK K)[i] = x at *
      obtain ⟨w5, hw5⟩ : ∃ w5, w5 = wr.alloc (.cells (mcells (bs m.name) (.slice ia m.imports.length ic) (.slice ga m.vars.length gc) (.slice pa m.procs.length pc) (.slice ba m.body.length bc)) 28) := ⟨_, rfl⟩
      have hb5 : Below wr.heap.size wr w5 := by rw [hw5]; exact (Below.refl _ _).alloc (Nat.le_refl _) _
      have hMB5 : MBk w5 wr.heap.size m ia ga pa ba ic gc pc bc := ⟨by rw [hw5]; exact new_blk _ _, e2.md.mono (fun b _ hl => ⟨hb5.block b hl, by have := hb5.size; omega⟩)⟩
      have hb45 : Below w4.heap.size w4 w5 := HBr.out.trans (hb5.mono hsr)
      have hV5 := HV4.out.on hb45
      have c5 : w5.cell? ⟨pv, 0, none⟩ = some (.map (some vb)) := (cell_blk ((hb45.block pv (lt_blk HK4.out)).trans HK4.out)).trans rfl
      have l5 := lt_of_cell c5
      have hlv := hV5.m.look (t := 75) Tryz.underlying75 (zeroView w5) x hxl true
      simp only [if_true] at hlv
      have HWM := Lib.hid e2.wm
      have HNM := Lib.hid e2.nm
      obtain ⟨pm, hpm⟩ : ∃ pm, pm = wr.heap.size := ⟨_, rfl⟩
      rw [← hpm] at hMB5
      have HIML : Hid (∀ y ∈ m.imports, y.length ≤ 1000000) := fun y hy => by have := Tp.okn_len (e2.wm.i y hy); omega
      obtain ⟨sn, hsn⟩ : ∃ sn, sn = (stX F G K ch i).length := ⟨_, rfl⟩
      have HSN := Lib.hid hsn
      rw [← hsn] at hsl HRw ⊢
      have hmf : ∀ (fn : Fn) (first cap : Array Value) (w : World), (Instr.makeFunc fn first cap).run Tryz.prog w = .ok (.func fn first cap) w := fun _ _ _ _ => rfl
      by_cases hxc : x ∈ ch
      · obtain ⟨vv, hvv⟩ := Option.isSome_iff_exists.1 ((hV5.key x).2 hxc)
        obtain ⟨a1, n1, c1, a2, n2, c2, rfl, _, _⟩ := hV5.val x vv hvv
        rw [hvv] at hlv
        simp only [Option.getD_some, Option.isSome_some] at hlv
        obtain ⟨w6, hw6⟩ : ∃ w6, w6 = w5.alloc (.cells #[.slice a1 n1 c1, .slice a2 n2 c2] 83) := ⟨_, rfl⟩
        have hb6 : Below w5.heap.size w5 w6 := by rw [hw6]; exact (Below.refl _ _).alloc (Nat.le_refl _) _
        have hb46 : Below w4.heap.size w4 w6 := hb45.trans (hb6.mono (by have := hb45.size; omega))
        have hbr6 : Below wr.heap.size wr w6 := hb5.trans (hb6.mono hb5.size)
        obtain ⟨w7, hw7⟩ : ∃ w7, w7 = w6.alloc (.cells #[.string (bs x)] 9) := ⟨_, rfl⟩
        have hb7 : Below w6.heap.size w6 w7 := by rw [hw7]; exact (Below.refl _ _).alloc (Nat.le_refl _) _
        have hk7 : w7.heap[w6.heap.size]? = some (.cells #[.string (bs x)] 9 (0, 0)) := by rw [hw7]; exact new_blk _ _
        have hbr7 : Below wr.heap.size wr w7 := hbr6.trans (hb7.mono hbr6.size)
        have HROW : Hid (w7.ownsRow w4.heap.size 9 1 (.slice ta sn tc) sn (strs (stX F G K ch i))) := owns_keep HRw.out (fun b _ hl _ => hbr7.block b hl)
        have HNEWS : Hid (∀ j u, [Value.string (bs x)][j]? = some u → w7.cell? ((⟨w6.heap.size, 0, none⟩ : Addr).add j) = some u) := fun j u hj => by
          rw [Addr.add_lit]
          cases j with
          | zero => simp at hj; subst hj; exact (cell_blk hk7).trans rfl
          | succ j => simp at hj
        have HB47 : Hid (Below w4.heap.size w4 w7) := HBr.out.trans (hbr7.mono hsr)
        have hs7 := HB47.out.size
        have HE := Lib.hid (HIN.out (by rw [HSP.out, decide_eq_true hxc]; rfl))
        have hsn9 : sn ≤ 100 := by have := HKL.out; omega
        unfold mcells at hw5 hlk
        clear hFr e1 e2 hb5 hMB5 hb45 hV5 hvv hb6 hb46 hbr6 hb7 hk7 hbr7 HIN HOUT HIML HWM HNM hsn
        go_upto_region 7 with fail
        rw [← hw5, ← hpm]
        clear hw5 hpm hlk
        go_upto_region 9 with fail
        rw [← hw6]
        clear hw6 hlv c5 l5
        rw [hw7] at HROW HNEWS
        go_wp2_with (at_builtin; refine wpList_append_where _ rfl _ _ 22 rfl w4.heap.size 9 i1 (.string ⟨#[]⟩) 1 16 Tryz.underlying22 hi hz0 hz1 hz2 rfl (by decide) _ sn _ rfl HROW.out ⟨w6.heap.size, 0, none⟩ 1 1 [.string (bs x)] rfl rfl HNEWS.out (by intro u hu; simp at hu; subst hu; rfl) (by unfold maxLen; omega) (by omega) (by rw [← hw7]; omega) ?_)
        rw [← hw7]
        intro v8 w8 h8 g8 _
        have HB8 : Hid (Below w4.heap.size w4 w8) := HB47.out.trans ((Below.refl _ _).grown g8 hs7 (fun k hk => by
          have := (HRw.out.lt k hk).1
          exact this))
        obtain ⟨ta', tc', hv8⟩ := owns_shape h8
        subst hv8
        have HR8 : Hid (w8.ownsRow w4.heap.size 9 1 (.slice ta' (stX F G K ch (i + 1)).length tc') (stX F G K ch (i + 1)).length (strs (stX F G K ch (i + 1)))) := by
          show World.ownsRow _ _ _ _ _ _ _
          rw [HE.out, List.length_append, List.length_singleton, ← strs_snoc', ← HSN.out]
          exact h8
        have HLn : Hid (sn + 1 = (stX F G K ch (i + 1)).length) := by show _ = _; rw [HE.out, List.length_append, List.length_singleton, ← HSN.out]
        clear h8 g8 HROW HNEWS hw7
        go_wp2_with fail
        go_roundg (kl - (i + 1))
        case measure => omega
        case rel => exact ⟨i + 1, ta', tc', by omega, rfl, by go_num, by rw [← HLn.out], HR8, HB8⟩
      · have hnv : fv x = none := by
          cases hq : fv x with
          | none => rfl
          | some u => exact absurd ((hV5.key x).1 (by rw [hq]; rfl)) hxc
        rw [hnv] at hlv
        simp only [Option.getD_none, Option.isSome_none] at hlv
        obtain ⟨w6, hw6⟩ : ∃ w6, w6 = w5.alloc (.cells #[.slice none 0 0, .slice none 0 0] 83) := ⟨_, rfl⟩
        have hb6 : Below w5.heap.size w5 w6 := by rw [hw6]; exact (Below.refl _ _).alloc (Nat.le_refl _) _
        have hV6 := hV5.on hb6
        have hM6 := hMB5.on hb6
        have c6 : w6.cell? ⟨pv, 0, none⟩ = some (.map (some vb)) := (hb6.cell (p := ⟨pv, 0, none⟩) l5).trans c5
        have l6 := lt_of_cell c6
        obtain ⟨_, k1, _, _, _, k5⟩ := hM6.cells
        have hSI : StrsAt w6 m.imports ia := (hM6.d.im).strsAt
        have hil6 := HWM.out.ic
        obtain ⟨dd, hdd⟩ : ∃ dd, dd = m.imports.any fun k => decide (k ∈ ch) && difP F G m k := ⟨_, rfl⟩
        have HCF : Hid (Calls Tryz.prog 34 #[.slice ia m.imports.length ic, .func (.func 31) #[] #[.pointer (some ⟨pv, 0, none⟩), .pointer (some ⟨pm, 0, none⟩)]] w6 fun e w' => e = .returned (.bool dd) ∧ Below w6.heap.size w6 w') := by
          have := containsF2 (cap := ic) (p := fun k => decide (k ∈ ch) && difP F G m k) (c1 := .pointer (some ⟨pv, 0, none⟩)) (c2 := .pointer (some ⟨pm, 0, none⟩)) hSI (by omega) other_cf (fun W y hy hW => otherX_post HFW.out HGW.out (hV6.on hW) ((hW.cell (p := ⟨pv, 0, none⟩) l6).trans c6) (hM6.on hW) HWM.out HNM.out y (HIML.out y hy))
          rw [← hdd] at this
          exact this
        have HDD : Hid (stP F G ch x = dd) := by
          show _ = _
          rw [HSP.out, decide_eq_false hxc, hdd]
          rfl
        clear hdd
        have HB46 : Hid (Below w4.heap.size w4 w6) := hb45.trans (hb6.mono (by have := hb45.size; omega))
        have hbr6 : Below wr.heap.size wr w6 := hb5.trans (hb6.mono hb5.size)
        have HR6 : Hid (w6.ownsRow w4.heap.size 9 1 (.slice ta sn tc) sn (strs (stX F G K ch i))) := owns_keep HRw.out (fun b _ hl _ => hbr6.block b hl)
        unfold mcells at hw5 hlk
        clear hFr e1 e2 hb5 hMB5 hb45 hV5 hnv hb6 hbr6 HIML HWM HNM hV6 hM6 hSI hsn c6 l6
        generalize m.imports.length = il at *
        go_upto_region 7 with fail
        rw [← hw5, ← hpm]
        clear hw5 hpm hlk
        go_upto_region 9 with fail
        rw [← hw6]
        clear hw6 hlv c5 l5
        go_wp2_with fail
        refine HCF.out.mono ?_
        rintro e w8 ⟨rfl, hb8⟩
        have HB8 : Hid (Below w4.heap.size w4 w8) := HB46.out.trans (hb8.mono HB46.out.size)
        have HR8a : Hid (w8.ownsRow w4.heap.size 9 1 (.slice ta sn tc) sn (strs (stX F G K ch i))) := owns_keep HR6.out (fun b _ hl _ => hb8.block b hl)
        cases dd with
        | false =>
          have HE := Lib.hid (HOUT.out HDD.out)
          have HR8 : Hid (w8.ownsRow w4.heap.size 9 1 (.slice ta (stX F G K ch (i + 1)).length tc) (stX F G K ch (i + 1)).length (strs (stX F G K ch (i + 1)))) := by
            show World.ownsRow _ _ _ _ _ _ _
            rw [HE.out, ← HSN.out]
            exact HR8a.out
          have HLn : Hid (sn = (stX F G K ch (i + 1)).length) := by show _ = _; rw [HE.out, ← HSN.out]
          clear hb8 HCF HR6 HR8a k1 k5 HIN HOUT
          go_wp2_with fail
          go_roundg (kl - (i + 1))
          case measure => omega
          case rel => exact ⟨i + 1, ta, tc, by omega, rfl, by go_num, by rw [← HLn.out], HR8, HB8⟩
        | true =>
          have HE := Lib.hid (HIN.out HDD.out)
          obtain ⟨w9, hw9⟩ : ∃ w9, w9 = w8.alloc (.cells #[.string (bs x)] 9) := ⟨_, rfl⟩
          have hb9 : Below w8.heap.size w8 w9 := by rw [hw9]; exact (Below.refl _ _).alloc (Nat.le_refl _) _
          have hk9 : w9.heap[w8.heap.size]? = some (.cells #[.string (bs x)] 9 (0, 0)) := by rw [hw9]; exact new_blk _ _
          have HROW : Hid (w9.ownsRow w4.heap.size 9 1 (.slice ta sn tc) sn (strs (stX F G K ch i))) := owns_keep HR8a.out (fun b _ hl _ => hb9.block b hl)
          have HNEWS : Hid (∀ j u, [Value.string (bs x)][j]? = some u → w9.cell? ((⟨w8.heap.size, 0, none⟩ : Addr).add j) = some u) := fun j u hj => by
            rw [Addr.add_lit]
            cases j with
            | zero => simp at hj; subst hj; exact (cell_blk hk9).trans rfl
            | succ j => simp at hj
          have HB9 : Hid (Below w4.heap.size w4 w9) := HB8.out.trans (hb9.mono HB8.out.size)
          have hs9 := HB9.out.size
          have HRW9 := HROW
          have hsn9 : sn ≤ 100 := by have := HKL.out; omega
          rw [hw9] at HROW HNEWS
          clear hb8 hb9 hk9 HCF HR6 HR8a k1 k5 HIN HOUT HB8
          go_wp2_with (at_builtin; refine wpList_append_where _ rfl _ _ 22 rfl w4.heap.size 9 i1 (.string ⟨#[]⟩) 1 16 Tryz.underlying22 hi hz0 hz1 hz2 rfl (by decide) _ sn _ rfl HROW.out ⟨w8.heap.size, 0, none⟩ 1 1 [.string (bs x)] rfl rfl HNEWS.out (by intro u hu; simp at hu; subst hu; rfl) (by unfold maxLen; omega) (by omega) (by rw [← hw9]; omega) ?_)
          rw [← hw9]
          intro v8 w10 h8 g8 _
          have HB10 : Hid (Below w4.heap.size w4 w10) := HB9.out.trans ((Below.refl _ _).grown g8 hs9 (fun k hk => (HRW9.out.lt k hk).1))
          obtain ⟨ta', tc', hv8⟩ := owns_shape h8
          subst hv8
          have HR8 : Hid (w10.ownsRow w4.heap.size 9 1 (.slice ta' (stX F G K ch (i + 1)).length tc') (stX F G K ch (i + 1)).length (strs (stX F G K ch (i + 1)))) := by
            show World.ownsRow _ _ _ _ _ _ _
            rw [HE.out, List.length_append, List.length_singleton, ← strs_snoc', ← HSN.out]
            exact h8
          have HLn : Hid (sn + 1 = (stX F G K ch (i + 1)).length) := by show _ = _; rw [HE.out, List.length_append, List.length_singleton, ← HSN.out]
          clear h8 g8 HROW HNEWS hw9
          go_wp2_with fail
          go_roundg (kl - (i + 1))
          case measure => omega
          case rel => exact ⟨i + 1, ta', tc', by omega, rfl, by go_num, by rw [← HLn.out], HR8, HB10⟩
    · have hlt' : ¬ (i : Int) < (kl : Int) := by omega
      have hie : i = K.length := by have := HKL.out; omega
      have HFI : Hid (StaleP w (stX F G K ch K.length) (.returned (.slice ta (stX F G K ch i).length tc)) wr) := by
        subst hie
        exact ⟨ta, tc, rfl, own_strsAt HRw.out, HB4.out.trans (HBr.out.mono HB4.out.size)⟩
      generalize (stX F G K ch i).length = sn at *
      clear hie
      go_wp2_with fail
      go_ret
      exact HFI.out
end Go.Proofs.YtfcdphgggdioeaaGreatDoor
/- Chapter 9 (9.1): a heap of names; which one comes first. No program stands in it. -/
namespace Tp

def gt (l : List Bs) (i : Nat) : Bs := l.getD i []
theorem gt_eq {l : List Bs} {i : Nat} (h : i < l.length) : gt l i = l[i] := by
  unfold gt
  rw [List.getD_eq_getElem?_getD, List.getElem?_eq_getElem h]
  rfl
/- each is not less than the one above it, of the first m -/
def Hp (l : List Bs) (m : Nat) : Prop := ∀ k, 0 < k → k < m → gt l ((k - 1) / 2) ≤ gt l k
theorem Hp.nil : Hp [] ([] : List Bs).length := fun k _ hk => absurd hk (Nat.not_lt_zero k)
/- but for i, that may be less than what is above it -/
structure HpU (l : List Bs) (m i : Nat) : Prop where
  a : ∀ k, 0 < k → k < m → k ≠ i → gt l ((k - 1) / 2) ≤ gt l k
  b : ∀ k, 0 < k → k < m → (k - 1) / 2 = i → 0 < i → gt l ((i - 1) / 2) ≤ gt l k
/- but for i, that may be greater than what hangs on it -/
structure HpD (l : List Bs) (m i : Nat) : Prop where
  a : ∀ k, 0 < k → k < m → (k - 1) / 2 ≠ i → gt l ((k - 1) / 2) ≤ gt l k
  b : ∀ k, 0 < k → k < m → (k - 1) / 2 = i → 0 < i → gt l ((i - 1) / 2) ≤ gt l k
/- two changed over -/
structure Swd (l l' : List Bs) (i k : Nat) : Prop where
  fi : gt l' i = gt l k
  fk : gt l' k = gt l i
  fo : ∀ j, j ≠ i → j ≠ k → gt l' j = gt l j
theorem HpU.stop0 {l : List Bs} {m : Nat} (h : HpU l m 0) : Hp l m := fun k h0 hk => h.a k h0 hk (by omega)
theorem HpU.stop {l : List Bs} {m i : Nat} (h : HpU l m i) (hl : gt l ((i - 1) / 2) ≤ gt l i) : Hp l m := fun k h0 hk => by
  by_cases e : k = i
  · rw [e]; exact hl
  · exact h.a k h0 hk e
theorem HpU.step {l l' : List Bs} {m i : Nat} (h : HpU l m i) (hi : 0 < i) (hl : gt l i ≤ gt l ((i - 1) / 2)) (s : Swd l l' ((i - 1) / 2) i) : HpU l' m ((i - 1) / 2) := by
  obtain ⟨p, hp⟩ : ∃ p, p = (i - 1) / 2 := ⟨_, rfl⟩
  rw [← hp] at hl s ⊢
  refine ⟨fun k h0 hk hne => ?_, fun k h0 hk hkp h1 => ?_⟩
  · by_cases e : k = i
    · rw [e, ← hp, s.fi, s.fk]; exact hl
    rw [s.fo k hne e]
    by_cases e2 : (k - 1) / 2 = i
    · rw [e2, s.fk, hp]; exact h.b k h0 hk e2 hi
    by_cases e3 : (k - 1) / 2 = p
    · rw [e3, s.fi]
      have := h.a k h0 hk e
      rw [e3] at this
      exact List.le_trans hl this
    rw [s.fo _ e3 e2]
    exact h.a k h0 hk e
  · rw [s.fo ((p - 1) / 2) (by omega) (by omega)]
    have q1 := h.a p h1 (by omega) (by omega)
    by_cases e : k = i
    · rw [e, s.fk]; exact q1
    · rw [s.fo k (by omega) e]
      have q2 := h.a k h0 hk e
      rw [hkp] at q2
      exact List.le_trans q1 q2
theorem gt_app {l : List Bs} {x : Bs} {k : Nat} (h : k < l.length) : gt (l ++ [x]) k = gt l k := by
  rw [gt_eq (by simp; omega), gt_eq h, List.getElem_append_left h]
theorem HpU.push {l : List Bs} (h : Hp l l.length) (x : Bs) : HpU (l ++ [x]) (l.length + 1) l.length :=
  ⟨fun k h0 hk hne => by rw [gt_app (by omega), gt_app (by omega)]; exact h k h0 (by omega), fun k h0 hk e h1 => by omega⟩
theorem HpD.stop {l : List Bs} {m i : Nat} (h : HpD l m i) (hl : ∀ k, 0 < k → k < m → (k - 1) / 2 = i → gt l i ≤ gt l k) : Hp l m := fun k h0 hk => by
  by_cases e : (k - 1) / 2 = i
  · rw [e]; exact hl k h0 hk e
  · exact h.a k h0 hk e
theorem HpD.step {l l' : List Bs} {m i j : Nat} (h : HpD l m i) (hj : 0 < j) (hjm : j < m) (hji : (j - 1) / 2 = i) (hl : gt l j ≤ gt l i) (hs : ∀ k, 0 < k → k < m → (k - 1) / 2 = i → gt l j ≤ gt l k) (s : Swd l l' i j) : HpD l' m j := by
  refine ⟨fun k h0 hk hne => ?_, fun k h0 hk hkp h1 => ?_⟩
  · by_cases e : k = j
    · rw [e, hji, s.fi, s.fk]; exact hl
    by_cases e1 : k = i
    · rw [e1, s.fi, s.fo _ (by omega) (by omega)]
      exact h.b j hj hjm hji (by omega)
    rw [s.fo k e1 e]
    by_cases e2 : (k - 1) / 2 = i
    · rw [e2, s.fi]; exact hs k h0 hk e2
    rw [s.fo _ e2 hne]
    exact h.a k h0 hk e2
  · rw [hji, s.fi, s.fo k (by omega) (by omega)]
    have := h.a k h0 hk (by omega)
    rw [hkp] at this
    exact this
theorem HpD.pop {l l' : List Bs} {n : Nat} (h : Hp l (n + 1)) (s : Swd l l' 0 n) : HpD l' n 0 := ⟨fun k h0 hk hne => by
  rw [s.fo k (by omega) (by omega), s.fo _ (by omega) (by omega)]
  exact h k h0 (by omega), fun k h0 hk e h1 => by omega⟩
theorem Hp.min {l : List Bs} {m : Nat} (h : Hp l m) : ∀ k, k < m → gt l 0 ≤ gt l k := by
  intro k
  induction k using Nat.strongRecOn with
  | ind k ih =>
    intro hk
    by_cases e : k = 0
    · rw [e]; exact List.le_refl _
    · exact List.le_trans (ih ((k - 1) / 2) (by omega) (by omega)) (h k (by omega) hk)
theorem Hp.same {l l' : List Bs} {m : Nat} (h : Hp l m) (hs : ∀ k, k < m → gt l' k = gt l k) : Hp l' m := fun k h0 hk => by
  rw [hs k hk, hs _ (by omega)]
  exact h k h0 hk
def Sm (l' l : List Bs) (n : Nat) : Prop := ∀ k, n ≤ k → gt l' k = gt l k
/- what came is, each time, the least that may -/
def Sel (K : List Bs) (im : Bs → List Bs) (T : List Bs) : Prop := ∀ i (h : i < T.length), ∀ x ∈ K, x ∉ T.take i → need K im (T.take i) x = 0 → T[i] ≤ x
theorem Sel.nil (K : List Bs) (im : Bs → List Bs) : Sel K im [] := fun i h => by simp at h
theorem Sel.snoc {K : List Bs} {im : Bs → List Bs} {T : List Bs} {n : Bs} (h : Sel K im T) (hn : ∀ x ∈ K, x ∉ T → need K im T x = 0 → n ≤ x) : Sel K im (T ++ [n]) := by
  intro i hi x hx h1 h2
  rw [List.length_append, List.length_singleton] at hi
  by_cases e : i < T.length
  · rw [List.getElem_append_left e]
    rw [List.take_append_of_le_length (by omega)] at h1 h2
    exact h i e x hx h1 h2
  · have e : i = T.length := by omega
    subst e
    rw [List.getElem_concat_length rfl]
    rw [List.take_append_of_le_length (by omega), List.take_length] at h1 h2
    exact hn x hx h1 h2
theorem Or1.least {K : List Bs} {im : Bs → List Bs} {T R : List Bs} {W : Bs → Nat} (h : Or1 K im T R W) {n : Bs} (hn : ∀ y ∈ R, n ≤ y) : ∀ x ∈ K, x ∉ T → need K im T x = 0 → n ≤ x := fun x hx h1 h2 => by
  have := (h.is x).2 ⟨hx, by rw [h.w x hx]; exact h2⟩
  rcases List.mem_append.1 this with q | q
  · exact absurd q h1
  · exact hn x q
theorem behind_need {K : List Bs} {im : Bs → List Bs} {T : List Bs} (h : Behind K im T) {i : Nat} (hi : i < T.length) : need K im (T.take i) T[i] = 0 := by
  unfold need
  rw [List.length_eq_zero_iff, List.filter_eq_nil_iff]
  intro y hy
  by_cases hk : y ∈ K
  · have := h i hi y hy hk
    simp [this]
  · simp [hk]
theorem nodup_take {T : List Bs} (h : T.Nodup) {i : Nat} (hi : i < T.length) : T[i] ∉ T.take i := fun q => by
  obtain ⟨j, hj, e⟩ := List.getElem_of_mem q
  rw [List.length_take] at hj
  rw [List.getElem_take] at e
  exact List.pairwise_iff_getElem.1 h j i (by omega) hi (by omega) e
/- so there is but one such order -/
theorem one_order {K : List Bs} {im : Bs → List Bs} {T T' : List Bs} (h : Came K im T) (s : Sel K im T) (h' : Came K im T') (s' : Sel K im T') : T = T' := by
  have hl : T.length = T'.length := h.len.trans h'.len.symm
  have key : ∀ i, i ≤ T.length → T.take i = T'.take i := by
    intro i
    induction i with
    | zero => intro _; simp
    | succ i ih =>
      intro hi
      have e := ih (by omega)
      have hi1 : i < T.length := by omega
      have hi2 : i < T'.length := by omega
      rw [List.take_succ_eq_append_getElem hi1, List.take_succ_eq_append_getElem hi2, e]
      have a1 := s i hi1 T'[i] (h'.sub _ (List.getElem_mem hi2)) (by rw [e]; exact nodup_take h'.nd hi2) (by rw [e]; exact behind_need h'.bh hi2)
      have a2 := s' i hi2 T[i] (h.sub _ (List.getElem_mem hi1)) (by rw [← e]; exact nodup_take h.nd hi1) (by rw [← e]; exact behind_need h.bh hi1)
      rw [List.le_antisymm a1 a2]
  have := key T.length (Nat.le_refl _)
  rw [List.take_length, hl, List.take_length] at this
  exact this
/- the document's way: the least that may, again and again -/
structure Rf (K : List Bs) (im : Bs → List Bs) (T : List Bs) : Prop where
  nd : T.Nodup
  sub : ∀ x ∈ T, x ∈ K
  bh : Behind K im T
  se : Sel K im T
theorem Rf.nil (K : List Bs) (im : Bs → List Bs) : Rf K im [] := ⟨List.nodup_nil, fun x h => (by cases h), fun i h => by simp at h, Sel.nil K im⟩
theorem Rf.snoc {K : List Bs} {im : Bs → List Bs} {T : List Bs} {n : Bs} (h : Rf K im T) (hk : n ∈ K) (ht : n ∉ T) (hn : need K im T n = 0) (hl : ∀ x ∈ K, x ∉ T → need K im T x = 0 → n ≤ x) : Rf K im (T ++ [n]) :=
  ⟨List.nodup_append.2 ⟨h.nd, by simp, fun a ha b hb => by simp at hb; subst hb; exact fun e => ht (e ▸ ha)⟩, fun x hx => by
    rcases List.mem_append.1 hx with q | q
    · exact h.sub x q
    · simp at q; rw [q]; exact hk, h.bh.snoc hn, h.se.snoc hl⟩
theorem Rf.len {K : List Bs} {im : Bs → List Bs} {T : List Bs} (h : Rf K im T) : T.length ≤ K.length := nodup_le h.nd h.sub
theorem Rf.came {K : List Bs} {im : Bs → List Bs} {T : List Bs} (h : Rf K im T) (hl : ¬ T.length < K.length) : Came K im T := ⟨h.nd, h.sub, h.bh, by have := h.len; omega⟩
theorem Rf.round {K : List Bs} {im : Bs → List Bs} {T : List Bs} (hK : K.Nodup) (hl : T.length < K.length) (hn : ∀ x ∈ K, x ∉ T → need K im T x ≠ 0) : Round K im := by
  refine ⟨fun x => x ∉ T, ?_, fun x hx hS => ?_⟩
  · refine Classical.byContradiction fun q => ?_
    have : ∀ x ∈ K, x ∈ T := fun x hx => Classical.byContradiction fun z => q ⟨x, hx, z⟩
    have := nodup_le hK this
    omega
  · have hW := hn x hx hS
    unfold need at hW
    obtain ⟨i, hi⟩ := List.exists_mem_of_length_pos (Nat.pos_of_ne_zero hW)
    obtain ⟨h1, h2⟩ := List.mem_filter.1 hi
    simp at h2
    exact ⟨i, h1, h2.1, h2.2⟩
end Tp
/- Chapter 9: names, as Go has them in order; Less of what is ready. -/
namespace Tp
theorem le_of {a b : Bs} (h : a < b) : a ≤ b := (List.le_total a b).resolve_right fun q => q h
end Tp
namespace Go.Proofs.YtfcdphgggdioeaaGreatDoor
open Go.RowKit
open Tp (Bs)
theorem bless : ∀ a b : Bs, Op.bytesLess a b = decide (a < b) := by
  intro a
  induction a with
  | nil => intro b; cases b <;> simp [Op.bytesLess]
  | cons x a ih =>
    intro b
    cases b with
    | nil => simp [Op.bytesLess]
    | cons y b =>
      unfold Op.bytesLess
      rw [ih b]
      by_cases h1 : x < y
      · simp [h1, List.cons_lt_cons_iff]
      · by_cases h2 : y < x
        · have h3 : ¬ x = y := fun e => by subst e; exact h1 h2
          simp [h1, h3, List.cons_lt_cons_iff]
        · have h3 : x = y := UInt8.le_antisymm (UInt8.not_lt.1 h2) (UInt8.not_lt.1 h1)
          subst h3
          simp [h1]
theorem bs_less (a b : Bs) : Op.bytesLess (bs a).toList (bs b).toList = decide (a < b) := by rw [bs_toList, bs_toList, bless]
set_option maxRecDepth 100000 in
theorem rlessE_post {w : World} {g n c i k : Nat} {x y : Bs} (hx : w.cell? ⟨g, i, none⟩ = some (.string (bs x))) (hy : w.cell? ⟨g, k, none⟩ = some (.string (bs y))) (hi : i < n) (hk : k < n) :
    Calls Tryz.prog 185 #[.slice (some ⟨g, 0, none⟩) n c, .int .i64 (i : Int), .int .i64 (k : Int)] w fun e w' => e = .returned (.bool (decide (x < y))) ∧ Below w.heap.size w w' := by
  have hi' : (i : Int) < (n : Int) := by omega
  have hk' : (k : Int) < (n : Int) := by omega
  have hi0 : ¬ (i : Int) < 0 := by omega
  have hk0 : ¬ (k : Int) < 0 := by omega
  have e := bs_less x y
  generalize bs x = X at *
  generalize bs y = Y at *
  go_enter Tryz.func185, Tryz.ntmps185
  go_wp2_with fail
  go_region
  go_wp2_with fail
  go_ret
  exact ⟨by rw [← e]; rfl, (Below.refl _ _).drew⟩
end Go.Proofs.YtfcdphgggdioeaaGreatDoor
