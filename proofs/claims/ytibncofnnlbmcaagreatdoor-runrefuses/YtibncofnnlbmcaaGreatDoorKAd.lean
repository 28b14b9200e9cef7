import Derived.Test.YtibncofnnlbmcaaGreatDoorKAc
import Derived.Test.YtibncofnnlbmcaaGreatDoorKAa
/- Chapter 4: a module in another one's place: what the world is then. -/
namespace Go.Proofs.YtibncofnnlbmcaaGreatDoor
open Go.RowKit Go.Maps
open Tp (Bs X S G Pr Pt Rs Rr Own)

def putL (L : List Lo) (n : Lo) : List Lo := L.map fun q => if q.m.name = n.m.name then n else q
theorem putL_names {L : List Lo} {n : Lo} : (putL L n).map (fun lo => lo.m.name) = L.map fun lo => lo.m.name := by
  unfold putL
  rw [List.map_map]
  apply List.map_congr_left
  intro q _
  simp only [Function.comp]
  split
  · rename_i e; exact e.symm
  · rfl
theorem putL_mem {L : List Lo} {n q : Lo} (h : q ∈ putL L n) : q = n ∨ q ∈ L ∧ q.m.name ≠ n.m.name := by
  obtain ⟨x, hx, e⟩ := List.mem_map.1 h
  by_cases e2 : x.m.name = n.m.name
  · rw [if_pos e2] at e; exact Or.inl e.symm
  · rw [if_neg e2] at e; subst e; exact Or.inr ⟨hx, e2⟩
theorem putL_in {L : List Lo} {n lo : Lo} (h : lo ∈ L) (e : lo.m.name = n.m.name) : n ∈ putL L n := List.mem_map.2 ⟨lo, h, if_pos e⟩
theorem putL_len (L : List Lo) (n : Lo) : (putL L n).length = L.length := by simp [putL]
theorem putL_thr {L : List Lo} {n lo : Lo} (h : lo ∈ L) (e : lo.m.name = n.m.name) : thrL (putL L n) = updV (thrL L) n.m.name (.pointer (some ⟨n.lb, 0, none⟩)) := by
  funext k
  unfold thrL updV putL
  by_cases hk : k = n.m.name
  · rw [if_pos hk]
    have : ∀ l : List Lo, lo ∈ l → (l.map fun q => if q.m.name = n.m.name then n else q).find? (fun lo => lo.m.name == k) = some n := by
      intro l hl
      induction l with
      | nil => cases hl
      | cons x t ih =>
        rw [List.map_cons]
        by_cases e2 : x.m.name = n.m.name
        · rw [if_pos e2, List.find?_cons_of_pos (by simp [hk])]
        · rw [if_neg e2, List.find?_cons_of_neg (by simp [hk, e2])]
          rcases List.mem_cons.1 hl with q | q
          · subst q; exact absurd e e2
          · exact ih q
    rw [this L h]
    rfl
  · rw [if_neg hk]
    congr 1
    have : ∀ l : List Lo, (l.map fun q => if q.m.name = n.m.name then n else q).find? (fun lo => lo.m.name == k) = l.find? fun lo => lo.m.name == k := by
      intro l
      induction l with
      | nil => rfl
      | cons x t ih =>
        rw [List.map_cons]
        by_cases e2 : x.m.name = n.m.name
        · rw [if_pos e2, List.find?_cons_of_neg (by simpa using fun q => hk q.symm), List.find?_cons_of_neg (by simpa using fun q => hk (q.symm.trans e2)), ih]
        · rw [if_neg e2]
          by_cases e3 : x.m.name = k
          · rw [List.find?_cons_of_pos (by simpa using e3), List.find?_cons_of_pos (by simpa using e3)]
          · rw [List.find?_cons_of_neg (by simpa using e3), List.find?_cons_of_neg (by simpa using e3), ih]
    exact this L
theorem kslF_all {lo : Lo} {sl : Bs → Nat} {m : Tp.M} (hn : (m.vars.map (·.name)).Nodup) {g : G} (hg : g ∈ m.vars) : kslF lo sl m.vars g.name = if keptG lo.m g then lo.sl g.name else sl g.name := by
  have : m.vars.find? (fun x => x.name == g.name) = some g := Tp.varOf_mem hn hg
  unfold kslF
  rw [this]
theorem kept_in {old : Tp.M} {g : G} (h : keptG old g = true) : ∃ h ∈ old.vars, h.name = g.name ∧ h.len = g.len := by
  unfold keptG at h
  obtain ⟨x, h1, h2⟩ := List.any_eq_true.1 h
  simp only [Bool.and_eq_true, decide_eq_true_eq] at h2
  exact ⟨x, h1, h2⟩
theorem swapV_at {old new : Tp.M} {had : Bs → List Int} (hn : (new.vars.map (·.name)).Nodup) {g : G} (hg : g ∈ new.vars) : Tp.swapV old new had g.name = if keptG old g then had g.name else List.replicate (vlen g) 0 := by
  have hf : new.vars.find? (fun x => x.name == g.name) = some g := Tp.varOf_mem hn hg
  unfold Tp.swapV
  rw [hf]
  simp only
  rw [fresh_vals hn hg]
  have : (old.vars.any fun h => h.name == g.name && h.len == g.len) = keptG old g := by
    unfold keptG
    congr 1
    funext h
    by_cases e1 : h.name = g.name <;> by_cases e2 : h.len = g.len <;> simp [e1, e2]
  rw [this]
theorem ww_swap {X : Nat → Prop} {D : Nat → Prop} {c n0 : Nat} {w w6 w7 w8 : World} {wb : Nat} {L : List Lo} {P : List Pt} {nv : Value} {tb : Nat} {m : Tp.M} {p : Pt} {lo : Lo} {ia ga pa ba : Option Addr} {ic gc pc bc lb vb : Nat} {sl : Bs → Nat} (hm : Tp.WM m) (h : WW X w wb L P nv tb) (hX : ∀ b, X b → b < w.heap.size) (hWI2 : Tp.WI ofS (Tp.putM P m)) (hlo : lo ∈ L) (hlm : lo.m.name = m.name) (hp : Tp.partOf P m.name = some p) (hmd : MD w D m ia ga pa ba ic gc pc bc) (hD : ∀ b, D b → b < w.heap.size → ¬ X b ∧ ¬ Mut L wb (some tb) nv b)
    (h6 : Below w.heap.size w w6) (hlb : w.heap.size ≤ lb) (hvb : w.heap.size ≤ vb) (hne : lb ≠ vb) (hbl : w6.heap[lb]? = some (.cells (lcells m ia ga pa ba ic gc pc bc vb) 107 (0, 0))) (hla : Laid w6 w.heap.size vb m.vars m.vars.length sl) (hsl : ∀ g ∈ m.vars, sl g.name ≠ lb ∧ sl g.name ≠ vb)
    (h7 : Ext vb w6 w7) (hm7 : ∃ n, MapV w7 vb n (keepF lo m sl m.vars.length)) (hc : c ≤ 90) (h8 : Ext tb w7 w8) (hn0 : n0 ≤ c) (hm8 : MapV w8 tb (n0 + 1) (updV (thrL L) m.name (.pointer (some ⟨lb, 0, none⟩)))) :
    WW X w8 wb (putL L ⟨m, lb, vb, kslF lo sl m.vars⟩) (Tp.putM P m) nv tb ∧ MapC w8 (some tb) (putL L ⟨m, lb, vb, kslF lo sl m.vars⟩) (c + 1) ∧ Tr (Mut L wb (some tb) nv) (Mut (putL L ⟨m, lb, vb, kslF lo sl m.vars⟩) wb (some tb) nv) w w8 := by
  obtain ⟨nl, hnl⟩ : ∃ nl : Lo, nl = ⟨m, lb, vb, kslF lo sl m.vars⟩ := ⟨_, rfl⟩
  have hnm : nl.m = m := by rw [hnl]
  have hwx : WX X w wb L P nv (some tb) := h
  rw [← hnl]
  have hlm' : lo.m.name = nl.m.name := by rw [hnm]; exact hlm
  have hmw := h.mw
  have hmw2 : Tp.ms (Tp.putM P m) = (putL L nl).map fun lo => lo.m := by
    unfold Tp.ms at hmw
    have e1 : Tp.ms (Tp.putM P m) = (P.map (·.m)).map fun x => if x.name = m.name then m else x := by
      unfold Tp.ms Tp.putM
      simp only [List.map_map]
      apply List.map_congr_left
      intro q _
      simp only [Function.comp]
      split <;> rfl
    rw [e1, hmw]
    unfold putL
    simp only [List.map_map]
    apply List.map_congr_left
    intro q _
    simp only [Function.comp]
    rw [hnm]
    split
    · exact hnm.symm
    · rfl
  have hwmAll : ∀ x ∈ putL L nl, Tp.WM x.m := fun x hx => by
    rcases putL_mem hx with rfl | ⟨q, _⟩
    · rw [hnm]; exact hm
    · exact (h.lo x q).2.2.2.2.wm
  have hfitAll : ∀ x ∈ putL L nl, Tp.FitM ((putL L nl).map fun lo => lo.m) x.m := fun x hx => by
    rw [← hmw2]
    exact hWI2.fit ofS_mem (by rw [hmw2]; exact List.mem_map.2 ⟨x, hx, rfl⟩) (hwmAll x hx)
  have hnin : nl ∈ putL L nl := putL_in hlo hlm'
  have hvn : (m.vars.map (·.name)).Nodup := by have := (hfitAll nl hnin).vn; rw [hnm] at this; exact this
  have hlfit := (h.lo lo hlo).2.2.2.2
  have hs6 := h6.size
  have hs7 := h7.size
  have hs8 := h8.size
  have htk : m.vars.take m.vars.length = m.vars := List.take_length
  have hat := hla.at'
  have hinj := hla.inj
  have hmp := hla.map
  rw [htk] at hat hinj hmp
  have hsvlt : ∀ g ∈ m.vars, sl g.name < w6.heap.size := fun g hg => lt_blk (hat g hg).2
  have hmut := fun {b : Nat} (q : Mut L wb (some tb) nv b) => hwx.mlt q
  have hwl : wb < w.heap.size := lt_blk h.blk
  have hksl : ∀ g ∈ m.vars, nl.sl g.name = if keptG lo.m g then lo.sl g.name else sl g.name := fun g hg => by rw [hnl]; exact kslF_all hvn hg
  have hkV : ∀ g ∈ m.vars, keptG lo.m g = true → VLo L (lo.sl g.name) := fun g _ hk => by
    obtain ⟨x, h1, h2, _⟩ := kept_in hk
    exact ⟨lo, hlo, x, h1, by rw [h2]⟩
  have hVn : ∀ b, VLo (putL L nl) b → VLo L b ∨ w.heap.size ≤ b ∧ b < w6.heap.size ∧ b ≠ lb ∧ b ≠ vb := by
    rintro b ⟨x, hx, g, hg, rfl⟩
    rcases putL_mem hx with rfl | ⟨q, _⟩
    · rw [hnm] at hg
      rw [hksl g hg]
      by_cases hk : keptG lo.m g = true
      · rw [if_pos hk]; exact Or.inl (hkV g hg hk)
      · rw [if_neg hk]; exact Or.inr ⟨(hat g hg).1, hsvlt g hg, (hsl g hg).1, (hsl g hg).2⟩
    · exact Or.inl ⟨x, q, g, hg, rfl⟩
  have hnX : ∀ b, w.heap.size ≤ b → ¬ X b := fun b hb q => by have := hX b q; omega
  have hnm6 : ∀ b, w.heap.size ≤ b → ¬ Mut L wb (some tb) nv b := fun b hb q => by have := (hmut q).1; omega
  have htbl : tb < w.heap.size := (hmut (Or.inr (Or.inr (Or.inl rfl)))).1
  have hk : ∀ b, b < w.heap.size → b ≠ tb → w8.heap[b]? = w.heap[b]? := fun b hb hne => ((h8.block b (by omega) hne).trans (h7.block b (by omega) (by omega))).trans (h6.block b hb)
  have hk6 : ∀ b, w.heap.size ≤ b → b < w6.heap.size → b ≠ vb → w8.heap[b]? = w6.heap[b]? := fun b h1 h2 h3 => (h8.block b (by omega) (by omega)).trans (h7.block b h2 h3)
  have hlbl := lt_blk hbl
  have hvbl := hmp.lt
  have hold : ∀ b, b < w.heap.size → ¬ X b → ¬ Mut L wb (some tb) nv b → StB X (putL L nl) wb tb nv b := fun b hb hx hu => by
    refine ⟨hx, fun q => ?_, fun e => hu (Or.inr (Or.inl e)), fun e => hu (Or.inr (Or.inr (Or.inl (by rw [e])))), fun e => hu (Or.inr (Or.inr (Or.inr e)))⟩
    rcases hVn b q with q | q
    · exact hu (Or.inl q)
    · omega
  have hst : ∀ b, w.heap.size ≤ b → b < w6.heap.size → (∀ g ∈ m.vars, sl g.name ≠ b) → StB X (putL L nl) wb tb nv b := fun b h1 h2 h3 => by
    refine ⟨hnX b h1, ?_, by omega, by omega, fun e => hnm6 b h1 (Or.inr (Or.inr (Or.inr e)))⟩
    rintro ⟨x, hx, g, hg, e⟩
    rcases putL_mem hx with rfl | ⟨q, _⟩
    · rw [hnm] at hg
      rw [hksl g hg] at e
      by_cases hk : keptG lo.m g = true
      · rw [if_pos hk] at e
        have := (hmut (Or.inl (hkV g hg hk))).1
        omega
      · rw [if_neg hk] at e
        exact h3 g hg e.symm
    · have := (hmut (Or.inl ⟨x, q, g, hg, e⟩)).1
      omega
  have hstM : ∀ {b : Nat}, StB X L wb tb nv b → ¬ X b ∧ ¬ Mut L wb (some tb) nv b := fun hs => ⟨hs.1, fun q => by
    rcases q with q | q | q | q
    · exact hs.2.1 q
    · exact hs.2.2.1 q
    · cases q; exact hs.2.2.2.1 rfl
    · exact hs.2.2.2.2 q⟩
  have hnV : ∀ b, b < w.heap.size → ¬ VLo L b → ¬ VLo (putL L nl) b := fun b hb hv q => by
    rcases hVn b q with z | z
    · exact hv z
    · omega
  have hthr : thrL (putL L nl) = updV (thrL L) m.name (.pointer (some ⟨lb, 0, none⟩)) := by
    have := putL_thr hlo hlm'
    rw [hnm, hnl] at this
    rw [hnl]
    exact this
  refine ⟨⟨(hk _ hwl (fun e => h.tx.2.1 e.symm)).trans h.blk, ⟨h.xw.1, hnV wb hwl h.xw.2⟩, ?_, fun b hb => ⟨(h.nx b hb).1, (h.nx b hb).2.1, (h.nx b hb).2.2.1, hnV b (h.nm.lt b hb).2 (h.nx b hb).2.2.2⟩, ⟨h.tx.1, h.tx.2.1, hnV tb htbl h.tx.2.2⟩, ⟨n0 + 1, by omega, by rw [hthr]; exact hm8⟩, fun x hx => ?_, fun b hb => ?_, ?_, ?_, fun x hx => ?_, hmw2⟩, ?_, ?_⟩
  · rw [putL_names, putL_len]
    exact owns_keep h.nm (fun b _ hl ho => hk b hl (h.nx b ho).2.2.1)
  · rcases putL_mem hx with rfl | ⟨q, hqn⟩
    · refine ⟨⟨ia, ga, pa, ba, ic, gc, pc, bc, ?_, ?_⟩, ?_, ?_, ?_, hfitAll _ hx⟩
      · have := (hk6 lb hlb hlbl hne).trans hbl
        rw [hnl]
        exact this
      · rw [hnm]
        exact hmd.mono (fun b hb hl => ⟨hk b hl (fun e => (hD b hb hl).2 (Or.inr (Or.inr (Or.inl (by rw [e]))))), hold b hl (hD b hb hl).1 (hD b hb hl).2⟩)
      · have := hst lb hlb hlbl (fun g hg => (hsl g hg).1)
        rw [hnl] at this ⊢
        exact this
      · have := hst vb hvb hvbl (fun g hg => (hsl g hg).2)
        rw [hnl] at this ⊢
        exact this
      · obtain ⟨n, hmv⟩ := hm7
        have hl7 := hmv.lt
        refine ⟨n, ?_⟩
        have := hmv.on (h8.block vb hl7 (by omega))
        have e : loV (⟨m, lb, vb, kslF lo sl m.vars⟩ : Lo) = keepF lo m sl m.vars.length := by
          funext k
          unfold loV keepF
          rw [htk]
        rw [hnl, e]
        exact this
    · obtain ⟨⟨ia', ga', pa', ba', ic', gc', pc', bc', h1, h2⟩, h3, h4, ⟨n, h5⟩, h9⟩ := h.lo x q
      have hkk : ∀ b, StB X L wb tb nv b → b < w.heap.size → w8.heap[b]? = w.heap[b]? ∧ StB X (putL L nl) wb tb nv b := fun b hs hl => ⟨hk b hl hs.2.2.2.1, hold b hl (hstM hs).1 (hstM hs).2⟩
      exact ⟨⟨ia', ga', pa', ba', ic', gc', pc', bc', (hkk _ h3 (lt_blk h1)).1.trans h1, h2.mono hkk⟩, (hkk _ h3 (lt_blk h1)).2, (hkk _ h4 h5.lt).2, ⟨n, h5.on (hkk _ h4 h5.lt).1⟩, hfitAll x hx⟩
  · rcases hVn b hb with q | q
    · exact ⟨by have := (hmut (Or.inl q)).1; omega, (hmut (Or.inl q)).2⟩
    · exact ⟨by omega, hnX b q.1⟩
  · rw [putL_names]; exact h.nd
  · intro x hx x' hx' g hg g' hg' e
    rcases putL_mem hx with rfl | ⟨q, hqn⟩ <;> rcases putL_mem hx' with rfl | ⟨q', hqn'⟩
    · refine ⟨rfl, ?_⟩
      rw [hnm] at hg hg'
      rw [hksl g hg, hksl g' hg'] at e
      by_cases hk1 : keptG lo.m g = true <;> by_cases hk2 : keptG lo.m g' = true
      · rw [if_pos hk1, if_pos hk2] at e
        obtain ⟨y, y1, y2, _⟩ := kept_in hk1
        obtain ⟨z, z1, z2, _⟩ := kept_in hk2
        rw [← y2, ← z2] at e ⊢
        exact (h.inj lo hlo lo hlo y y1 z z1 e).2
      · rw [if_pos hk1, if_neg hk2] at e
        have := (hmut (Or.inl (hkV g hg hk1))).1
        have := (hat g' hg').1
        omega
      · rw [if_neg hk1, if_pos hk2] at e
        have := (hmut (Or.inl (hkV g' hg' hk2))).1
        have := (hat g hg).1
        omega
      · rw [if_neg hk1, if_neg hk2] at e
        exact hinj g hg g' hg' e
    · exfalso
      rw [hnm] at hg
      rw [hksl g hg] at e
      by_cases hk1 : keptG lo.m g = true
      · rw [if_pos hk1] at e
        obtain ⟨y, y1, y2, _⟩ := kept_in hk1
        rw [← y2] at e
        have := (h.inj lo hlo x' q' y y1 g' hg' e).1
        exact hqn' (this.symm.trans hlm')
      · rw [if_neg hk1] at e
        have := (hmut (Or.inl ⟨x', q', g', hg', rfl⟩)).1
        have := (hat g hg).1
        omega
    · exfalso
      rw [hnm] at hg'
      rw [hksl g' hg'] at e
      by_cases hk1 : keptG lo.m g' = true
      · rw [if_pos hk1] at e
        obtain ⟨y, y1, y2, _⟩ := kept_in hk1
        rw [← y2] at e
        have := (h.inj x q lo hlo g hg y y1 e).1
        exact hqn (this.trans hlm')
      · rw [if_neg hk1] at e
        have := (hmut (Or.inl ⟨x, q, g, hg, rfl⟩)).1
        have := (hat g' hg').1
        omega
    · exact h.inj x q x' q' g hg g' hg' e
  · rcases putL_mem hx with rfl | ⟨q, hqn⟩
    · obtain ⟨p0, p1, p2, p3⟩ := h.vals lo hlo
      rw [hlm] at p1
      have hpp : p0 = p := by rw [hp] at p1; exact (Option.some.inj p1).symm
      rw [hpp] at p2 p3
      refine ⟨⟨m, Tp.swapV p.m m p.vars⟩, ?_, hnm.symm, fun g hg => ?_⟩
      · rw [hnm]; exact Tp.part_put_self hp
      · rw [hnm] at hg
        simp only
        rw [swapV_at hvn hg, hksl g hg, p2]
        by_cases hk1 : keptG lo.m g = true
        · rw [if_pos hk1, if_pos hk1]
          obtain ⟨y, y1, y2, y3⟩ := kept_in hk1
          have hv := p3 y y1
          have hvl : vlen y = vlen g := by unfold vlen; rw [y3]
          rw [y2, hvl] at hv
          have hin := hkV g hg hk1
          exact ⟨hv.1, (hk _ (hmut (Or.inl hin)).1 (fun e => h.tx.2.2 (e ▸ hin))).trans hv.2.1, hv.2.2⟩
        · rw [if_neg hk1, if_neg hk1]
          refine ⟨by simp, ?_, fun v hv => ?_⟩
          · exact (hk6 _ (hat g hg).1 (hsvlt g hg) (hsl g hg).2).trans (hat g hg).2
          · rw [(List.mem_replicate.1 hv).2]; decide
    · obtain ⟨p0, p1, p2, p3⟩ := h.vals x q
      rw [hnm] at hqn
      refine ⟨p0, (Tp.part_put hqn).trans p1, p2, fun g hg => ⟨(p3 g hg).1, ?_, (p3 g hg).2.2⟩⟩
      have hin : VLo L (x.sl g.name) := ⟨x, q, g, hg, rfl⟩
      exact (hk _ (hmut (Or.inl hin)).1 (fun e => h.tx.2.2 (e ▸ hin))).trans (p3 g hg).2.1
  · intro tb' e
    cases e
    exact ⟨n0 + 1, by omega, by rw [hthr]; exact hm8⟩
  · refine ⟨(h8.os.trans h7.os).trans h6.os, (h8.tape.trans h7.tape).trans h6.tape, (h8.output.trans h7.output).trans h6.output, by omega, fun b hb hu => hk b hb (fun e => hu (Or.inr (Or.inr (Or.inl (by rw [e]))))), fun b hb => ?_⟩
    rcases hb with q | q | q | q
    · rcases hVn b q with y | y
      · exact Or.inl (Or.inl y)
      · exact Or.inr y.1
    · exact Or.inl (Or.inr (Or.inl q))
    · exact Or.inl (Or.inr (Or.inr (Or.inl q)))
    · exact Or.inl (Or.inr (Or.inr (Or.inr q)))
end Go.Proofs.YtibncofnnlbmcaaGreatDoor
/- Chapter 4: a module is laid behind those that are there: add, whatever is there; what the world is then. -/
namespace Go.Proofs.YtibncofnnlbmcaaGreatDoor
open Go.RowKit Go.Maps
open Tp (Bs X S G Pr Pt Rs Rr Own)

structure AddA (c : Nat) (w : World) (wb lb : Nat) (nm : Bs) (L : List Lo) (nv : Value) (tv : Option Nat) (w' : World) (tb' : Nat) (nv' : Value) : Prop where
  blk : w'.heap[wb]? = some (.cells #[nv', .map (some tb')] 28 (0, 0))
  tt : tv = some tb' ∨ tv = none ∧ w.heap.size ≤ tb'
  map : ∃ n, n ≤ c + 1 ∧ MapV w' tb' n (updV (thrL L) nm (.pointer (some ⟨lb, 0, none⟩)))
  nm : w'.ownsRow 0 9 1 nv' (L.length + 1) (strs ((L.map fun lo => lo.m.name) ++ [nm]))
  nx : ∀ b, nv'.ownBlock = some b → (nv.ownBlock = some b ∨ w.heap.size ≤ b) ∧ b ≠ tb' ∧ b ≠ wb
  os : w'.os = w.os
  tape : w'.tape = w.tape
  output : w'.output = w.output
  size : w.heap.size ≤ w'.heap.size
  block : ∀ b, b < w.heap.size → b ≠ wb → tv ≠ some b → nv.ownBlock ≠ some b → w'.heap[b]? = w.heap[b]?
theorem add_fin2 {c n : Nat} {w w2 w3 : World} {wb lb tb : Nat} {nm : Bs} {L : List Lo} {nv v3 : Value} (hwl : wb < w.heap.size) (hx : Ext tb w w2) (hs : w2.heap.size = w.heap.size) (hm : MapV w2 tb (n + 1) (updV (thrL L) nm (.pointer (some ⟨lb, 0, none⟩)))) (hn : n ≤ c) (e3 : w3.heap[wb]? = some (.cells #[nv, .map (some tb)] 28 (0, 0)))
    (o1 : w3.os = w2.os) (o2 : w3.tape = w2.tape) (o3 : w3.output = w2.output) (o4 : w2.heap.size ≤ w3.heap.size) (hb : ∀ b, b < w2.heap.size → nv.ownBlock ≠ some b → w3.heap[b]? = w2.heap[b]?) (q1 : w3.ownsRow 0 9 1 v3 (L.length + 1) (strs ((L.map fun lo => lo.m.name) ++ [nm]))) (q3 : ∀ g, v3.ownBlock = some g → nv.ownBlock = some g ∨ w2.heap.size ≤ g) (hnt : nv.ownBlock ≠ some tb) (hnw : nv.ownBlock ≠ some wb) (htw : tb ≠ wb) :
    AddA c w wb lb nm L nv (some tb) (w3.setCell ⟨wb, 0, none⟩ v3) tb v3 := by
  have htl : tb < w2.heap.size := hm.lt
  have hx3 : Ext wb w3 (w3.setCell ⟨wb, 0, none⟩ v3) := (Ext.refl _ _).set 0 _
  have hnx : ∀ b, v3.ownBlock = some b → (nv.ownBlock = some b ∨ w.heap.size ≤ b) ∧ b ≠ tb ∧ b ≠ wb := fun b hb => by
    rcases q3 b hb with q | q
    · exact ⟨Or.inl q, fun e => hnt (e ▸ q), fun e => hnw (e ▸ q)⟩
    · exact ⟨Or.inr (by omega), by omega, by omega⟩
  refine ⟨(set_blk 0 _ e3).trans rfl, Or.inl rfl, ⟨n + 1, by omega, hm.on ((set_frame _ htw).trans (hb _ htl hnt))⟩, owns_keep q1 (fun b _ _ h3 => set_frame b (hnx b h3).2.2), hnx, (hx3.os.trans o1).trans hx.os, (hx3.tape.trans o2).trans hx.tape, (hx3.output.trans o3).trans hx.output, by have := hx3.size; omega, fun b h1 h2 h3 h4 => ?_⟩
  exact ((set_frame b h2).trans (hb b (by omega) h4)).trans (hx.block b h1 (fun e => h3 (by rw [e])))
theorem strs_snoc (l : List Bs) (n : Bs) : strs l ++ [.string (bs n)] = strs (l ++ [n]) := by simp [strs]
set_option maxRecDepth 100000 in
set_option maxHeartbeats 4000000 in
theorem add_any {X : Nat → Prop} {c : Nat} {w : World} {wb lb tb : Nat} {nm : Bs} {L : List Lo} {P : List Pt} {nv : Value} {v1 v2 v3 v4 v5 : Value} (h : WW X w wb L P nv tb) (hL : L.length ≤ 10) (hl : w.heap[lb]? = some (.cells #[.string (bs nm), v1, v2, v3, v4, v5] 107 (0, 0))) (hne : lb ≠ tb) (_ : nv.ownBlock ≠ some lb) (hn : nm.length ≤ 1000000) (hmc : ∃ n, n ≤ c ∧ MapV w tb n (thrL L)) (hc : c ≤ 90) :
    Calls Tryz.prog 40 #[.pointer (some ⟨wb, 0, none⟩), .pointer (some ⟨lb, 0, none⟩)] w fun e w' => e = .returned (.tuple #[]) ∧ ∃ tb' nv', AddA c w wb lb nm L nv (some tb) w' tb' nv' := by
  obtain ⟨i1, hi, hz0, hz1, hz2⟩ := info_parts Tryz.infoString
  have hms := Tryz.mapSome tb
  have hw := h.blk
  have hwl := lt_blk hw
  have hll := lt_blk hl
  have k1 : w.cell? ⟨wb, 1, none⟩ = some (.map (some tb)) := (cell_blk hw).trans rfl
  have kl : w.cell? ⟨lb, 0, none⟩ = some (.string (bs nm)) := (cell_blk hl).trans rfl
  obtain ⟨n0, hn0, hm1⟩ := hmc
  obtain ⟨w2, hmu, q1, q2, q3⟩ := (hm1.on (w' := w.drew) rfl).store (t := 26) Tryz.underlying26 (by omega) nm hn (.pointer (some ⟨lb, 0, none⟩))
  have htw := h.tx.2.1
  have hnx := h.nx
  have hnw : nv.ownBlock ≠ some wb := fun e => (hnx _ e).2.1 rfl
  have hnt : nv.ownBlock ≠ some tb := fun e => (hnx _ e).2.2.1 rfl
  have hb2 : w2.heap[wb]? = some (.cells #[nv, .map (some tb)] 28 (0, 0)) := (q2.block wb hwl (fun e => htw e.symm)).trans hw
  have hl2 : w2.heap[lb]? = some (.cells #[.string (bs nm), v1, v2, v3, v4, v5] 107 (0, 0)) := (q2.block lb hll hne).trans hl
  have hs2 : w2.heap.size = w.heap.size := q3
  have hx2 : Ext tb w w2 := ⟨q2.os, q2.tape, q2.output, by omega, fun b h1 h2 => q2.block b h1 h2⟩
  have hown2 : w2.ownsRow 0 9 1 nv L.length (strs (L.map fun lo => lo.m.name)) := owns_keep h.nm (fun b _ hl ho => q2.block b hl (fun e => hnt (e ▸ ho)))
  have HOW : Hid (∀ ob, (w2.alloc ob).ownsRow 0 9 1 nv L.length (strs (L.map fun lo => lo.m.name))) := fun ob => owns_keep hown2 (fun b _ hl _ => Below.heap_alloc _ _ _ hl)
  have HFIN : Hid (∀ (w3 : World) (v3 : Value), w3.heap[wb]? = some (.cells #[nv, .map (some tb)] 28 (0, 0)) → w3.os = w2.os → w3.tape = w2.tape → w3.output = w2.output → w2.heap.size ≤ w3.heap.size → (∀ b, b < w2.heap.size → nv.ownBlock ≠ some b → w3.heap[b]? = w2.heap[b]?) → w3.ownsRow 0 9 1 v3 (L.length + 1) (strs ((L.map fun lo => lo.m.name)) ++ [.string (bs nm)]) → (∀ g, v3.ownBlock = some g → nv.ownBlock = some g ∨ w2.heap.size ≤ g) → AddA c w wb lb nm L nv (some tb) (w3.setCell ⟨wb, 0, none⟩ v3) tb v3) := fun w3 v3 e3 o1 o2 o3 o4 hb r1 r3 => by
    rw [strs_snoc] at r1
    exact add_fin2 hwl hx2 hs2 q1 hn0 e3 o1 o2 o3 o4 hb r1 r3 hnt hnw htw
  obtain ⟨ao, cap, hnv⟩ := owns_shape hown2
  have n0' : w2.cell? ⟨wb, 0, none⟩ = some nv := (cell_blk hb2).trans rfl
  have nl : w2.cell? ⟨lb, 0, none⟩ = some (.string (bs nm)) := (cell_blk hl2).trans rfl
  have hwl2 : wb < w2.heap.size := lt_blk hb2
  have hll2 : lb < w2.heap.size := lt_blk hl2
  have HB2 := Lib.hid hb2
  have hn0a : ∀ ob, (w2.alloc ob).cell? ⟨wb, 0, none⟩ = some nv := fun ob => (World.cell?_of_block (w := w2) (Below.heap_alloc _ _ _ hwl2)).trans n0'
  have hnl : ∀ ob, (w2.alloc ob).cell? ⟨lb, 0, none⟩ = some (.string (bs nm)) := fun ob => (World.cell?_of_block (w := w2) (Below.heap_alloc _ _ _ hll2)).trans nl
  have HNW := Lib.hid hnw
  have HSL : Hid ((strs (L.map fun lo => lo.m.name)).length = L.length * 1 ∧ ∀ u ∈ strs (L.map fun lo => lo.m.name), u.oneCell' = true) := ⟨by simp [strs], fun u hu => by simp [strs] at hu; obtain ⟨b, _, rfl⟩ := hu; rfl⟩
  clear hw hl hm1 q1 q2 q3 hb2 hl2 hx2 hnx hnt hnw h hown2 hn0 htw hne
  rw [hnv] at HOW HFIN n0' hn0a HB2 HNW ⊢
  clear hnv
  have HS2 := Lib.hid hs2
  clear hs2
  generalize hss : strs (L.map fun lo => lo.m.name) = ss at *
  clear hss
  generalize L.length = ln at *
  go_enter Tryz.func40, Tryz.ntmps40
  go_upto_region 2 with fail
  go_region
  clear k1 kl hmu
  go_upto_region 3 with fail
  go_region_law (first | (refine step_append_where rfl (.tmp 27) (.tmp 33) 25 rfl 0 9 i1 (.string ⟨#[]⟩) 1 16 Tryz.underlying25 hi hz0 hz1 hz2 rfl (by decide) (.slice ao ln cap) ln ss (by simp [Act.eval]) ?hown ⟨w2.heap.size, 0, none⟩ 1 1 [.string (bs nm)] (by simp [Act.eval]) rfl ?news (by intro u hu; simp at hu; subst hu; rfl) (by unfold maxLen; omega) (by omega) (by omega) ?_; (case hown => exact HOW.out _); (case news => (intro j u hj; rw [Addr.add_lit]; cases j with | zero => (simp at hj; subst hj; first | exact (cell_blk (new_blk w2 _)).trans rfl | exact (cell_blk (new_blk w2.drew _)).trans rfl) | succ j => simp at hj)); intro v3' w3 q1 q2 q3; obtain ⟨a3, c3, hv3⟩ := owns_shape q1; subst hv3; have e3 : w3.heap[wb]? = some (.cells #[.slice ao ln cap, .map (some tb)] 28 (0, 0)) := (q2.block wb (by simp; omega) (fun e => HNW.out e.symm)).trans ((Below.heap_alloc w2 _ wb hwl2).trans HB2.out); have n3 : w3.cell? ⟨wb, 0, none⟩ = some (.slice ao ln cap) := (cell_blk e3).trans rfl; have z3 : w3.frozen? ⟨wb, 0, none⟩ = false := frozen_blk e3; have HF := Lib.hid (HFIN.out w3 _ e3 q2.os q2.tape q2.output (by have := q2.size; simp at this; omega) (fun b hb hne => (q2.block b (by simp; omega) (fun e => hne e.symm)).trans (Below.heap_alloc w2 _ b hb)) q1 (fun g hg => (q3 g hg).elim Or.inl (fun z => Or.inr (by simp at z; omega)))); clear q1 q2 q3 e3))
  all_goals exact bodyPost_end (results_none rfl _ _ _) rfl ⟨rfl, tb, _, HF.out⟩
theorem thrL_add {L : List Lo} {lo : Lo} (h : (L.find? fun x => x.m.name == lo.m.name) = none) : thrL (L ++ [lo]) = updV (thrL L) lo.m.name (.pointer (some ⟨lo.lb, 0, none⟩)) := by
  funext k
  unfold thrL updV
  rw [List.find?_append]
  by_cases hk : k = lo.m.name
  · rw [if_pos hk, hk, h]
    simp
  · rw [if_neg hk, List.find?_cons_of_neg (by simpa using fun e => hk e.symm)]
    simp
theorem add_gen {X : Nat → Prop} {c : Nat} {w : World} {wb lb : Nat} {tv : Option Nat} {nm : Bs} {L : List Lo} {P : List Pt} {nv : Value} {v1 v2 v3 v4 v5 : Value} (h : WX X w wb L P nv tv) (hL : L.length ≤ 10) (hl : w.heap[lb]? = some (.cells #[.string (bs nm), v1, v2, v3, v4, v5] 107 (0, 0))) (hno : ¬ Mut L wb tv nv lb) (hn : nm.length ≤ 1000000) (hmc : MapC w tv L c) (hc : c ≤ 90) :
    Calls Tryz.prog 40 #[.pointer (some ⟨wb, 0, none⟩), .pointer (some ⟨lb, 0, none⟩)] w fun e w' => e = .returned (.tuple #[]) ∧ ∃ tb' nv', AddA c w wb lb nm L nv tv w' tb' nv' := by
  cases tv with
  | some tb => exact add_any h hL hl (fun e => hno (Or.inr (Or.inr (Or.inl (by rw [e]))))) (fun e => hno (Or.inr (Or.inr (Or.inr e)))) hn (hmc tb rfl) hc
  | none =>
    obtain ⟨rfl, rfl, rfl, _, h5⟩ := h
    have hwl := lt_blk h5
    refine (add_first h5 hl (fun e => hno (Or.inr (Or.inl e))) hn).mono ?_
    rintro e w' ⟨he, hx, tb, nv', h1, h2, h3, h4, h6⟩
    refine ⟨he, tb, nv', h1, Or.inr ⟨rfl, h2⟩, ⟨1, by omega, ?_⟩, h4, fun b hb => ⟨Or.inr (h6 b hb).1, (h6 b hb).2, by have := (h6 b hb).1; omega⟩, hx.os, hx.tape, hx.output, hx.size, fun b q1 q2 _ _ => hx.block b q1 q2⟩
    have : thrL [] = fun _ => none := by funext k; rfl
    rw [this]
    exact h3
/- the world behind it -/
theorem ww_add {X : Nat → Prop} {D : Nat → Prop} {c : Nat} {w w6 w7 w8 : World} {wb : Nat} {L : List Lo} {P : List Pt} {nv : Value} {tv : Option Nat} {m : Tp.M} {ia ga pa ba : Option Addr} {ic gc pc bc lb vb tb' : Nat} {nv' : Value} {sl : Bs → Nat} (hm : Tp.WM m) (h : WX X w wb L P nv tv) (hX : ∀ b, X b → b < w.heap.size) (hWI : Tp.WI ofS P) (hnew : Tp.partOf P m.name = none) (hck : Tp.check m (Tp.seenW ofS P) = none) (hmd : MD w D m ia ga pa ba ic gc pc bc) (hD : ∀ b, D b → b < w.heap.size → ¬ X b ∧ ¬ Mut L wb tv nv b)
    (h6 : Below w.heap.size w w6) (hlb : w.heap.size ≤ lb) (hvb : w.heap.size ≤ vb) (hbl : w6.heap[lb]? = some (.cells (lcells m ia ga pa ba ic gc pc bc vb) 107 (0, 0))) (hla : Laid w6 w.heap.size vb m.vars m.vars.length sl) (hsl : ∀ g ∈ m.vars, sl g.name ≠ lb ∧ sl g.name ≠ vb)
    (h7 : Below w6.heap.size w6 w7) (hc : c ≤ 90) (h8 : AddA c w7 wb lb m.name L nv tv w8 tb' nv') :
    WW X w8 wb (L ++ [⟨m, lb, vb, sl⟩]) (P ++ [⟨m, Tp.fresh m⟩]) nv' tb' ∧ Tp.WI ofS (P ++ [⟨m, Tp.fresh m⟩]) ∧ MapC w8 (some tb') (L ++ [⟨m, lb, vb, sl⟩]) (c + 1) ∧ Tr (Mut L wb tv nv) (Mut (L ++ [⟨m, lb, vb, sl⟩]) wb (some tb') nv') w w8 := by
  have hWI2 : Tp.WI ofS (P ++ [⟨m, Tp.fresh m⟩]) := Tp.WI.add (q := ⟨m, Tp.fresh m⟩) hWI hnew hck
  have hmw := h.mw
  have hmw2 : Tp.ms (P ++ [⟨m, Tp.fresh m⟩]) = (L ++ [(⟨m, lb, vb, sl⟩ : Lo)]).map fun lo => lo.m := by
    unfold Tp.ms at hmw ⊢
    rw [List.map_append, List.map_append, hmw]
    rfl
  have hfind : (L.find? fun lo => lo.m.name == m.name) = none := by
    rw [List.find?_eq_none]
    intro lo hlo q
    have q' : lo.m.name = m.name := by simpa using q
    have hmem : lo.m ∈ Tp.ms P := by rw [hmw]; exact List.mem_map.2 ⟨lo, hlo, rfl⟩
    obtain ⟨p, hp, hpe⟩ := List.mem_map.1 hmem
    have := List.find?_eq_none.1 hnew p hp
    simp [hpe, q'] at this
  have hfitAll : ∀ x ∈ (L ++ [(⟨m, lb, vb, sl⟩ : Lo)]), Tp.WM x.m → Tp.FitM ((L ++ [(⟨m, lb, vb, sl⟩ : Lo)]).map fun lo => lo.m) x.m := fun x hx hw => by
    rw [← hmw2]
    exact hWI2.fit ofS_mem (by rw [hmw2]; exact List.mem_map.2 ⟨x, hx, rfl⟩) hw
  have hs6 := h6.size
  have hs7 := h7.size
  have hs8 := h8.size
  have htk : m.vars.take m.vars.length = m.vars := List.take_length
  have hat := hla.at'
  have hinj := hla.inj
  have hmp := hla.map
  rw [htk] at hat hinj hmp
  have hsvlt : ∀ g ∈ m.vars, sl g.name < w6.heap.size := fun g hg => lt_blk (hat g hg).2
  have hmut := fun {b : Nat} (q : Mut L wb tv nv b) => h.mlt q
  have hwl : wb < w.heap.size := lt_blk h.blk
  have hVL : ∀ b, VLo (L ++ [⟨m, lb, vb, sl⟩]) b → VLo L b ∨ ∃ g ∈ m.vars, b = sl g.name := by
    rintro b ⟨lo, hlo, g, hg, e⟩
    rcases List.mem_append.1 hlo with q | q
    · exact Or.inl ⟨lo, q, g, hg, e⟩
    · rw [List.mem_singleton] at q
      subst q
      exact Or.inr ⟨g, hg, e⟩
  have hVn : ∀ b, VLo (L ++ [⟨m, lb, vb, sl⟩]) b → VLo L b ∨ w.heap.size ≤ b ∧ b < w6.heap.size ∧ b ≠ lb ∧ b ≠ vb := fun b q => by
    rcases hVL b q with q | ⟨g, hg, rfl⟩
    · exact Or.inl q
    · exact Or.inr ⟨(hat g hg).1, hsvlt g hg, (hsl g hg).1, (hsl g hg).2⟩
  have hVo : ∀ b, VLo L b → VLo (L ++ [⟨m, lb, vb, sl⟩]) b := by
    rintro b ⟨lo, hlo, g, hg, e⟩
    exact ⟨lo, List.mem_append_left _ hlo, g, hg, e⟩
  have htb : tv = some tb' ∨ w7.heap.size ≤ tb' := h8.tt.imp id (fun q => q.2)
  have hnb : ∀ b, nv'.ownBlock = some b → nv.ownBlock = some b ∨ w7.heap.size ≤ b := fun b q => (h8.nx b q).1
  have hk : ∀ b, b < w6.heap.size → ¬ Mut L wb tv nv b → w8.heap[b]? = w6.heap[b]? := fun b hb hne => (h8.block b (by omega) (fun e => hne (Or.inr (Or.inl e))) (fun e => hne (Or.inr (Or.inr (Or.inl e)))) (fun e => hne (Or.inr (Or.inr (Or.inr e))))).trans (h7.block b hb)
  have hnm6 : ∀ b, w.heap.size ≤ b → ¬ Mut L wb tv nv b := fun b hb q => by have := (hmut q).1; omega
  have hlbl := lt_blk hbl
  have hvbl := hmp.lt
  have hnX : ∀ b, w.heap.size ≤ b → ¬ X b := fun b hb q => by have := hX b q; omega
  /- blocks that stay -/
  have hold : ∀ b, b < w.heap.size → ¬ X b → ¬ Mut L wb tv nv b → StB X (L ++ [⟨m, lb, vb, sl⟩]) wb tb' nv' b := fun b hb hx hu => by
    refine ⟨hx, fun q => ?_, fun e => hu (Or.inr (Or.inl e)), fun e => ?_, fun e => ?_⟩
    · rcases hVn b q with q | q
      · exact hu (Or.inl q)
      · omega
    · rcases htb with q | q
      · exact hu (Or.inr (Or.inr (Or.inl (e ▸ q))))
      · omega
    · rcases hnb b e with q | q
      · exact hu (Or.inr (Or.inr (Or.inr q)))
      · omega
  have hst : ∀ b, w.heap.size ≤ b → b < w6.heap.size → (∀ g ∈ m.vars, sl g.name ≠ b) → StB X (L ++ [⟨m, lb, vb, sl⟩]) wb tb' nv' b := fun b h1 h2 h3 => by
    refine ⟨hnX b h1, fun q => ?_, by omega, fun e => ?_, fun e => ?_⟩
    · rcases hVL b q with q | ⟨g, hg, e⟩
      · exact hnm6 b h1 (Or.inl q)
      · exact h3 g hg e.symm
    · rcases htb with q | q
      · exact hnm6 b h1 (Or.inr (Or.inr (Or.inl (e ▸ q))))
      · omega
    · rcases hnb b e with q | q
      · exact hnm6 b h1 (Or.inr (Or.inr (Or.inr q)))
      · omega
  have hwwold : ∀ lo ∈ L, ∃ tb, tv = some tb ∧ WW X w wb L P nv tb := fun lo hlo => h.ww hlo
  have hstM : ∀ {tb b : Nat}, tv = some tb → StB X L wb tb nv b → ¬ X b ∧ ¬ Mut L wb tv nv b := fun ht hs => ⟨hs.1, fun q => by
    rcases q with q | q | q | q
    · exact hs.2.1 q
    · exact hs.2.2.1 q
    · rw [ht] at q; cases q; exact hs.2.2.2.1 rfl
    · exact hs.2.2.2.2 q⟩
  have hnotV : ∀ b, Mut L wb tv nv b → ¬ VLo L b → ¬ VLo (L ++ [⟨m, lb, vb, sl⟩]) b := fun b q hv q2 => by
    rcases hVn b q2 with z | z
    · exact hv z
    · have := (hmut q).1; omega
  have hLnil : tv = none → L = [] := fun e => by subst e; exact h.1
  refine ⟨⟨h8.blk, ⟨h.xw, ?_⟩, ?_, fun b hb => ?_, ⟨?_, ?_, ?_⟩, ?_, fun lo hlo => ?_, fun b hb => ?_, ?_, ?_, fun lo hlo => ?_, hmw2⟩, hWI2, ?_, ?_⟩
  · refine hnotV wb (Or.inr (Or.inl rfl)) ?_
    rintro ⟨lo, hlo, g, hg, e⟩
    obtain ⟨tb, _, hw⟩ := hwwold lo hlo
    exact hw.xw.2 ⟨lo, hlo, g, hg, e⟩
  · have := h8.nm
    simpa using this
  · obtain ⟨q1, q2, q3⟩ := h8.nx b hb
    have hbX : ¬ X b := by
      rcases q1 with q | q
      · exact (hmut (Or.inr (Or.inr (Or.inr q)))).2
      · exact hnX b (by omega)
    refine ⟨hbX, q3, q2, fun q => ?_⟩
    rcases q1 with z | z
    · refine hnotV b (Or.inr (Or.inr (Or.inr z))) ?_ q
      rintro ⟨lo, hlo, g, hg, e⟩
      obtain ⟨tb, _, hw⟩ := hwwold lo hlo
      exact (hw.nx b z).2.2.2 ⟨lo, hlo, g, hg, e⟩
    · rcases hVn b q with y | y
      · have := (hmut (Or.inl y)).1; omega
      · omega
  · rcases htb with q | q
    · exact (hmut (Or.inr (Or.inr (Or.inl q)))).2
    · exact hnX _ (by omega)
  · rcases h8.tt with q | q
    · subst q
      exact (show WW X w wb L P nv tb' from h).tx.2.1
    · omega
  · rcases h8.tt with q | q
    · subst q
      exact hnotV tb' (Or.inr (Or.inr (Or.inl rfl))) (show WW X w wb L P nv tb' from h).tx.2.2
    · intro z
      rcases hVn _ z with y | y
      · have := (hmut (Or.inl y)).1; omega
      · omega
  · obtain ⟨n, hn, hmv⟩ := h8.map
    refine ⟨n, by omega, ?_⟩
    rw [thrL_add (lo := ⟨m, lb, vb, sl⟩) hfind]
    exact hmv
  · rcases List.mem_append.1 hlo with hlo' | hlo'
    · obtain ⟨tb, ht, hw⟩ := hwwold lo hlo'
      obtain ⟨⟨ia', ga', pa', ba', ic', gc', pc', bc', h1, h2⟩, h3, h4, ⟨n, h5⟩, h9⟩ := hw.lo lo hlo'
      have hkk : ∀ b, StB X L wb tb nv b → b < w.heap.size → w8.heap[b]? = w.heap[b]? ∧ StB X (L ++ [⟨m, lb, vb, sl⟩]) wb tb' nv' b := fun b hs hl => ⟨(hk b (by omega) (hstM ht hs).2).trans (h6.block b hl), hold b hl (hstM ht hs).1 (hstM ht hs).2⟩
      exact ⟨⟨ia', ga', pa', ba', ic', gc', pc', bc', (hkk _ h3 (lt_blk h1)).1.trans h1, h2.mono hkk⟩, (hkk _ h3 (lt_blk h1)).2, (hkk _ h4 h5.lt).2, ⟨n, h5.on (hkk _ h4 h5.lt).1⟩, hfitAll lo hlo h9.wm⟩
    · rw [List.mem_singleton] at hlo'
      subst hlo'
      refine ⟨⟨ia, ga, pa, ba, ic, gc, pc, bc, (hk lb hlbl (hnm6 lb hlb)).trans hbl, hmd.mono (fun b hb hl => ⟨(hk b (by omega) (hD b hb hl).2).trans (h6.block b hl), hold b hl (hD b hb hl).1 (hD b hb hl).2⟩)⟩, hst lb hlb hlbl (fun g hg => (hsl g hg).1), hst vb hvb hvbl (fun g hg => (hsl g hg).2), ⟨m.vars.length, hmp.on (hk vb hvbl (hnm6 vb hvb))⟩, hfitAll _ hlo hm⟩
  · rcases hVn b hb with q | q
    · exact ⟨by have := (hmut (Or.inl q)).1; omega, (hmut (Or.inl q)).2⟩
    · exact ⟨by omega, hnX b q.1⟩
  · rw [List.map_append, List.nodup_append]
    refine ⟨h.nd, by simp, fun a ha b hb e => ?_⟩
    obtain ⟨lo, hlo, rfl⟩ := List.mem_map.1 ha
    simp at hb
    have := List.find?_eq_none.1 hfind lo hlo
    simp [e.trans hb] at this
  · intro lo hlo lo' hlo' g hg g' hg' e
    rcases List.mem_append.1 hlo with q | q <;> rcases List.mem_append.1 hlo' with q' | q'
    · obtain ⟨tb, _, hw⟩ := hwwold lo q
      exact hw.inj lo q lo' q' g hg g' hg' e
    · rw [List.mem_singleton] at q'
      subst q'
      have h1 := (hmut (Or.inl ⟨lo, q, g, hg, rfl⟩)).1
      have h2 := (hat g' hg').1
      have e' : lo.sl g.name = sl g'.name := e
      omega
    · rw [List.mem_singleton] at q
      subst q
      have h1 := (hmut (Or.inl ⟨lo', q', g', hg', rfl⟩)).1
      have h2 := (hat g hg).1
      have e' : sl g.name = lo'.sl g'.name := e
      omega
    · rw [List.mem_singleton] at q q'
      subst q
      subst q'
      exact ⟨rfl, hinj g hg g' hg' e⟩
  · rcases List.mem_append.1 hlo with hlo' | hlo'
    · obtain ⟨tb, ht, hw⟩ := hwwold lo hlo'
      obtain ⟨p, p1, p2, p3⟩ := hw.vals lo hlo'
      have hne : lo.m.name ≠ m.name := fun e => by
        have := List.find?_eq_none.1 hfind lo hlo'
        simp [e] at this
      refine ⟨p, (Tp.part_last (q := ⟨m, Tp.fresh m⟩) hne).trans p1, p2, fun g hg => ⟨(p3 g hg).1, ?_, (p3 g hg).2.2⟩⟩
      /- what is there is not written by add -/
      have hv : VLo L (lo.sl g.name) := ⟨lo, hlo', g, hg, rfl⟩
      have hl := (hw.sv _ hv).1
      refine (((h8.block _ (by omega) (fun e => ?_) (fun e => ?_) (fun e => ?_)).trans (h7.block _ (by omega))).trans (h6.block _ hl)).trans (p3 g hg).2.1
      · exact hw.xw.2 (e ▸ hv)
      · rw [ht] at e; cases e; exact hw.tx.2.2 hv
      · exact (hw.nx _ e).2.2.2 hv
    · rw [List.mem_singleton] at hlo'
      subst hlo'
      have hvn := (hfitAll _ hlo hm).vn
      refine ⟨⟨m, Tp.fresh m⟩, ?_, rfl, fun g hg => ?_⟩
      · unfold Tp.partOf at hnew ⊢
        rw [List.find?_append, hnew]
        simp
      · simp only
        rw [fresh_vals hvn hg]
        refine ⟨by simp, ?_, fun v hv => ?_⟩
        · exact (hk _ (hsvlt g hg) (hnm6 _ (hat g hg).1)).trans (hat g hg).2
        · rw [(List.mem_replicate.1 hv).2]; decide
  · intro tb e
    cases e
    obtain ⟨n, hn, hmv⟩ := h8.map
    refine ⟨n, by omega, ?_⟩
    rw [thrL_add (lo := ⟨m, lb, vb, sl⟩) hfind]
    exact hmv
  · refine ⟨(h8.os.trans h7.os).trans h6.os, (h8.tape.trans h7.tape).trans h6.tape, (h8.output.trans h7.output).trans h6.output, by omega, fun b hb hu => (hk b (by omega) hu).trans (h6.block b hb), fun b hb => ?_⟩
    rcases hb with q | q | q | q
    · rcases hVn b q with y | y
      · exact Or.inl (Or.inl y)
      · exact Or.inr y.1
    · exact Or.inl (Or.inr (Or.inl q))
    · cases q
      rcases htb with y | y
      · exact Or.inl (Or.inr (Or.inr (Or.inl y)))
      · exact Or.inr (by omega)
    · rcases hnb b q with y | y
      · exact Or.inl (Or.inr (Or.inr (Or.inr y)))
      · exact Or.inr (by omega)
end Go.Proofs.YtibncofnnlbmcaaGreatDoor
