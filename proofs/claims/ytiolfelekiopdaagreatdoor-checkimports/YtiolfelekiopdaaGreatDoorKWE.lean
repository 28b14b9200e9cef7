import Derived.Test.YtiolfelekiopdaaGreatDoorKWD
import Derived.Deep.RegionHeld3
/- Reading a ONE: signs, brackets, REFs. -/
namespace Go.Proofs.YtiolfelekiopdaaGreatDoor
open Go.RowKit
open Tp (Tok hd tx at' stp X)

theorem cell_alloc {w : World} {a : Addr} {v : Value} (h : w.cell? a = some v) (ob : Obj) : (w.alloc ob).cell? a = some v := (World.cell?_alloc_lt _ _ _ (World.block_lt_of_cell? _ _ h)).trans h
theorem ex5_un {f o : Nat} {r : List Tok} (ho : ¬ 10 < o) (hk : (hd r).kind ≠ 2) (ht : tx r = Tp.mMinus ∨ tx r = Tp.wNot) :
    Tp.ex (f + 1) 5 o 0 [] r = (do let (x, r1) ← Tp.ex f 5 (o + 1) 0 [] (stp r); .ok ([⟨4, at' r, 0, [], [], tx r, x, [], []⟩], r1)) := by
  rw [Tp.ex]; simp only [show ¬ (5 < 5) by omega, if_false, if_true, ho, hk, ht]
theorem ex5_paren {f o : Nat} {r : List Tok} (ho : ¬ 10 < o) (hk : (hd r).kind ≠ 2) (ht : tx r = Tp.mLp) :
    Tp.ex (f + 1) 5 o 0 [] r = (do let (x, r1) ← Tp.ex f 0 (o + 1) 0 [] (stp r); let r2 ← Tp.want Tp.mRp r1; .ok (x, r2)) := by
  rw [Tp.ex]; simp only [show ¬ (5 < 5) by omega, if_false, if_true, ho, hk, ht, show ¬ (Tp.mLp = Tp.mMinus ∨ Tp.mLp = Tp.wNot) by decide]
theorem ex5_named {f o : Nat} {r : List Tok} (ho : ¬ 10 < o) (hk : (hd r).kind ≠ 2) (h1 : tx r ≠ Tp.mMinus) (h2 : tx r ≠ Tp.wNot) (h3 : tx r ≠ Tp.mLp) :
    Tp.ex (f + 1) 5 o 0 [] r = Tp.ex f 6 o 0 [] r := by
  rw [Tp.ex]; simp only [show ¬ (5 < 5) by omega, if_false, if_true, ho, hk, h1, h2, h3, or_self]
theorem within_one_er {w : World} {p : Ps} {ts r : List Tok} {o b f : Nat} {er : Tp.Er} (hO : Hid (OneC p ts f)) (h : St w p ts r o b) (ho : o ≤ 10) (hr : Hid (Tp.ex f 5 (o + 1) 0 [] r = .error er)) (hne : Hid (er ≠ (99, 0))) :
    Calls Tryz.prog 122 #[.pointer (some ⟨p.pb, 0, none⟩), .func (.func 125) #[.pointer (some ⟨p.pb, 0, none⟩)] #[]] w fun e w' => Thrown w.heap.size er e w' ∧ Ext p.pb w w' := by
  have hq : Tp.ex f 5 (o + 1) 0 [] r ≠ .error (99, 0) := by rw [hr.out]; intro e; exact hne.out (by injection e)
  have := within_one h (by omega) _ (fun w1 h1 _ _ => hO.out w1 r (o + 1) b h1 (by omega) hq)
  rw [hr.out] at this
  exact this
theorem within_one_ok {w : World} {p : Ps} {ts r r1 : List Tok} {o b f : Nat} {x : List X} (hO : Hid (OneC p ts f)) (h : St w p ts r o b) (ho : o ≤ 10) (hr : Hid (Tp.ex f 5 (o + 1) 0 [] r = .ok (x, r1))) :
    Calls Tryz.prog 122 #[.pointer (some ⟨p.pb, 0, none⟩), .func (.func 125) #[.pointer (some ⟨p.pb, 0, none⟩)] #[]] w fun e w' => ∃ bb, e = .returned (.pointer (some ⟨bb, 0, none⟩)) ∧ VX w.heap.size x (.pointer (some ⟨bb, 0, none⟩)) w' ∧ St w' p ts r1 o b ∧ Ext p.pb w w' := by
  have hq : Tp.ex f 5 (o + 1) 0 [] r ≠ .error (99, 0) := by rw [hr.out]; intro e; cases e
  have := within_one h (by omega) _ (fun w1 h1 _ _ => hO.out w1 r (o + 1) b h1 (by omega) hq)
  rw [hr.out] at this
  refine this.mono ?_
  intro e w' hq
  obtain ⟨v, h1, h2, h3⟩ := hq
  obtain ⟨bb, rfl⟩ := h2.ptr
  exact ⟨bb, h1, h2, h3⟩

set_option maxRecDepth 100000 in
set_option maxHeartbeats 1000000 in
theorem one_minus {p : Ps} {ts : List Tok} {f : Nat} (hO : OneC p ts f) {w : World} {r : List Tok} {o b : Nat} (h : St w p ts r o b) (ho : ¬ 10 < o) (hk : (hd r).kind ≠ 2) (ht : tx r = Tp.mMinus) (hn : Tp.ex (f + 1) 5 o 0 [] r ≠ .error (99, 0)) :
    Calls Tryz.prog 125 #[.pointer (some ⟨p.pb, 0, none⟩)] w fun e w' => Post p ts o b w (VX w.heap.size) (Tp.ex (f + 1) 5 o 0 [] r) e w' := by
  have hmf : ∀ (fn : Fn) (first cap : Array Value) (w : World), (Instr.makeFunc fn first cap).run Tryz.prog w = .ok (.func fn first cap) w := fun _ _ _ _ => rfl
  have c3 := h.c3
  have hpl := lt_of_cell c3
  have ho' : ¬ (10 : Int) < (o : Int) := by omega
  have ho2 : o ≤ 10 := by omega
  have hk' : (((hd r).kind : Int) == 2) = false := by simp; omega
  have HE : Hid (Tp.ex (f + 1) 5 o 0 [] r = (do let (x, r1) ← Tp.ex f 5 (o + 1) 0 [] (stp r); .ok ([⟨4, at' r, 0, [], [], tx r, x, [], []⟩], r1))) := ex5_un ho hk (Or.inl ht)
  have HO : Hid (OneC p ts f) := hO
  have HT : Hid (tx r = Tp.mMinus) := ht
  have HN : Hid (Tp.ex (f + 1) 5 o 0 [] r ≠ .error (99, 0)) := hn
  clear ho hk ht hO hn
  rcases hres : Tp.ex f 5 (o + 1) 0 [] (stp r) with er | ⟨x, r1⟩
  · have HR : Hid (Tp.ex f 5 (o + 1) 0 [] (stp r) = .error er) := hres
    have HER : Hid (er ≠ (99, 0)) := by intro e; apply HN.out; rw [HE.out, HR.out, e]; rfl
    clear hres
    go_enter Tryz.func125, Tryz.ntmps125
    go_wp2_with fail
    clear c3
    refine (now_any h).mono ?_
    rintro e w1 ⟨rfl, hb1⟩
    have hsz1 := hb1.size
    have hba : ∀ ob, Below w1.heap.size w1 (w1.alloc ob) := fun ob => (Below.refl _ _).alloc (Nat.le_refl _) _
    have HX : Hid (∀ ob, Ext p.pb w (w1.alloc ob)) := fun ob => (Ext.below hb1).trans (Ext.below (hba ob))
    have HST : Hid (∀ ob, St (w1.alloc ob) p ts r o b) := fun ob => (h.below hb1).below (hba ob)
    clear hba
    go_wp2_with fail
    refine (take_any (HST.out _) Tp.mMinus _ rfl).mono ?_
    rintro e w2 ⟨rfl, hst2, hx2⟩
    rw [if_pos HT.out] at hst2
    have hdec := decide_eq_true HT.out
    have y1 : w2.cell? ⟨w1.heap.size, 1, none⟩ = some (.int .i64 ((hd r).pos : Int)) := hx2.cell (by simp [go_sem]) (by simp; omega)
    have y2 : w2.cell? ⟨w1.heap.size, 2, none⟩ = some (.string (bs (hd r).text)) := hx2.cell (by simp [go_sem]) (by simp; omega)
    have hext : Ext p.pb w w2 := ((HX.out _).trans hx2)
    have hl1 := lt_of_cell y1
    have HEXT : Hid (Ext p.pb w w2.drew) := hext.trans (Ext.below (below_drew _))
    have HS2 : Hid (St w2.drew p ts (stp r) o b) := hst2.below (below_drew _)
    clear hext
    go_wp2_with fail
    go_region_dies
    all_goals (refine (within_one_er HO HS2.out ho2 HR HER).mono ?_; intro e w4 hq; obtain ⟨ab, h1, h0, h2, h3⟩ := hq.1.out; subst h0; refine ⟨rfl, ?_⟩; rw [HE.out, HR.out]; exact thrown_up HEXT.out hq.1 hq.2)
  · have HR : Hid (Tp.ex f 5 (o + 1) 0 [] (stp r) = .ok (x, r1)) := hres
    clear hres
    go_enter Tryz.func125, Tryz.ntmps125
    go_wp2_with fail
    clear c3
    refine (now_any h).mono ?_
    rintro e w1 ⟨rfl, hb1⟩
    have hsz1 := hb1.size
    have hba : ∀ ob, Below w1.heap.size w1 (w1.alloc ob) := fun ob => (Below.refl _ _).alloc (Nat.le_refl _) _
    have HX : Hid (∀ ob, Ext p.pb w (w1.alloc ob)) := fun ob => (Ext.below hb1).trans (Ext.below (hba ob))
    have HST : Hid (∀ ob, St (w1.alloc ob) p ts r o b) := fun ob => (h.below hb1).below (hba ob)
    clear hba
    go_wp2_with fail
    refine (take_any (HST.out _) Tp.mMinus _ rfl).mono ?_
    rintro e w2 ⟨rfl, hst2, hx2⟩
    rw [if_pos HT.out] at hst2
    have hdec := decide_eq_true HT.out
    have y1 : w2.cell? ⟨w1.heap.size, 1, none⟩ = some (.int .i64 ((hd r).pos : Int)) := hx2.cell (by simp [go_sem]) (by simp; omega)
    have y2 : w2.cell? ⟨w1.heap.size, 2, none⟩ = some (.string (bs (hd r).text)) := hx2.cell (by simp [go_sem]) (by simp; omega)
    have hext : Ext p.pb w w2 := ((HX.out _).trans hx2)
    have hl1 := lt_of_cell y1
    have HEXT : Hid (Ext p.pb w w2.drew) := hext.trans (Ext.below (below_drew _))
    have HS2 : Hid (St w2.drew p ts (stp r) o b) := hst2.below (below_drew _)
    clear hext
    go_wp2_with fail
    go_region_held3 (fun w' => w'.cell? ⟨w1.heap.size, 1, none⟩ = some (.int .i64 ((hd r).pos : Int)) ∧ w'.cell? ⟨w1.heap.size, 2, none⟩ = some (.string (bs (hd r).text))) (first | (exact ⟨y1, y2⟩) | (exact ⟨z1, z2⟩) | (exact ⟨cell_alloc z1 _, cell_alloc z2 _⟩)) ((go_at_call 122; refine (within_one_ok HO HS2.out ho2 HR).mono ?_; rintro e w4 ⟨bb, rfl, hv, hst4, hx4⟩; have z1 : w4.cell? ⟨w1.heap.size, 1, none⟩ = some (.int .i64 ((hd r).pos : Int)) := hx4.cell (by simpa using y1) (by simp; omega); have z2 : w4.cell? ⟨w1.heap.size, 2, none⟩ = some (.string (bs (hd r).text)) := hx4.cell (by simpa using y2) (by simp; omega)))
    all_goals
      have hsz4 := hx4.size
      have hszE := HEXT.out.size
      simp at hsz4 hszE
      go_wp2_with fail
      go_ret
      rw [HE.out, HR.out]
      have hal : Below w4.heap.size w4 (w4.alloc (.cells (xcells 4 (hd r).pos 0 ⟨#[]⟩ ⟨#[]⟩ (bs (hd r).text) (.pointer (some ⟨bb, 0, none⟩)) (.pointer none) (.slice none 0 0)) 82)) := (Below.refl _ _).alloc (Nat.le_refl _) _
      exact ⟨_, rfl, VX.node (by omega) (new_blk w4 _) (Or.inr ((VX.ext (b := p.pb) (Ext.below hal) (by simp; omega) hv).base (by simp; omega))) (Or.inl ⟨rfl, rfl⟩) (Or.inl ⟨rfl, rfl⟩), hst4.below hal, (HEXT.out.trans hx4).trans (Ext.below hal)⟩

set_option maxRecDepth 100000 in
set_option maxHeartbeats 1000000 in
theorem one_not {p : Ps} {ts : List Tok} {f : Nat} (hO : OneC p ts f) {w : World} {r : List Tok} {o b : Nat} (h : St w p ts r o b) (ho : ¬ 10 < o) (hk : (hd r).kind ≠ 2) (ht : tx r = Tp.wNot) (hn : Tp.ex (f + 1) 5 o 0 [] r ≠ .error (99, 0)) :
    Calls Tryz.prog 125 #[.pointer (some ⟨p.pb, 0, none⟩)] w fun e w' => Post p ts o b w (VX w.heap.size) (Tp.ex (f + 1) 5 o 0 [] r) e w' := by
  have hmf : ∀ (fn : Fn) (first cap : Array Value) (w : World), (Instr.makeFunc fn first cap).run Tryz.prog w = .ok (.func fn first cap) w := fun _ _ _ _ => rfl
  have c3 := h.c3
  have hpl := lt_of_cell c3
  have ho' : ¬ (10 : Int) < (o : Int) := by omega
  have ho2 : o ≤ 10 := by omega
  have hk' : (((hd r).kind : Int) == 2) = false := by simp; omega
  have HE : Hid (Tp.ex (f + 1) 5 o 0 [] r = (do let (x, r1) ← Tp.ex f 5 (o + 1) 0 [] (stp r); .ok ([⟨4, at' r, 0, [], [], tx r, x, [], []⟩], r1))) := ex5_un ho hk (Or.inr ht)
  have HO : Hid (OneC p ts f) := hO
  have HT : Hid (tx r = Tp.wNot) := ht
  have HN : Hid (Tp.ex (f + 1) 5 o 0 [] r ≠ .error (99, 0)) := hn
  clear ho hk ht hO hn
  rcases hres : Tp.ex f 5 (o + 1) 0 [] (stp r) with er | ⟨x, r1⟩
  · have HR : Hid (Tp.ex f 5 (o + 1) 0 [] (stp r) = .error er) := hres
    have HER : Hid (er ≠ (99, 0)) := by intro e; apply HN.out; rw [HE.out, HR.out, e]; rfl
    clear hres
    go_enter Tryz.func125, Tryz.ntmps125
    go_wp2_with fail
    clear c3
    refine (now_any h).mono ?_
    rintro e w1 ⟨rfl, hb1⟩
    have hsz1 := hb1.size
    have hba : ∀ ob, Below w1.heap.size w1 (w1.alloc ob) := fun ob => (Below.refl _ _).alloc (Nat.le_refl _) _
    have HX : Hid (∀ ob, Ext p.pb w (w1.alloc ob)) := fun ob => (Ext.below hb1).trans (Ext.below (hba ob))
    have HST : Hid (∀ ob, St (w1.alloc ob) p ts r o b) := fun ob => (h.below hb1).below (hba ob)
    clear hba
    go_wp2_with fail
    refine (take_any (HST.out _) Tp.mMinus _ rfl).mono ?_
    rintro e w2 ⟨rfl, hst2, hx2⟩
    rw [if_neg (by rw [HT.out]; decide)] at hst2
    have hdec : decide (tx r = Tp.mMinus) = false := by rw [HT.out]; decide
    have hcx := hx2.cell (show (w1.alloc (.cells #[.int .i64 ((hd r).kind : Int), .int .i64 ((hd r).pos : Int), .string (bs (hd r).text)] 100)).cell? ⟨w1.heap.size, 0, none⟩ = some (.int .i64 ((hd r).kind : Int)) by simp [go_sem]) (by simp; omega)
    go_wp2_with fail
    clear hdec hcx
    refine (take_any hst2 Tp.wNot _ rfl).mono ?_
    rintro e w3 ⟨rfl, hst3, hx3⟩
    rw [if_pos HT.out] at hst3
    have hdec := decide_eq_true HT.out
    have y1 : w3.cell? ⟨w1.heap.size, 1, none⟩ = some (.int .i64 ((hd r).pos : Int)) := hx3.cell (hx2.cell (by simp [go_sem]) (by simp; omega)) (by simp; omega)
    have y2 : w3.cell? ⟨w1.heap.size, 2, none⟩ = some (.string (bs (hd r).text)) := hx3.cell (hx2.cell (by simp [go_sem]) (by simp; omega)) (by simp; omega)
    have hext : Ext p.pb w w3 := (((HX.out _).trans hx2).trans hx3)
    have hl1 := lt_of_cell y1
    have HEXT : Hid (Ext p.pb w w3.drew) := hext.trans (Ext.below (below_drew _))
    have HS2 : Hid (St w3.drew p ts (stp r) o b) := hst3.below (below_drew _)
    clear hext
    go_wp2_with fail
    go_region_dies
    all_goals (refine (within_one_er HO HS2.out ho2 HR HER).mono ?_; intro e w4 hq; obtain ⟨ab, h1, h0, h2, h3⟩ := hq.1.out; subst h0; refine ⟨rfl, ?_⟩; rw [HE.out, HR.out]; exact thrown_up HEXT.out hq.1 hq.2)
  · have HR : Hid (Tp.ex f 5 (o + 1) 0 [] (stp r) = .ok (x, r1)) := hres
    clear hres
    go_enter Tryz.func125, Tryz.ntmps125
    go_wp2_with fail
    clear c3
    refine (now_any h).mono ?_
    rintro e w1 ⟨rfl, hb1⟩
    have hsz1 := hb1.size
    have hba : ∀ ob, Below w1.heap.size w1 (w1.alloc ob) := fun ob => (Below.refl _ _).alloc (Nat.le_refl _) _
    have HX : Hid (∀ ob, Ext p.pb w (w1.alloc ob)) := fun ob => (Ext.below hb1).trans (Ext.below (hba ob))
    have HST : Hid (∀ ob, St (w1.alloc ob) p ts r o b) := fun ob => (h.below hb1).below (hba ob)
    clear hba
    go_wp2_with fail
    refine (take_any (HST.out _) Tp.mMinus _ rfl).mono ?_
    rintro e w2 ⟨rfl, hst2, hx2⟩
    rw [if_neg (by rw [HT.out]; decide)] at hst2
    have hdec : decide (tx r = Tp.mMinus) = false := by rw [HT.out]; decide
    have hcx := hx2.cell (show (w1.alloc (.cells #[.int .i64 ((hd r).kind : Int), .int .i64 ((hd r).pos : Int), .string (bs (hd r).text)] 100)).cell? ⟨w1.heap.size, 0, none⟩ = some (.int .i64 ((hd r).kind : Int)) by simp [go_sem]) (by simp; omega)
    go_wp2_with fail
    clear hdec hcx
    refine (take_any hst2 Tp.wNot _ rfl).mono ?_
    rintro e w3 ⟨rfl, hst3, hx3⟩
    rw [if_pos HT.out] at hst3
    have hdec := decide_eq_true HT.out
    have y1 : w3.cell? ⟨w1.heap.size, 1, none⟩ = some (.int .i64 ((hd r).pos : Int)) := hx3.cell (hx2.cell (by simp [go_sem]) (by simp; omega)) (by simp; omega)
    have y2 : w3.cell? ⟨w1.heap.size, 2, none⟩ = some (.string (bs (hd r).text)) := hx3.cell (hx2.cell (by simp [go_sem]) (by simp; omega)) (by simp; omega)
    have hext : Ext p.pb w w3 := (((HX.out _).trans hx2).trans hx3)
    have hl1 := lt_of_cell y1
    have HEXT : Hid (Ext p.pb w w3.drew) := hext.trans (Ext.below (below_drew _))
    have HS2 : Hid (St w3.drew p ts (stp r) o b) := hst3.below (below_drew _)
    clear hext
    go_wp2_with fail
    go_region_held3 (fun w' => w'.cell? ⟨w1.heap.size, 1, none⟩ = some (.int .i64 ((hd r).pos : Int)) ∧ w'.cell? ⟨w1.heap.size, 2, none⟩ = some (.string (bs (hd r).text))) (first | (exact ⟨y1, y2⟩) | (exact ⟨z1, z2⟩) | (exact ⟨cell_alloc z1 _, cell_alloc z2 _⟩)) ((go_at_call 122; refine (within_one_ok HO HS2.out ho2 HR).mono ?_; rintro e w4 ⟨bb, rfl, hv, hst4, hx4⟩; have z1 : w4.cell? ⟨w1.heap.size, 1, none⟩ = some (.int .i64 ((hd r).pos : Int)) := hx4.cell (by simpa using y1) (by simp; omega); have z2 : w4.cell? ⟨w1.heap.size, 2, none⟩ = some (.string (bs (hd r).text)) := hx4.cell (by simpa using y2) (by simp; omega)))
    all_goals
      have hsz4 := hx4.size
      have hszE := HEXT.out.size
      simp at hsz4 hszE
      go_wp2_with fail
      go_ret
      rw [HE.out, HR.out]
      have hal : Below w4.heap.size w4 (w4.alloc (.cells (xcells 4 (hd r).pos 0 ⟨#[]⟩ ⟨#[]⟩ (bs (hd r).text) (.pointer (some ⟨bb, 0, none⟩)) (.pointer none) (.slice none 0 0)) 82)) := (Below.refl _ _).alloc (Nat.le_refl _) _
      exact ⟨_, rfl, VX.node (by omega) (new_blk w4 _) (Or.inr ((VX.ext (b := p.pb) (Ext.below hal) (by simp; omega) hv).base (by simp; omega))) (Or.inl ⟨rfl, rfl⟩) (Or.inl ⟨rfl, rfl⟩), hst4.below hal, (HEXT.out.trans hx4).trans (Ext.below hal)⟩

theorem within_expr_at {w : World} {p : Ps} {ts r : List Tok} {o b f : Nat} {res : Except Tp.Er (List X × List Tok)} (hL : Hid (LevelC p ts f)) (h : St w p ts r o b) (ho : o ≤ 10) (hr : Hid (Tp.ex f 0 (o + 1) 0 [] r = res)) (hne : Hid (res ≠ .error (99, 0))) :
    Calls Tryz.prog 122 #[.pointer (some ⟨p.pb, 0, none⟩), .func (.func 117) #[.pointer (some ⟨p.pb, 0, none⟩)] #[]] w fun e w' => Post p ts o b w (VX w.heap.size) res e w' := by
  have hq : Tp.ex f 0 (o + 1) 0 [] r ≠ .error (99, 0) := by rw [hr.out]; exact hne.out
  have := within_expr h (by omega) _ (fun w1 h1 _ _ => expr_post hL.out h1 (by omega) hq)
  rw [hr.out] at this
  exact this

set_option maxRecDepth 100000 in
set_option maxHeartbeats 1000000 in
theorem one_rest {p : Ps} {ts : List Tok} {f : Nat} (hL : LevelC p ts f) (hM : NamedC p ts f) {w : World} {r : List Tok} {o b : Nat} (h : St w p ts r o b) (ho : ¬ 10 < o) (hk : (hd r).kind ≠ 2) (t1 : tx r ≠ Tp.mMinus) (t2 : tx r ≠ Tp.wNot) (hn : Tp.ex (f + 1) 5 o 0 [] r ≠ .error (99, 0)) :
    Calls Tryz.prog 125 #[.pointer (some ⟨p.pb, 0, none⟩)] w fun e w' => Post p ts o b w (VX w.heap.size) (Tp.ex (f + 1) 5 o 0 [] r) e w' := by
  have hmf : ∀ (fn : Fn) (first cap : Array Value) (w : World), (Instr.makeFunc fn first cap).run Tryz.prog w = .ok (.func fn first cap) w := fun _ _ _ _ => rfl
  have c3 := h.c3
  have hpl := lt_of_cell c3
  have ho' : ¬ (10 : Int) < (o : Int) := by omega
  have ho2 : o ≤ 10 := by omega
  have hk' : (((hd r).kind : Int) == 2) = false := by simp; omega
  have HE1 : Hid (tx r = Tp.mLp → Tp.ex (f + 1) 5 o 0 [] r = (do let (x, r1) ← Tp.ex f 0 (o + 1) 0 [] (stp r); let r2 ← Tp.want Tp.mRp r1; .ok (x, r2))) := fun ht => ex5_paren ho hk ht
  have HE2 : Hid (tx r ≠ Tp.mLp → Tp.ex (f + 1) 5 o 0 [] r = Tp.ex f 6 o 0 [] r) := fun ht => ex5_named ho hk t1 t2 ht
  have HL : Hid (LevelC p ts f) := hL
  have HM : Hid (NamedC p ts f) := hM
  have HN : Hid (Tp.ex (f + 1) 5 o 0 [] r ≠ .error (99, 0)) := hn
  have hd1 := decide_eq_false t1
  have hd2 := decide_eq_false t2
  have T1 : Hid (¬ tx r = Tp.mMinus) := t1
  have T2 : Hid (¬ tx r = Tp.wNot) := t2
  clear ho hk hL hM hn t1 t2
  go_enter Tryz.func125, Tryz.ntmps125
  go_wp2_with fail
  clear c3
  refine (now_any h).mono ?_
  rintro e w1 ⟨rfl, hb1⟩
  have hsz1 := hb1.size
  have hba : ∀ ob, Below w1.heap.size w1 (w1.alloc ob) := fun ob => (Below.refl _ _).alloc (Nat.le_refl _) _
  have HX : Hid (∀ ob, Ext p.pb w (w1.alloc ob)) := fun ob => (Ext.below hb1).trans (Ext.below (hba ob))
  have HST : Hid (∀ ob, St (w1.alloc ob) p ts r o b) := fun ob => (h.below hb1).below (hba ob)
  clear hba
  go_wp2_with fail
  refine (take_any (HST.out _) Tp.mMinus _ rfl).mono ?_
  rintro e w2 ⟨rfl, hst2, hx2⟩
  rw [if_neg T1.out] at hst2
  have hxa := (HX.out _).trans hx2
  go_wp2_with fail
  refine (take_any hst2 Tp.wNot _ rfl).mono ?_
  rintro e w3 ⟨rfl, hst3, hx3⟩
  rw [if_neg T2.out] at hst3
  have hxb := hxa.trans hx3
  clear hst2 hx2 hxa hx3
  go_wp2_with fail
  refine (take_any hst3 Tp.mLp _ rfl).mono ?_
  rintro e w4 ⟨rfl, hst4, hx4⟩
  have hxc := hxb.trans hx4
  clear hst3 hx4 hxb
  by_cases hlp : tx r = Tp.mLp
  · have hd3 := decide_eq_true hlp
    rw [if_pos hlp] at hst4
    have HE : Hid (Tp.ex (f + 1) 5 o 0 [] r = (do let (x, r1) ← Tp.ex f 0 (o + 1) 0 [] (stp r); let r2 ← Tp.want Tp.mRp r1; .ok (x, r2))) := HE1.out hlp
    clear hlp HE1 HE2
    rcases hres : Tp.ex f 0 (o + 1) 0 [] (stp r) with er | ⟨x, r1⟩
    · have HR : Hid (Tp.ex f 0 (o + 1) 0 [] (stp r) = .error er) := hres
      have HER : Hid ((.error er : Except Tp.Er (List X × List Tok)) ≠ .error (99, 0)) := by intro e; apply HN.out; rw [HE.out, HR.out, e]; rfl
      clear hres
      go_wp2_with fail
      refine (within_expr_at HL hst4 ho2 HR HER).mono ?_
      intro e w5 hq
      obtain ⟨ht, hx5⟩ := hq
      obtain ⟨ab, h1, rfl, h2, h3⟩ := ht.out
      go_wp2_with fail
      refine ⟨rfl, ?_⟩
      rw [HE.out, HR.out]
      exact thrown_up hxc ht hx5
    · have HR : Hid (Tp.ex f 0 (o + 1) 0 [] (stp r) = .ok (x, r1)) := hres
      have HER : Hid ((.ok (x, r1) : Except Tp.Er (List X × List Tok)) ≠ .error (99, 0)) := by intro e; cases e
      clear hres
      go_wp2_with fail
      refine (within_expr_at HL hst4 ho2 HR HER).mono ?_
      intro e w5 hq
      obtain ⟨v, rfl, hv, hst5, hx5⟩ := hq
      obtain ⟨bb, rfl⟩ := hv.ptr
      have hsz5 := hxc.size
      have hxd := hxc.trans hx5
      clear hst4 hx5 hxc
      go_wp2_with fail
      by_cases hrp : tx r1 = Tp.mRp
      · refine (want_yes hst5 Tp.mRp _ rfl hrp).mono ?_
        rintro e w6 ⟨rfl, hst6, hx6⟩
        have HRB : Hid (tx r1 = Tp.mRp) := hrp
        clear hrp hst5
        go_wp2_with fail
        go_ret
        rw [HE.out, HR.out]
        simp only [bind, Except.bind, Tp.want, if_pos HRB.out]
        exact ⟨_, rfl, (VX.ext hx6 (by omega) hv).base hsz5, hst6, hxd.trans hx6⟩
      · refine (want_no hst5 Tp.mRp _ rfl hrp).mono ?_
        rintro e w6 ⟨ht, hx6⟩
        have HRB : Hid (¬ tx r1 = Tp.mRp) := hrp
        clear hrp
        obtain ⟨ab, h1, rfl, h2, h3⟩ := ht.out
        go_wp2_with fail
        refine ⟨rfl, ?_⟩
        rw [HE.out, HR.out]
        simp only [bind, Except.bind, Tp.want, if_neg HRB.out]
        exact thrown_up hxd ht hx6
  · have hd3 := decide_eq_false hlp
    rw [if_neg hlp] at hst4
    have HE : Hid (Tp.ex (f + 1) 5 o 0 [] r = Tp.ex f 6 o 0 [] r) := HE2.out hlp
    clear hlp HE1 HE2
    have hcall := HM.out w4 r o b hst4 ho2 (by rw [← HE.out]; exact HN.out)
    rw [← HE.out] at hcall
    generalize hres : Tp.ex (f + 1) 5 o 0 [] r = res at hcall
    have HC : Hid (Calls Tryz.prog 118 #[.pointer (some ⟨p.pb, 0, none⟩)] w4 fun e w' => Post p ts o b w4 (VX w4.heap.size) res e w') := hcall
    have HR : Hid (Tp.ex (f + 1) 5 o 0 [] r = res) := hres
    clear hcall hres
    go_wp2_with fail
    refine HC.out.mono ?_
    intro e w5 hq
    rcases res with er | ⟨x, r1⟩
    · obtain ⟨ht, hx5⟩ := hq
      obtain ⟨ab, h1, rfl, h2, h3⟩ := ht.out
      go_wp2_with fail
      refine ⟨rfl, ?_⟩
      rw [HR.out]
      exact thrown_up hxc ht hx5
    · obtain ⟨v, rfl, hv, hst5, hx5⟩ := hq
      have hsz5 := hxc.size
      go_wp2_with fail
      go_ret
      rw [HR.out]
      exact ⟨_, rfl, hv.base hsz5, hst5, hxc.trans hx5⟩

theorem one_post {p : Ps} {ts : List Tok} {f : Nat} (hL : LevelC p ts f) (hO : OneC p ts f) (hM : NamedC p ts f) : OneC p ts (f + 1) := by
  intro w r o b h ho hn
  by_cases hd : 10 < o
  · rw [show Tp.ex (f + 1) 5 o 0 [] r = .error (4, at' r) by rw [Tp.ex]; simp [hd]]
    exact one_deep h hd
  · by_cases hk : (Tp.hd r).kind = 2
    · exact one_number h hd hk f
    · by_cases h1 : tx r = Tp.mMinus
      · exact one_minus hO h hd hk h1 hn
      · by_cases h2 : tx r = Tp.wNot
        · exact one_not hO h hd hk h2 hn
        · exact one_rest hL hM h hd hk h1 h2 hn
end Go.Proofs.YtiolfelekiopdaaGreatDoor
