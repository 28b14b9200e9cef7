import Derived.Test.YtiolfelekiopdaaGreatDoorKWC
/- Reading a ONE. -/
namespace Go.Proofs.YtiolfelekiopdaaGreatDoor
open Go.RowKit
open Tp (Tok hd tx at' stp X)

def NamedC (p : Ps) (ts : List Tok) (f : Nat) : Prop := ∀ (w : World) (r : List Tok) (o b : Nat), St w p ts r o b → o ≤ 10 → Tp.ex f 6 o 0 [] r ≠ .error (99, 0) →
  Calls Tryz.prog 118 #[.pointer (some ⟨p.pb, 0, none⟩)] w fun e w' => Post p ts o b w (VX w.heap.size) (Tp.ex f 6 o 0 [] r) e w'
def OneC (p : Ps) (ts : List Tok) (f : Nat) : Prop := ∀ (w : World) (r : List Tok) (o b : Nat), St w p ts r o b → o ≤ 11 → Tp.ex f 5 o 0 [] r ≠ .error (99, 0) →
  Calls Tryz.prog 125 #[.pointer (some ⟨p.pb, 0, none⟩)] w fun e w' => Post p ts o b w (VX w.heap.size) (Tp.ex f 5 o 0 [] r) e w'

set_option maxRecDepth 100000 in
set_option maxHeartbeats 1000000 in
theorem one_deep {p : Ps} {ts : List Tok} {w : World} {r : List Tok} {o b : Nat} (h : St w p ts r o b) (ho : 10 < o) :
    Calls Tryz.prog 125 #[.pointer (some ⟨p.pb, 0, none⟩)] w fun e w' => Thrown w.heap.size (4, at' r) e w' ∧ Ext p.pb w w' := by
  have c3 := h.c3
  have ho' : (10 : Int) < (o : Int) := by omega
  clear ho
  go_enter Tryz.func125, Tryz.ntmps125
  go_wp2_with fail
  clear c3
  refine (wrong_any h 4).mono ?_
  rintro e w2 ⟨ht, hb2⟩
  obtain ⟨ab, h1, rfl, h2, h3⟩ := ht.out
  go_wp2_with fail
  exact ⟨rfl, ht, Ext.below hb2⟩

theorem number_ok {w : World} {p : Ps} {ts r r1 : List Tok} {o b n : Nat} (h : St w p ts r o b) (hr : Hid (Tp.number Tp.top r = .ok (n, r1))) :
    Calls Tryz.prog 79 #[.pointer (some ⟨p.pb, 0, none⟩), .int .i64 9223372036854775807] w fun e w' => e = .returned (.int .i64 (n : Int)) ∧ St w' p ts r1 o b ∧ Ext p.pb w w' := by
  refine (number_post h Tp.top (by unfold Tp.top; omega) (Nat.le_refl _)).mono ?_
  intro e w' hq
  rw [hr.out] at hq
  obtain ⟨v, h1, rfl, h2⟩ := hq
  exact ⟨h1, h2⟩
theorem number_er {w : World} {p : Ps} {ts r : List Tok} {o b : Nat} {er : Tp.Er} (h : St w p ts r o b) (hr : Hid (Tp.number Tp.top r = .error er)) :
    Calls Tryz.prog 79 #[.pointer (some ⟨p.pb, 0, none⟩), .int .i64 9223372036854775807] w fun e w' => Thrown w.heap.size er e w' ∧ Ext p.pb w w' := by
  refine (number_post h Tp.top (by unfold Tp.top; omega) (Nat.le_refl _)).mono ?_
  intro e w' hq
  rw [hr.out] at hq
  exact hq

set_option maxRecDepth 100000 in
set_option maxHeartbeats 1000000 in
theorem one_number {p : Ps} {ts : List Tok} {w : World} {r : List Tok} {o b : Nat} (h : St w p ts r o b) (ho : ¬ 10 < o) (hk : (hd r).kind = 2) (f : Nat) :
    Calls Tryz.prog 125 #[.pointer (some ⟨p.pb, 0, none⟩)] w fun e w' => Post p ts o b w (VX w.heap.size) (Tp.ex (f + 1) 5 o 0 [] r) e w' := by
  have c3 := h.c3
  have hpl := lt_of_cell c3
  have ho' : ¬ (10 : Int) < (o : Int) := by omega
  have hk' : (((hd r).kind : Int) == 2) = true := by simp; omega
  have HE : Hid (Tp.ex (f + 1) 5 o 0 [] r = (do let (n, r1) ← Tp.number Tp.top r; .ok ([⟨1, at' r, n, [], [], [], [], [], []⟩], r1))) := by
    unfold Hid; rw [Tp.ex]; simp [ho, hk]
  clear ho hk
  rcases hres : Tp.number Tp.top r with er | ⟨n, r1⟩
  · have HR : Hid (Tp.number Tp.top r = .error er) := hres
    clear hres
    go_enter Tryz.func125, Tryz.ntmps125
    go_wp2_with fail
    clear c3
    refine (now_any h).mono ?_
    rintro e w1 ⟨rfl, hb1⟩
    have hba : ∀ ob, Below w1.heap.size w1 (w1.alloc ob).drew := fun ob => ((Below.refl _ _).alloc (Nat.le_refl _) _).drew
    have HX : Hid (∀ ob, Ext p.pb w (w1.alloc ob).drew) := fun ob => (Ext.below hb1).trans (Ext.below (hba ob))
    have HST : Hid (∀ ob, St (w1.alloc ob).drew p ts r o b) := fun ob => (h.below hb1).below (hba ob)
    clear hba
    go_wp2_with fail
    go_region_dies
    all_goals (refine (number_er (HST.out _) HR).mono ?_; intro e w4 hq; obtain ⟨ab, h1, h0, h2, h3⟩ := hq.1.out; subst h0; refine ⟨rfl, ?_⟩; rw [HE.out, HR.out]; exact thrown_up (HX.out _) hq.1 hq.2)
  · have HR : Hid (Tp.number Tp.top r = .ok (n, r1)) := hres
    clear hres
    go_enter Tryz.func125, Tryz.ntmps125
    go_wp2_with fail
    clear c3
    refine (now_any h).mono ?_
    rintro e w1 ⟨rfl, hb1⟩
    have hba : ∀ ob, Below w1.heap.size w1 (w1.alloc ob).drew := fun ob => ((Below.refl _ _).alloc (Nat.le_refl _) _).drew
    have HX : Hid (∀ ob, Ext p.pb w (w1.alloc ob).drew) := fun ob => (Ext.below hb1).trans (Ext.below (hba ob))
    have HST : Hid (∀ ob, St (w1.alloc ob).drew p ts r o b) := fun ob => (h.below hb1).below (hba ob)
    have hsz1 := hb1.size
    clear hba
    go_wp2_with fail
    go_region_with (go_at_call 79; refine (number_ok (HST.out _) HR).mono ?_; rintro e w4 ⟨rfl, hst4, hx4⟩; have y1 : w4.cell? ⟨w1.heap.size, 1, none⟩ = some (.int .i64 ((hd r).pos : Int)) := hx4.cell (by simp [go_sem]) (by simp; omega))
    all_goals
      have hsz4 := hx4.size
      simp at hsz4
      go_wp2_with fail
      go_ret
      rw [HE.out, HR.out]
      exact ⟨_, rfl, VX.node (by omega) (new_blk w4 _) (Or.inl ⟨rfl, rfl⟩) (Or.inl ⟨rfl, rfl⟩) (Or.inl ⟨rfl, rfl⟩), hst4.below ((Below.refl _ _).alloc (Nat.le_refl _) _), ((HX.out _).trans hx4).trans (Ext.below ((Below.refl _ _).alloc (Nat.le_refl _) _))⟩
end Go.Proofs.YtiolfelekiopdaaGreatDoor
