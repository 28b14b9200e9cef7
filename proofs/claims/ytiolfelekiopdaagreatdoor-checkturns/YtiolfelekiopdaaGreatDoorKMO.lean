import Derived.Test.YtiolfelekiopdaaGreatDoorKMN
/- slices.Reverse at Globals. -/
namespace Go.Proofs.YtiolfelekiopdaaGreatDoor
open Go.RowKit

def putG (w : World) (g o : Nat) (v0 v1 v2 v3 : Value) : World := ((((w.setCell ⟨g, o, none⟩ v0).setCell ⟨g, o + 1, none⟩ v1).setCell ⟨g, o + 2, none⟩ v2).setCell ⟨g, o + 3, none⟩ v3)
theorem putG_blk {w : World} {g o : Nat} {v0 v1 v2 v3 : Value} {cur : Array Value} {e : TypeId} (h : w.heap[g]? = some (.cells cur e (0, 0))) (ho : o + 4 ≤ cur.size) : ∃ cur', (putG w g o v0 v1 v2 v3).heap[g]? = some (.cells cur' e (0, 0)) ∧ cur'.size = cur.size ∧ (∀ p, p < o ∨ o + 4 ≤ p → cur'[p]? = cur[p]?) ∧ ∀ t u, t < 4 → [v0, v1, v2, v3][t]? = some u → cur'[o + t]? = some u := by
  refine ⟨_, set_blk (o + 3) v3 (set_blk (o + 2) v2 (set_blk (o + 1) v1 (set_blk (o) v0 (h)))), ?_, ?_, ?_⟩
  · simp
  · intro p hp
    simp only [Array.getElem?_setIfInBounds]
    rw [if_neg (by omega)]
    rw [if_neg (by omega)]
    rw [if_neg (by omega)]
    rw [if_neg (by omega)]
  · intro t u ht hu
    match t, ht with
    | 0, _ => simp at hu; subst hu; simp [Array.getElem?_setIfInBounds]; omega
    | 1, _ => simp at hu; subst hu; simp [Array.getElem?_setIfInBounds]; omega
    | 2, _ => simp at hu; subst hu; simp [Array.getElem?_setIfInBounds]; omega
    | 3, _ => simp at hu; subst hu; simp [Array.getElem?_setIfInBounds]; omega
theorem putG_ext (w : World) (g o : Nat) (v0 v1 v2 v3 : Value) : Ext g w (putG w g o v0 v1 v2 v3) := (((((Ext.refl g w).set (o) v0).set (o + 1) v1).set (o + 2) v2).set (o + 3) v3)
def vlG (f : Nat → ByteArray × Int × Int × Bool) (q t : Nat) : Value := ([.string (f q).1, .int .i64 (f q).2.1, .int .i64 (f q).2.2.1, .bool (f q).2.2.2][t]?).getD undef
theorem revG_nil (w : World) : Calls Tryz.prog 13 #[.slice none 0 0] w fun e w' => e = .returned (.tuple #[]) ∧ w' = w := by
  go_enter Tryz.func13, Tryz.ntmps13
  go_wp2_with fail
  refine wp_loop_rounds 1 ?_
  rw [rounds_succ]
  go_wp2_with fail
  exact bodyPost_end (results_none rfl _ _ _) rfl ⟨rfl, rfl⟩
/- the first i, and the last i, have changed places -/
structure RvG (w0 : World) (g n sz : Nat) (f : Nat → ByteArray × Int × Int × Bool) (i : Nat) (w : World) : Prop where
  x : Ext g w0 w
  c : ∃ cur, w.heap[g]? = some (.cells cur 42 (0, 0)) ∧ cur.size = sz ∧ ∀ q, q < n → ∀ t, t < 4 → cur[q * 4 + t]? = some (vlG f (if q < i ∨ n - 1 - i < q then n - 1 - q else q) t)
theorem RvG.drew {w0 : World} {g n sz : Nat} {f : Nat → ByteArray × Int × Int × Bool} {i : Nat} {w : World} (h : RvG w0 g n sz f i w) : RvG w0 g n sz f i w.drew := ⟨h.x.trans (Ext.below ((Below.refl _ _).drew)), h.c⟩
set_option maxRecDepth 100000 in
set_option maxHeartbeats 1000000 in
theorem revG_post {w : World} {g n cap sz : Nat} {cur : Array Value} {f : Nat → ByteArray × Int × Int × Bool} (hb : w.heap[g]? = some (.cells cur 42 (0, 0))) (hs : cur.size = sz) (hv : ∀ q, q < n → ∀ t, t < 4 → cur[q * 4 + t]? = some (vlG f q t)) (hn : n ≤ 1000) (hsn : n * 4 ≤ sz) :
    Calls Tryz.prog 13 #[.slice (some ⟨g, 0, none⟩) n cap] w fun e w' => e = .returned (.tuple #[]) ∧ Ext g w w' ∧ ∃ cur', w'.heap[g]? = some (.cells cur' 42 (0, 0)) ∧ cur'.size = sz ∧ ∀ q, q < n → ∀ t, t < 4 → cur'[q * 4 + t]? = some (vlG f (n - 1 - q) t) := by
  have h0 : RvG w g n sz f 0 w := ⟨Ext.refl _ _, cur, hb, hs, fun q hq t ht => by rw [hv q hq t ht, if_neg (by omega)]⟩
  have H0 := Lib.hid h0
  have hn' : (n : Int) ≤ 1000 := by omega
  clear hb hs hv h0
  go_enter Tryz.func13, Tryz.ntmps13
  go_wp2_with fail
  go_loopg [2, 3] n (fun k vi vj wr => ∃ i : Nat, i ≤ n ∧ k = n - i ∧ vi = .int .i64 (i : Int) ∧ vj = .int .i64 ((n : Int) - 1 - (i : Int)) ∧ Hid (RvG w g n sz f i wr))
  case atStart => exact ⟨0, by omega, by omega, rfl, by go_num, H0⟩
  case round =>
    obtain ⟨i, hid, hk, rfl, rfl, HR⟩ := hrel
    by_cases hlt : i < n - 1 - i
    · obtain ⟨j, hj⟩ : ∃ j, j = n - 1 - i := ⟨_, rfl⟩
      have hji : (n : Int) - 1 - (i : Int) = (j : Int) := by omega
      have hlt' : (i : Int) < (j : Int) := by omega
      have hin : (i : Int) < (n : Int) := by omega
      have hjn : (j : Int) < (n : Int) := by omega
      rw [hji]
      obtain ⟨cur', hc1, hc2, hc3⟩ := HR.out.c
      have hgl : g < wr.heap.size := lt_blk hc1
      have x0 : wr.cell? ⟨g, i * 4, none⟩ = some (.string (f i).1) := by rw [cell_blk hc1]; have := hc3 i (by omega) 0 (by omega); rw [if_neg (by omega)] at this; exact this
      have x1 : wr.cell? ⟨g, i * 4 + 1, none⟩ = some (.int .i64 (f i).2.1) := by rw [cell_blk hc1]; have := hc3 i (by omega) 1 (by omega); rw [if_neg (by omega)] at this; exact this
      have x2 : wr.cell? ⟨g, i * 4 + 2, none⟩ = some (.int .i64 (f i).2.2.1) := by rw [cell_blk hc1]; have := hc3 i (by omega) 2 (by omega); rw [if_neg (by omega)] at this; exact this
      have x3 : wr.cell? ⟨g, i * 4 + 3, none⟩ = some (.bool (f i).2.2.2) := by rw [cell_blk hc1]; have := hc3 i (by omega) 3 (by omega); rw [if_neg (by omega)] at this; exact this
      have y0 : wr.cell? ⟨g, j * 4, none⟩ = some (.string (f j).1) := by rw [cell_blk hc1]; have := hc3 j (by omega) 0 (by omega); rw [if_neg (by omega)] at this; exact this
      have y1 : wr.cell? ⟨g, j * 4 + 1, none⟩ = some (.int .i64 (f j).2.1) := by rw [cell_blk hc1]; have := hc3 j (by omega) 1 (by omega); rw [if_neg (by omega)] at this; exact this
      have y2 : wr.cell? ⟨g, j * 4 + 2, none⟩ = some (.int .i64 (f j).2.2.1) := by rw [cell_blk hc1]; have := hc3 j (by omega) 2 (by omega); rw [if_neg (by omega)] at this; exact this
      have y3 : wr.cell? ⟨g, j * 4 + 3, none⟩ = some (.bool (f j).2.2.2) := by rw [cell_blk hc1]; have := hc3 j (by omega) 3 (by omega); rw [if_neg (by omega)] at this; exact this
      have zz : ∀ o, wr.frozen? ⟨g, o, none⟩ = false := fun o => frozen_blk hc1
      have HJ := Lib.hid hj
      have HN1 : Hid (RvG w g n sz f (i + 1) (putG (putG wr g (i * 4) (.string (f j).1) (.int .i64 (f j).2.1) (.int .i64 (f j).2.2.1) (.bool (f j).2.2.2)) g (j * 4) (.string (f i).1) (.int .i64 (f i).2.1) (.int .i64 (f i).2.2.1) (.bool (f i).2.2.2)).drew) := by
        have hK : (i + 1) * 4 ≤ j * 4 := Nat.mul_le_mul_right _ (by omega)
        have hK2 : (j + 1) * 4 ≤ n * 4 := Nat.mul_le_mul_right _ (by omega)
        have hmul : ∀ q, (q + 1) * 4 = q * 4 + 4 := fun q => by omega
        have hi1 := hmul i
        have hj1 := hmul j
        have fin : ∀ cur'' : Array Value, cur''.size = cur'.size → (∀ p, ¬ (i * 4 ≤ p ∧ p < i * 4 + 4) → ¬ (j * 4 ≤ p ∧ p < j * 4 + 4) → cur''[p]? = cur'[p]?) → (∀ t u, t < 4 → [.string (f j).1, .int .i64 (f j).2.1, .int .i64 (f j).2.2.1, .bool (f j).2.2.2][t]? = some u → cur''[i * 4 + t]? = some u) → (∀ t u, t < 4 → [.string (f i).1, .int .i64 (f i).2.1, .int .i64 (f i).2.2.1, .bool (f i).2.2.2][t]? = some u → cur''[j * 4 + t]? = some u) → ∀ q, q < n → ∀ t, t < 4 → cur''[q * 4 + t]? = some (vlG f (if q < i + 1 ∨ n - 1 - (i + 1) < q then n - 1 - q else q) t) := by
          intro cur'' _ f2 f3 f4 q hq t ht
          by_cases hqi : q = i
          · subst hqi
            rw [if_pos (by omega), f3 t (vlG f j t) ht (by match t, ht with
              | 0, _ => rfl
              | 1, _ => rfl
              | 2, _ => rfl
              | 3, _ => rfl)]
            rw [show n - 1 - q = j by omega]
          · by_cases hqj : q = j
            · subst hqj
              rw [if_pos (by omega), f4 t (vlG f i t) ht (by match t, ht with
              | 0, _ => rfl
              | 1, _ => rfl
              | 2, _ => rfl
              | 3, _ => rfl)]
              rw [show n - 1 - q = i by omega]
            · have hne : ¬ (i * 4 ≤ q * 4 + t ∧ q * 4 + t < i * 4 + 4) := by
                rintro ⟨a, b⟩
                rcases Nat.lt_or_gt_of_ne hqi with c | c
                · have := Nat.mul_le_mul_right 4 (show q + 1 ≤ i by omega); have := hmul q; omega
                · have := Nat.mul_le_mul_right 4 (show i + 1 ≤ q by omega); omega
              have hne2 : ¬ (j * 4 ≤ q * 4 + t ∧ q * 4 + t < j * 4 + 4) := by
                rintro ⟨a, b⟩
                rcases Nat.lt_or_gt_of_ne hqj with c | c
                · have := Nat.mul_le_mul_right 4 (show q + 1 ≤ j by omega); have := hmul q; omega
                · have := Nat.mul_le_mul_right 4 (show j + 1 ≤ q by omega); omega
              rw [f2 _ hne hne2, hc3 q hq t ht]
              congr 2
              by_cases hq2 : q < i ∨ n - 1 - i < q
              · rw [if_pos hq2, if_pos (by omega)]
              · rw [if_neg hq2, if_neg (by omega)]
        obtain ⟨c1, a1, a2, a3, a4⟩ := putG_blk (o := i * 4) (v0 := .string (f j).1) (v1 := .int .i64 (f j).2.1) (v2 := .int .i64 (f j).2.2.1) (v3 := .bool (f j).2.2.2) hc1 (by omega)
        obtain ⟨c2, b1, b2, b3, b4⟩ := putG_blk (o := j * 4) (v0 := .string (f i).1) (v1 := .int .i64 (f i).2.1) (v2 := .int .i64 (f i).2.2.1) (v3 := .bool (f i).2.2.2) a1 (by omega)
        refine RvG.drew ⟨(HR.out.x.trans (putG_ext _ _ _ _ _ _ _)).trans (putG_ext _ _ _ _ _ _ _), c2, b1, by omega, fin c2 (by omega) (fun p h1 h2 => (b3 p (by omega)).trans (a3 p (by omega))) (fun t u ht hu => (b3 _ (by omega)).trans (a4 t u ht hu)) b4⟩
      unfold putG at HN1
      clear hc1 hc2 hc3 hji hj
      generalize (f i).1 = p0a at *
      generalize (f i).2.1 = p1a at *
      generalize (f i).2.2.1 = p2a at *
      generalize (f i).2.2.2 = p3a at *
      generalize (f j).1 = q0a at *
      generalize (f j).2.1 = q1a at *
      generalize (f j).2.2.1 = q2a at *
      generalize (f j).2.2.2 = q3a at *
      go_wp2_with fail
      go_region
      go_wp2_with fail
      have hjj : ((j : Int) - 1) = (n : Int) - 1 - ((i + 1 : Nat) : Int) := by have := HJ.out; omega
      go_roundg (n - (i + 1))
      case measure => omega
      case rel => exact ⟨i + 1, by omega, rfl, by go_num, by rw [hjj], HN1⟩
    · have hlt' : ¬ (i : Int) < (n : Int) - 1 - (i : Int) := by omega
      have HF : Hid (Ext g w wr ∧ ∃ cur', wr.heap[g]? = some (.cells cur' 42 (0, 0)) ∧ cur'.size = sz ∧ ∀ q, q < n → ∀ t, t < 4 → cur'[q * 4 + t]? = some (vlG f (n - 1 - q) t)) := by
        obtain ⟨cur', c1, c2, c3⟩ := HR.out.c
        refine ⟨HR.out.x, cur', c1, c2, fun q hq t ht => ?_⟩
        rw [c3 q hq t ht]
        by_cases hq2 : q < i ∨ n - 1 - i < q
        · rw [if_pos hq2]
        · rw [if_neg hq2]
          rw [show n - 1 - q = q by omega]
      go_wp2_with fail
      exact bodyPost_end (results_none rfl _ _ _) rfl ⟨rfl, HF.out⟩
end Go.Proofs.YtiolfelekiopdaaGreatDoor
/- slices.Reverse at Procs. -/
namespace Go.Proofs.YtiolfelekiopdaaGreatDoor
open Go.RowKit

def putP (w : World) (g o : Nat) (v0 v1 v2 v3 v4 v5 : Value) : World := ((((((w.setCell ⟨g, o, none⟩ v0).setCell ⟨g, o + 1, none⟩ v1).setCell ⟨g, o + 2, none⟩ v2).setCell ⟨g, o + 3, none⟩ v3).setCell ⟨g, o + 4, none⟩ v4).setCell ⟨g, o + 5, none⟩ v5)
theorem putP_blk {w : World} {g o : Nat} {v0 v1 v2 v3 v4 v5 : Value} {cur : Array Value} {e : TypeId} (h : w.heap[g]? = some (.cells cur e (0, 0))) (ho : o + 6 ≤ cur.size) : ∃ cur', (putP w g o v0 v1 v2 v3 v4 v5).heap[g]? = some (.cells cur' e (0, 0)) ∧ cur'.size = cur.size ∧ (∀ p, p < o ∨ o + 6 ≤ p → cur'[p]? = cur[p]?) ∧ ∀ t u, t < 6 → [v0, v1, v2, v3, v4, v5][t]? = some u → cur'[o + t]? = some u := by
  refine ⟨_, set_blk (o + 5) v5 (set_blk (o + 4) v4 (set_blk (o + 3) v3 (set_blk (o + 2) v2 (set_blk (o + 1) v1 (set_blk (o) v0 (h)))))), ?_, ?_, ?_⟩
  · simp
  · intro p hp
    simp only [Array.getElem?_setIfInBounds]
    rw [if_neg (by omega)]
    rw [if_neg (by omega)]
    rw [if_neg (by omega)]
    rw [if_neg (by omega)]
    rw [if_neg (by omega)]
    rw [if_neg (by omega)]
  · intro t u ht hu
    match t, ht with
    | 0, _ => simp at hu; subst hu; simp [Array.getElem?_setIfInBounds]; omega
    | 1, _ => simp at hu; subst hu; simp [Array.getElem?_setIfInBounds]; omega
    | 2, _ => simp at hu; subst hu; simp [Array.getElem?_setIfInBounds]; omega
    | 3, _ => simp at hu; subst hu; simp [Array.getElem?_setIfInBounds]; omega
    | 4, _ => simp at hu; subst hu; simp [Array.getElem?_setIfInBounds]; omega
    | 5, _ => simp at hu; subst hu; simp [Array.getElem?_setIfInBounds]; omega
theorem putP_ext (w : World) (g o : Nat) (v0 v1 v2 v3 v4 v5 : Value) : Ext g w (putP w g o v0 v1 v2 v3 v4 v5) := (((((((Ext.refl g w).set (o) v0).set (o + 1) v1).set (o + 2) v2).set (o + 3) v3).set (o + 4) v4).set (o + 5) v5)
def vlP (f : Nat → ByteArray × Int × Bool × (Option Addr × Nat × Nat) × (Option Addr × Nat × Nat) × (Option Addr × Nat × Nat)) (q t : Nat) : Value := ([.string (f q).1, .int .i64 (f q).2.1, .bool (f q).2.2.1, .slice (f q).2.2.2.1.1 (f q).2.2.2.1.2.1 (f q).2.2.2.1.2.2, .slice (f q).2.2.2.2.1.1 (f q).2.2.2.2.1.2.1 (f q).2.2.2.2.1.2.2, .slice (f q).2.2.2.2.2.1 (f q).2.2.2.2.2.2.1 (f q).2.2.2.2.2.2.2][t]?).getD undef
theorem revP_nil (w : World) : Calls Tryz.prog 12 #[.slice none 0 0] w fun e w' => e = .returned (.tuple #[]) ∧ w' = w := by
  go_enter Tryz.func12, Tryz.ntmps12
  go_wp2_with fail
  refine wp_loop_rounds 1 ?_
  rw [rounds_succ]
  go_wp2_with fail
  exact bodyPost_end (results_none rfl _ _ _) rfl ⟨rfl, rfl⟩
/- the first i, and the last i, have changed places -/
structure RvP (w0 : World) (g n sz : Nat) (f : Nat → ByteArray × Int × Bool × (Option Addr × Nat × Nat) × (Option Addr × Nat × Nat) × (Option Addr × Nat × Nat)) (i : Nat) (w : World) : Prop where
  x : Ext g w0 w
  c : ∃ cur, w.heap[g]? = some (.cells cur 39 (0, 0)) ∧ cur.size = sz ∧ ∀ q, q < n → ∀ t, t < 6 → cur[q * 6 + t]? = some (vlP f (if q < i ∨ n - 1 - i < q then n - 1 - q else q) t)
theorem RvP.drew {w0 : World} {g n sz : Nat} {f : Nat → ByteArray × Int × Bool × (Option Addr × Nat × Nat) × (Option Addr × Nat × Nat) × (Option Addr × Nat × Nat)} {i : Nat} {w : World} (h : RvP w0 g n sz f i w) : RvP w0 g n sz f i w.drew := ⟨h.x.trans (Ext.below ((Below.refl _ _).drew)), h.c⟩
set_option maxRecDepth 100000 in
set_option maxHeartbeats 1000000 in
theorem revP_post {w : World} {g n cap sz : Nat} {cur : Array Value} {f : Nat → ByteArray × Int × Bool × (Option Addr × Nat × Nat) × (Option Addr × Nat × Nat) × (Option Addr × Nat × Nat)} (hb : w.heap[g]? = some (.cells cur 39 (0, 0))) (hs : cur.size = sz) (hv : ∀ q, q < n → ∀ t, t < 6 → cur[q * 6 + t]? = some (vlP f q t)) (hn : n ≤ 1000) (hsn : n * 6 ≤ sz) :
    Calls Tryz.prog 12 #[.slice (some ⟨g, 0, none⟩) n cap] w fun e w' => e = .returned (.tuple #[]) ∧ Ext g w w' ∧ ∃ cur', w'.heap[g]? = some (.cells cur' 39 (0, 0)) ∧ cur'.size = sz ∧ ∀ q, q < n → ∀ t, t < 6 → cur'[q * 6 + t]? = some (vlP f (n - 1 - q) t) := by
  have h0 : RvP w g n sz f 0 w := ⟨Ext.refl _ _, cur, hb, hs, fun q hq t ht => by rw [hv q hq t ht, if_neg (by omega)]⟩
  have H0 := Lib.hid h0
  have hn' : (n : Int) ≤ 1000 := by omega
  clear hb hs hv h0
  go_enter Tryz.func12, Tryz.ntmps12
  go_wp2_with fail
  go_loopg [2, 3] n (fun k vi vj wr => ∃ i : Nat, i ≤ n ∧ k = n - i ∧ vi = .int .i64 (i : Int) ∧ vj = .int .i64 ((n : Int) - 1 - (i : Int)) ∧ Hid (RvP w g n sz f i wr))
  case atStart => exact ⟨0, by omega, by omega, rfl, by go_num, H0⟩
  case round =>
    obtain ⟨i, hid, hk, rfl, rfl, HR⟩ := hrel
    by_cases hlt : i < n - 1 - i
    · obtain ⟨j, hj⟩ : ∃ j, j = n - 1 - i := ⟨_, rfl⟩
      have hji : (n : Int) - 1 - (i : Int) = (j : Int) := by omega
      have hlt' : (i : Int) < (j : Int) := by omega
      have hin : (i : Int) < (n : Int) := by omega
      have hjn : (j : Int) < (n : Int) := by omega
      rw [hji]
      obtain ⟨cur', hc1, hc2, hc3⟩ := HR.out.c
      have hgl : g < wr.heap.size := lt_blk hc1
      have x0 : wr.cell? ⟨g, i * 6, none⟩ = some (.string (f i).1) := by rw [cell_blk hc1]; have := hc3 i (by omega) 0 (by omega); rw [if_neg (by omega)] at this; exact this
      have x1 : wr.cell? ⟨g, i * 6 + 1, none⟩ = some (.int .i64 (f i).2.1) := by rw [cell_blk hc1]; have := hc3 i (by omega) 1 (by omega); rw [if_neg (by omega)] at this; exact this
      have x2 : wr.cell? ⟨g, i * 6 + 2, none⟩ = some (.bool (f i).2.2.1) := by rw [cell_blk hc1]; have := hc3 i (by omega) 2 (by omega); rw [if_neg (by omega)] at this; exact this
      have x3 : wr.cell? ⟨g, i * 6 + 3, none⟩ = some (.slice (f i).2.2.2.1.1 (f i).2.2.2.1.2.1 (f i).2.2.2.1.2.2) := by rw [cell_blk hc1]; have := hc3 i (by omega) 3 (by omega); rw [if_neg (by omega)] at this; exact this
      have x4 : wr.cell? ⟨g, i * 6 + 4, none⟩ = some (.slice (f i).2.2.2.2.1.1 (f i).2.2.2.2.1.2.1 (f i).2.2.2.2.1.2.2) := by rw [cell_blk hc1]; have := hc3 i (by omega) 4 (by omega); rw [if_neg (by omega)] at this; exact this
      have x5 : wr.cell? ⟨g, i * 6 + 5, none⟩ = some (.slice (f i).2.2.2.2.2.1 (f i).2.2.2.2.2.2.1 (f i).2.2.2.2.2.2.2) := by rw [cell_blk hc1]; have := hc3 i (by omega) 5 (by omega); rw [if_neg (by omega)] at this; exact this
      have y0 : wr.cell? ⟨g, j * 6, none⟩ = some (.string (f j).1) := by rw [cell_blk hc1]; have := hc3 j (by omega) 0 (by omega); rw [if_neg (by omega)] at this; exact this
      have y1 : wr.cell? ⟨g, j * 6 + 1, none⟩ = some (.int .i64 (f j).2.1) := by rw [cell_blk hc1]; have := hc3 j (by omega) 1 (by omega); rw [if_neg (by omega)] at this; exact this
      have y2 : wr.cell? ⟨g, j * 6 + 2, none⟩ = some (.bool (f j).2.2.1) := by rw [cell_blk hc1]; have := hc3 j (by omega) 2 (by omega); rw [if_neg (by omega)] at this; exact this
      have y3 : wr.cell? ⟨g, j * 6 + 3, none⟩ = some (.slice (f j).2.2.2.1.1 (f j).2.2.2.1.2.1 (f j).2.2.2.1.2.2) := by rw [cell_blk hc1]; have := hc3 j (by omega) 3 (by omega); rw [if_neg (by omega)] at this; exact this
      have y4 : wr.cell? ⟨g, j * 6 + 4, none⟩ = some (.slice (f j).2.2.2.2.1.1 (f j).2.2.2.2.1.2.1 (f j).2.2.2.2.1.2.2) := by rw [cell_blk hc1]; have := hc3 j (by omega) 4 (by omega); rw [if_neg (by omega)] at this; exact this
      have y5 : wr.cell? ⟨g, j * 6 + 5, none⟩ = some (.slice (f j).2.2.2.2.2.1 (f j).2.2.2.2.2.2.1 (f j).2.2.2.2.2.2.2) := by rw [cell_blk hc1]; have := hc3 j (by omega) 5 (by omega); rw [if_neg (by omega)] at this; exact this
      have zz : ∀ o, wr.frozen? ⟨g, o, none⟩ = false := fun o => frozen_blk hc1
      have HJ := Lib.hid hj
      have HN1 : Hid (RvP w g n sz f (i + 1) (putP (putP wr g (i * 6) (.string (f j).1) (.int .i64 (f j).2.1) (.bool (f j).2.2.1) (.slice (f j).2.2.2.1.1 (f j).2.2.2.1.2.1 (f j).2.2.2.1.2.2) (.slice (f j).2.2.2.2.1.1 (f j).2.2.2.2.1.2.1 (f j).2.2.2.2.1.2.2) (.slice (f j).2.2.2.2.2.1 (f j).2.2.2.2.2.2.1 (f j).2.2.2.2.2.2.2)) g (j * 6) (.string (f i).1) (.int .i64 (f i).2.1) (.bool (f i).2.2.1) (.slice (f i).2.2.2.1.1 (f i).2.2.2.1.2.1 (f i).2.2.2.1.2.2) (.slice (f i).2.2.2.2.1.1 (f i).2.2.2.2.1.2.1 (f i).2.2.2.2.1.2.2) (.slice (f i).2.2.2.2.2.1 (f i).2.2.2.2.2.2.1 (f i).2.2.2.2.2.2.2)).drew) := by
        have hK : (i + 1) * 6 ≤ j * 6 := Nat.mul_le_mul_right _ (by omega)
        have hK2 : (j + 1) * 6 ≤ n * 6 := Nat.mul_le_mul_right _ (by omega)
        have hmul : ∀ q, (q + 1) * 6 = q * 6 + 6 := fun q => by omega
        have hi1 := hmul i
        have hj1 := hmul j
        have fin : ∀ cur'' : Array Value, cur''.size = cur'.size → (∀ p, ¬ (i * 6 ≤ p ∧ p < i * 6 + 6) → ¬ (j * 6 ≤ p ∧ p < j * 6 + 6) → cur''[p]? = cur'[p]?) → (∀ t u, t < 6 → [.string (f j).1, .int .i64 (f j).2.1, .bool (f j).2.2.1, .slice (f j).2.2.2.1.1 (f j).2.2.2.1.2.1 (f j).2.2.2.1.2.2, .slice (f j).2.2.2.2.1.1 (f j).2.2.2.2.1.2.1 (f j).2.2.2.2.1.2.2, .slice (f j).2.2.2.2.2.1 (f j).2.2.2.2.2.2.1 (f j).2.2.2.2.2.2.2][t]? = some u → cur''[i * 6 + t]? = some u) → (∀ t u, t < 6 → [.string (f i).1, .int .i64 (f i).2.1, .bool (f i).2.2.1, .slice (f i).2.2.2.1.1 (f i).2.2.2.1.2.1 (f i).2.2.2.1.2.2, .slice (f i).2.2.2.2.1.1 (f i).2.2.2.2.1.2.1 (f i).2.2.2.2.1.2.2, .slice (f i).2.2.2.2.2.1 (f i).2.2.2.2.2.2.1 (f i).2.2.2.2.2.2.2][t]? = some u → cur''[j * 6 + t]? = some u) → ∀ q, q < n → ∀ t, t < 6 → cur''[q * 6 + t]? = some (vlP f (if q < i + 1 ∨ n - 1 - (i + 1) < q then n - 1 - q else q) t) := by
          intro cur'' _ f2 f3 f4 q hq t ht
          by_cases hqi : q = i
          · subst hqi
            rw [if_pos (by omega), f3 t (vlP f j t) ht (by match t, ht with
              | 0, _ => rfl
              | 1, _ => rfl
              | 2, _ => rfl
              | 3, _ => rfl
              | 4, _ => rfl
              | 5, _ => rfl)]
            rw [show n - 1 - q = j by omega]
          · by_cases hqj : q = j
            · subst hqj
              rw [if_pos (by omega), f4 t (vlP f i t) ht (by match t, ht with
              | 0, _ => rfl
              | 1, _ => rfl
              | 2, _ => rfl
              | 3, _ => rfl
              | 4, _ => rfl
              | 5, _ => rfl)]
              rw [show n - 1 - q = i by omega]
            · have hne : ¬ (i * 6 ≤ q * 6 + t ∧ q * 6 + t < i * 6 + 6) := by
                rintro ⟨a, b⟩
                rcases Nat.lt_or_gt_of_ne hqi with c | c
                · have := Nat.mul_le_mul_right 6 (show q + 1 ≤ i by omega); have := hmul q; omega
                · have := Nat.mul_le_mul_right 6 (show i + 1 ≤ q by omega); omega
              have hne2 : ¬ (j * 6 ≤ q * 6 + t ∧ q * 6 + t < j * 6 + 6) := by
                rintro ⟨a, b⟩
                rcases Nat.lt_or_gt_of_ne hqj with c | c
                · have := Nat.mul_le_mul_right 6 (show q + 1 ≤ j by omega); have := hmul q; omega
                · have := Nat.mul_le_mul_right 6 (show j + 1 ≤ q by omega); omega
              rw [f2 _ hne hne2, hc3 q hq t ht]
              congr 2
              by_cases hq2 : q < i ∨ n - 1 - i < q
              · rw [if_pos hq2, if_pos (by omega)]
              · rw [if_neg hq2, if_neg (by omega)]
        obtain ⟨c1, a1, a2, a3, a4⟩ := putP_blk (o := i * 6) (v0 := .string (f j).1) (v1 := .int .i64 (f j).2.1) (v2 := .bool (f j).2.2.1) (v3 := .slice (f j).2.2.2.1.1 (f j).2.2.2.1.2.1 (f j).2.2.2.1.2.2) (v4 := .slice (f j).2.2.2.2.1.1 (f j).2.2.2.2.1.2.1 (f j).2.2.2.2.1.2.2) (v5 := .slice (f j).2.2.2.2.2.1 (f j).2.2.2.2.2.2.1 (f j).2.2.2.2.2.2.2) hc1 (by omega)
        obtain ⟨c2, b1, b2, b3, b4⟩ := putP_blk (o := j * 6) (v0 := .string (f i).1) (v1 := .int .i64 (f i).2.1) (v2 := .bool (f i).2.2.1) (v3 := .slice (f i).2.2.2.1.1 (f i).2.2.2.1.2.1 (f i).2.2.2.1.2.2) (v4 := .slice (f i).2.2.2.2.1.1 (f i).2.2.2.2.1.2.1 (f i).2.2.2.2.1.2.2) (v5 := .slice (f i).2.2.2.2.2.1 (f i).2.2.2.2.2.2.1 (f i).2.2.2.2.2.2.2) a1 (by omega)
        refine RvP.drew ⟨(HR.out.x.trans (putP_ext _ _ _ _ _ _ _ _ _)).trans (putP_ext _ _ _ _ _ _ _ _ _), c2, b1, by omega, fin c2 (by omega) (fun p h1 h2 => (b3 p (by omega)).trans (a3 p (by omega))) (fun t u ht hu => (b3 _ (by omega)).trans (a4 t u ht hu)) b4⟩
      unfold putP at HN1
      clear hc1 hc2 hc3 hji hj
      generalize (f i).1 = p0a at *
      generalize (f i).2.1 = p1a at *
      generalize (f i).2.2.1 = p2a at *
      generalize (f i).2.2.2.1.1 = p3a at *
      generalize (f i).2.2.2.1.2.1 = p3b at *
      generalize (f i).2.2.2.1.2.2 = p3c at *
      generalize (f i).2.2.2.2.1.1 = p4a at *
      generalize (f i).2.2.2.2.1.2.1 = p4b at *
      generalize (f i).2.2.2.2.1.2.2 = p4c at *
      generalize (f i).2.2.2.2.2.1 = p5a at *
      generalize (f i).2.2.2.2.2.2.1 = p5b at *
      generalize (f i).2.2.2.2.2.2.2 = p5c at *
      generalize (f j).1 = q0a at *
      generalize (f j).2.1 = q1a at *
      generalize (f j).2.2.1 = q2a at *
      generalize (f j).2.2.2.1.1 = q3a at *
      generalize (f j).2.2.2.1.2.1 = q3b at *
      generalize (f j).2.2.2.1.2.2 = q3c at *
      generalize (f j).2.2.2.2.1.1 = q4a at *
      generalize (f j).2.2.2.2.1.2.1 = q4b at *
      generalize (f j).2.2.2.2.1.2.2 = q4c at *
      generalize (f j).2.2.2.2.2.1 = q5a at *
      generalize (f j).2.2.2.2.2.2.1 = q5b at *
      generalize (f j).2.2.2.2.2.2.2 = q5c at *
      go_wp2_with fail
      go_region
      go_wp2_with fail
      have hjj : ((j : Int) - 1) = (n : Int) - 1 - ((i + 1 : Nat) : Int) := by have := HJ.out; omega
      go_roundg (n - (i + 1))
      case measure => omega
      case rel => exact ⟨i + 1, by omega, rfl, by go_num, by rw [hjj], HN1⟩
    · have hlt' : ¬ (i : Int) < (n : Int) - 1 - (i : Int) := by omega
      have HF : Hid (Ext g w wr ∧ ∃ cur', wr.heap[g]? = some (.cells cur' 39 (0, 0)) ∧ cur'.size = sz ∧ ∀ q, q < n → ∀ t, t < 6 → cur'[q * 6 + t]? = some (vlP f (n - 1 - q) t)) := by
        obtain ⟨cur', c1, c2, c3⟩ := HR.out.c
        refine ⟨HR.out.x, cur', c1, c2, fun q hq t ht => ?_⟩
        rw [c3 q hq t ht]
        by_cases hq2 : q < i ∨ n - 1 - i < q
        · rw [if_pos hq2]
        · rw [if_neg hq2]
          rw [show n - 1 - q = q by omega]
      go_wp2_with fail
      exact bodyPost_end (results_none rfl _ _ _) rfl ⟨rfl, HF.out⟩
end Go.Proofs.YtiolfelekiopdaaGreatDoor
