/- Writing: how many, a text, names, a flag. -/
import Derived.Test.YtljnddcddclmeaaJ13
namespace Go.Proofs.Ytljnddcddclmeaa
open Go.RowKit
open Ob (Bs)

theorem Wst.notNew {w : World} {wb : Nat} {v : Value} {l : Bs} (h : Wst w wb v l) : v.ownBlock ≠ some w.heap.size := fun e => by have := owns_lt h.own _ e; omega
theorem Wst.le {w : World} {wb : Nat} {v : Value} {l : Bs} (h : Wst w wb v l) : wb + 1 ≤ w.heap.size := lt_of_cell h.c
/- numbers of which the row is new -/
theorem numbers_new {w : World} {wb : Nat} {v : Value} {l : Bs} (h : Wst w wb v l) (ns : List Int) (hns : ∀ n ∈ ns, Ob.I64 n) (hl : l.length + 10 * ns.length ≤ 900000) :
    Calls Try.prog 44 #[.pointer (some ⟨wb, 0, none⟩), .slice (some ⟨w.heap.size, 0, none⟩) ns.length ns.length] (w.alloc (.cells (ns.map fun n => Value.int .i64 n).toArray 2)) (Wrote wb w v (l ++ (ns.map Ob.num).flatten)) := by
  have hb : Below w.heap.size w (w.alloc (.cells (ns.map fun n => Value.int .i64 n).toArray 2)) := (Below.refl _ _).alloc (Nat.le_refl _) _
  refine (numbers_any (h.below hb) ns hns (new_blk _ _) (by have := h.le; omega) h.notNew hl).mono ?_
  rintro e w' ⟨rfl, v', h1, h2⟩
  exact ⟨rfl, v', h1, (Wr.of hb).trans h2⟩
theorem number1 {w : World} {wb : Nat} {v : Value} {l : Bs} (h : Wst w wb v l) (n : Int) (hn : Ob.I64 n) (hl : l.length + 10 ≤ 900000) :
    Calls Try.prog 44 #[.pointer (some ⟨wb, 0, none⟩), .slice (some ⟨w.heap.size, 0, none⟩) 1 1] (w.alloc (.cells #[.int .i64 n] 2)) (Wrote wb w v (l ++ Ob.num n)) := by
  have := numbers_new h [n] (by simpa using hn) (by simpa using hl)
  simpa using this
theorem number2 {w : World} {wb : Nat} {v : Value} {l : Bs} (h : Wst w wb v l) (n m : Int) (hn : Ob.I64 n) (hm : Ob.I64 m) (hl : l.length + 20 ≤ 900000) :
    Calls Try.prog 44 #[.pointer (some ⟨wb, 0, none⟩), .slice (some ⟨w.heap.size, 0, none⟩) 2 2] (w.alloc (.cells #[.int .i64 n, .int .i64 m] 2)) (Wrote wb w v (l ++ (Ob.num n ++ Ob.num m))) := by
  have := numbers_new h [n, m] (by simp [hn, hm]) (by simpa using hl)
  simpa using this
theorem number3 {w : World} {wb : Nat} {v : Value} {l : Bs} (h : Wst w wb v l) (n m k : Int) (hn : Ob.I64 n) (hm : Ob.I64 m) (hk : Ob.I64 k) (hl : l.length + 30 ≤ 900000) :
    Calls Try.prog 44 #[.pointer (some ⟨wb, 0, none⟩), .slice (some ⟨w.heap.size, 0, none⟩) 3 3] (w.alloc (.cells #[.int .i64 n, .int .i64 m, .int .i64 k] 2)) (Wrote wb w v (l ++ (Ob.num n ++ Ob.num m ++ Ob.num k))) := by
  have := numbers_new h [n, m, k] (by simp [hn, hm, hk]) (by simpa using hl)
  simpa using this
set_option maxRecDepth 100000 in
set_option maxHeartbeats 400000 in
theorem many_w {w : World} {wb : Nat} {v : Value} {l : Bs} (h : Wst w wb v l) (n : Int) (hn : Ob.I64 n) (hl : l.length + 10 ≤ 900000) :
    Calls Try.prog 43 #[.pointer (some ⟨wb, 0, none⟩), .int .i64 n] w (Wrote wb w v (l ++ Ob.num n)) := by
  have HC := Lib.hid (number1 h n hn hl)
  clear h
  go_enter Try.func43, Try.ntmps43
  go_wp2_with fail
  refine HC.out.mono ?_
  rintro e w1 ⟨rfl, v1, h1, h2⟩
  go_wp2_with fail
  exact bodyPost_end (results_none rfl _ _ _) rfl ⟨rfl, v1, h1, h2⟩
theorem wpList_str {ops : Array Oper} {rest : List Oper} {o : Oper} {a : Act} {Q : Exit → Act → World → Prop} (hgd : o.guard = none) (sl x : Operand)
    (ho : o.op = .call { callee := .builtin .append, args := #[sl, x], argTypes := #[65, 9] })
    {w : World} {wb : Nat} {v : Value} {l : Bs} (hb : Wst w wb v l) (s : Bs) (hs : a.eval sl = v) (hx : a.eval x = .string (bs s)) (hl : l.length + s.length ≤ 900000)
    (h : ∀ v' w', w'.ownsRow (wb + 1) 5 1 v' (l.length + s.length) (u8s l ++ u8s s) → Exact v v' w w' → Below (wb + 1) w w' → wpList Try.prog ops Q rest (a.put o.dst v') w') : wpList Try.prog ops Q (o :: rest) a w := by
  obtain ⟨i0, hi0, hz0, hz1, hz2⟩ := info_parts Try.infoU8
  refine wpList_append_where_string w hgd sl x 65 9 ho (wb + 1) 5 i0 Try.underlying65 Try.underlying9 hi0 hz0 hz1 hz2 v l.length (u8s l) hs hb.own (bs s) hx (by rw [bs_size]; unfold maxLen; omega) (by rw [bs_size]; omega) hb.le ?_
  intro v' w' h1 h2 h4
  refine h v' w' ?_ h4 ((Below.refl _ _).grown h2 hb.le (owns_row hb.own))
  rw [bs_size] at h1
  exact h1
set_option maxRecDepth 100000 in
set_option maxHeartbeats 400000 in
theorem text_w {w : World} {wb : Nat} {v : Value} {l : Bs} (h : Wst w wb v l) (s : Bs) (hl : l.length + 10 + s.length ≤ 900000) :
    Calls Try.prog 42 #[.pointer (some ⟨wb, 0, none⟩), .string (bs s)] w (Wrote wb w v (l ++ Ob.txt s)) := by
  have hs := bs_size s
  have HNL := Lib.hid (num_len (n := (s.length : Int)) (by unfold Ob.I64; omega))
  have HC := Lib.hid (many_w h (s.length : Int) (by unfold Ob.I64; omega) (by omega))
  have HTX : Hid (l ++ Ob.txt s = l ++ Ob.num (s.length : Int) ++ s) := by show _ = _; simp [Ob.txt]
  rw [HTX.out]
  clear h HTX
  go_enter Try.func42, Try.ntmps42
  go_wp2_with fail
  refine HC.out.mono ?_
  rintro e w1 ⟨rfl, v1, h1, h2⟩
  obtain ⟨ao, cap, rfl⟩ := owns_shape h1.own
  have kc := h1.c
  have kf := h1.fz
  have HL : Hid ((l ++ Ob.num (s.length : Int)).length + s.length ≤ 900000) := by have := HNL.out; show _ ≤ _; simp only [List.length_append]; omega
  generalize l ++ Ob.num (s.length : Int) = m at *
  go_wp2_with (at_builtin; refine wpList_str rfl _ _ rfl h1 s rfl rfl HL.out ?_)
  intro v' w3 hown3 hex3 hb3
  have hc3 := (hb3.cell (p := ⟨wb, 0, none⟩) (by simp)).trans kc
  have hf3 := (hb3.frozen (p := ⟨wb, 0, none⟩) (by simp)).trans kf
  obtain ⟨p1, p2⟩ := h1.push hown3 hex3 hb3
  have HP1 := Lib.hid p1
  have HP2 := Lib.hid (h2.trans p2)
  obtain ⟨a3, c3, rfl⟩ := owns_shape hown3
  clear hown3 hex3 hb3 p1 p2 h1 h2 kc kf HC
  go_wp2_with fail
  exact bodyPost_end (results_none rfl _ _ _) rfl ⟨rfl, _, HP1.out, HP2.out⟩
set_option maxRecDepth 100000 in
set_option maxHeartbeats 400000 in
theorem flag_w {w : World} {wb : Nat} {v : Value} {l : Bs} (h : Wst w wb v l) (b : Bool) (hl : l.length + 1 ≤ 900000) :
    Calls Try.prog 46 #[.pointer (some ⟨wb, 0, none⟩), .bool b] w (Wrote wb w v (l ++ [if b then 1 else 0])) := by
  obtain ⟨ao, cap, rfl⟩ := owns_shape h.own
  have kc := h.c
  have kf := h.fz
  have hwl := lt_of_cell kc
  have hown := h.own
  cases b
  · go_enter Try.func46, Try.ntmps46
    go_wp2_with (at_builtin; refine wpList_elem (size := 1) rfl _ _ 65 rfl Try.underlying65 Try.infoU8 rfl (by decide) (by decide) rfl hown [.int .u8 0] rfl (oneInt _ _) rfl (by omega) (by omega) ?_)
    intro v' w3 hown3 hex3 hb3
    have hc3 := (hb3.cell (p := ⟨wb, 0, none⟩) (by simp)).trans kc
    have hf3 := (hb3.frozen (p := ⟨wb, 0, none⟩) (by simp)).trans kf
    obtain ⟨p1, p2⟩ := h.push (s := [0]) hown3 hex3 hb3
    have HP1 := Lib.hid p1
    have HP2 := Lib.hid p2
    obtain ⟨a3, c3, rfl⟩ := owns_shape hown3
    clear hown3 hex3 hb3 p1 p2 kc kf h hown
    go_wp2_with fail
    exact bodyPost_end (results_none rfl _ _ _) rfl ⟨rfl, _, HP1.out, HP2.out⟩
  · go_enter Try.func46, Try.ntmps46
    go_wp2_with (at_builtin; refine wpList_elem (size := 1) rfl _ _ 65 rfl Try.underlying65 Try.infoU8 rfl (by decide) (by decide) rfl hown [.int .u8 1] rfl (oneInt _ _) rfl (by omega) (by omega) ?_)
    intro v' w3 hown3 hex3 hb3
    have hc3 := (hb3.cell (p := ⟨wb, 0, none⟩) (by simp)).trans kc
    have hf3 := (hb3.frozen (p := ⟨wb, 0, none⟩) (by simp)).trans kf
    obtain ⟨p1, p2⟩ := h.push (s := [1]) hown3 hex3 hb3
    have HP1 := Lib.hid p1
    have HP2 := Lib.hid p2
    obtain ⟨a3, c3, rfl⟩ := owns_shape hown3
    clear hown3 hex3 hb3 p1 p2 kc kf h hown
    go_wp2_with fail
    exact bodyPost_end (results_none rfl _ _ _) rfl ⟨rfl, _, HP1.out, HP2.out⟩
end Go.Proofs.Ytljnddcddclmeaa
