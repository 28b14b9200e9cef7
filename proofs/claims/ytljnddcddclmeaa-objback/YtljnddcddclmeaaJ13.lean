/- Writing: what the writer has; a number. -/
import Derived.Test.YtljnddcddclmeaaJ12
namespace Go.Proofs.Ytljnddcddclmeaa
open Go.RowKit
open Ob (Bs)

theorem Try.infoU8 : (Try.prog.info? 5).map (fun i => (i.zero, i.size, i.bytes)) = some (some (.int .u8 0), 1, 1) := by kernel_rfl
def u8s (l : List UInt8) : List Value := l.map fun b => Value.int .u8 b.toNat
theorem u8s_append (a b : List UInt8) : u8s (a ++ b) = u8s a ++ u8s b := by simp [u8s]
/- the writer's own block: the bytes so far -/
structure Wst (w : World) (wb : Nat) (v : Value) (l : Bs) : Prop where
  c : w.cell? ⟨wb, 0, none⟩ = some v
  fz : w.frozen? ⟨wb, 0, none⟩ = false
  own : w.ownsRow (wb + 1) 5 1 v l.length (u8s l)
/- what is written: that block, the bytes' own, and new ones -/
structure Wr (wb : Nat) (w : World) (v : Value) (w' : World) (v' : Value) : Prop where
  os : w'.os = w.os
  tape : w'.tape = w.tape
  output : w'.output = w.output
  size : w.heap.size ≤ w'.heap.size
  block : ∀ k, k < w.heap.size → k ≠ wb → v.ownBlock ≠ some k → w'.heap[k]? = w.heap[k]?
  lies : ∀ g, v'.ownBlock = some g → v.ownBlock = some g ∨ w.heap.size ≤ g
theorem Wr.refl (wb : Nat) (w : World) (v : Value) : Wr wb w v w v := ⟨rfl, rfl, rfl, Nat.le_refl _, fun _ _ _ _ => rfl, fun _ h => Or.inl h⟩
theorem Wr.trans {wb : Nat} {w w1 w2 : World} {v v1 v2 : Value} (h : Wr wb w v w1 v1) (k : Wr wb w1 v1 w2 v2) : Wr wb w v w2 v2 :=
  ⟨k.os.trans h.os, k.tape.trans h.tape, k.output.trans h.output, Nat.le_trans h.size k.size,
   fun i hi hb hv => (k.block i (Nat.lt_of_lt_of_le hi h.size) hb (fun e => (h.lies i e).elim hv (Nat.not_le.2 hi))).trans (h.block i hi hb hv),
   fun g hg => (k.lies g hg).elim (h.lies g) (fun e => Or.inr (Nat.le_trans h.size e))⟩
theorem Wr.of {wb : Nat} {w w' : World} {v : Value} (h : Below w.heap.size w w') : Wr wb w v w' v := ⟨h.os, h.tape, h.output, h.size, fun k hk _ _ => h.block k hk, fun _ h => Or.inl h⟩
theorem Wr.toBelow {wb : Nat} {w w' : World} {v v' : Value} (h : Wr wb w v w' v') (hs : wb ≤ w.heap.size) (hv : ∀ g, v.ownBlock = some g → wb ≤ g) : Below wb w w' :=
  ⟨h.os, h.tape, h.output, h.size, fun k hk => h.block k (by omega) (by omega) (fun e => by have := hv k e; omega)⟩
theorem Wst.below {w w' : World} {wb : Nat} {v : Value} {l : Bs} (h : Wst w wb v l) (k : Below w.heap.size w w') : Wst w' wb v l := by
  have hl := lt_of_cell h.c
  exact ⟨(k.cell (p := ⟨wb, 0, none⟩) hl).trans h.c, (k.frozen (p := ⟨wb, 0, none⟩) hl).trans h.fz, owns_below h.own k⟩
theorem Wst.push {w w3 : World} {wb : Nat} {v v' : Value} {l s : Bs} (h : Wst w wb v l) (ho : w3.ownsRow (wb + 1) 5 1 v' (l.length + s.length) (u8s l ++ u8s s)) (hx : Exact v v' w w3) (hb : Below (wb + 1) w w3) :
    Wst (w3.setCell ⟨wb, 0, none⟩ v') wb v' (l ++ s) ∧ Wr wb w v (w3.setCell ⟨wb, 0, none⟩ v') v' := by
  have hc := (hb.cell (p := ⟨wb, 0, none⟩) (by simp)).trans h.c
  refine ⟨⟨World.cell?_setCell_same _ _ _ hc, ?_, ?_⟩, ⟨hb.os, hb.tape, hb.output, by simpa using hb.size, fun k hk h1 h2 => (Below.heap_setCell _ _ _ _ (by simpa using h1)).trans (hx.block k hk h2), fun g hg => hx.lies g hg⟩⟩
  · have := (hb.frozen (p := ⟨wb, 0, none⟩) (by simp)).trans h.fz
    simpa using this
  · rw [u8s_append, List.length_append]
    exact owns_keep ho (fun b h1 _ _ => Below.heap_setCell _ _ _ _ (by simp; omega))
theorem vb_len (u : Nat) : ∀ k, u < 128 ^ k → (Ob.vb u).length ≤ max k 1 := by
  induction u using Nat.strongRecOn with
  | ind u ih =>
    intro k hk
    unfold Ob.vb
    by_cases h : u < 128
    · rw [if_pos h]; simp; omega
    · rw [if_neg h]
      cases k with
      | zero => simp at hk; omega
      | succ k =>
        have := ih (u / 128) (by omega) k (by rw [Nat.pow_succ] at hk; omega)
        cases k with
        | zero => simp at hk; omega
        | succ k => simp; omega
theorem num_len {n : Int} (h : Ob.I64 n) : (Ob.num n).length ≤ 10 := by
  have := vb_len (Ob.zig n) 10 (by have := Ob.zig_lt h; omega)
  unfold Ob.num; omega
theorem nums_len : ∀ (ns : List Int), (∀ n ∈ ns, Ob.I64 n) → ((ns.map Ob.num).flatten).length ≤ 10 * ns.length := by
  intro ns
  induction ns with
  | nil => intro _; simp
  | cons n l ih =>
    intro h
    have h1 := num_len (h n (by simp))
    have h2 := ih (fun x hx => h x (by simp [hx]))
    simp only [List.map_cons, List.flatten_cons, List.length_append, List.length_cons]
    omega
theorem zig_pos {n : Int} (h : Ob.I64 n) (h0 : ¬ n < 0) : IntKind.u64.wrap (IntKind.u64.wrap n * 2) = (Ob.zig n : Int) := by
  unfold Ob.I64 at h
  unfold Ob.zig
  rw [if_neg h0, IntKind.wrap_u64, IntKind.wrap_u64]
  omega
theorem zig_neg {n : Int} (h : Ob.I64 n) (h0 : n < 0) : ∃ b : Nat, IntKind.u64.wrap (IntKind.u64.wrap n * 2) = (b : Int) ∧ Go.bits .xor .u64 IntKind.u64.max (b : Int) = (Ob.zig n : Int) := by
  unfold Ob.I64 at h
  refine ⟨(2 * n + 18446744073709551616).toNat, ?_, ?_⟩
  · rw [IntKind.wrap_u64, IntKind.wrap_u64]; omega
  · have e : IntKind.u64.max = 18446744073709551615 := rfl
    rw [e, not64 _ (by omega)]
    unfold Ob.zig
    rw [if_pos h0]
    omega
theorem oneInt (k : IntKind) (x : Int) : ∀ u ∈ [Value.int k x], u.oneCell' = true := by intro y hy; simp at hy; subst hy; rfl
def Wrote (wb : Nat) (w : World) (v : Value) (l : Bs) (e : Ending) (w' : World) : Prop := e = .returned (.tuple #[]) ∧ ∃ v', Wst w' wb v' l ∧ Wr wb w v w' v'
set_option maxRecDepth 100000 in
set_option maxHeartbeats 1000000 in
theorem numbers_any {w : World} {wb nb : Nat} {v : Value} {l : Bs} (h : Wst w wb v l) (ns : List Int) (hns : ∀ n ∈ ns, Ob.I64 n) (hb : w.heap[nb]? = some (.cells (ns.map fun n => Value.int .i64 n).toArray 2 (0, 0))) (h1 : nb ≠ wb) (h2 : v.ownBlock ≠ some nb) (hl : l.length + 10 * ns.length ≤ 900000) :
    Calls Try.prog 44 #[.pointer (some ⟨wb, 0, none⟩), .slice (some ⟨nb, 0, none⟩) ns.length ns.length] w (Wrote wb w v (l ++ (ns.map Ob.num).flatten)) := by
  have hnl : (ns.length : Int) ≤ 900000 := by omega
  have HB := Lib.hid hb
  have HN := Lib.hid hns
  have HS := Lib.hid h
  have hnb := lt_blk hb
  clear hb hns h
  go_enter Try.func44, Try.ntmps44
  go_wp2_with fail
  go_loopg [9] ns.length (fun k vi wr => ∃ (i : Nat) (v' : Value), i ≤ ns.length ∧ k = ns.length - i ∧ vi = .int .i64 (i : Int) ∧ Hid (Wst wr wb v' (l ++ ((ns.take i).map Ob.num).flatten)) ∧ Hid (Wr wb w v wr v'))
  case atStart => exact ⟨0, v, by omega, by omega, rfl, by simpa using HS, Wr.refl _ _ _⟩
  case round =>
    obtain ⟨i, v1, hid, hk, rfl, HST, HW⟩ := hrel
    clear HS
    by_cases hlt : i < ns.length
    · have hlt' : (i : Int) < (ns.length : Int) := by omega
      have hc : wr.cell? ⟨nb, i, none⟩ = some (.int .i64 ns[i]) := by
        rw [cell_blk ((HW.out.block nb hnb h1 h2).trans HB.out)]; simp [hlt]
      have hn := HN.out ns[i] (List.getElem_mem hlt)
      have hsn : l ++ ((ns.take i).map Ob.num).flatten ++ Ob.vb (Ob.zig ns[i]) = l ++ ((ns.take (i + 1)).map Ob.num).flatten := by
        rw [List.take_succ_eq_append_getElem hlt, List.map_append, List.flatten_append, List.append_assoc]; simp [Ob.num]
      generalize ns[i] = n at *
      have hTL : (l ++ ((ns.take (i + 1)).map Ob.num).flatten).length ≤ 900000 := by
        have := nums_len (ns.take (i + 1)) (fun x hx => HN.out x (List.mem_of_mem_take hx))
        simp only [List.length_append]
        have h3 : (ns.take (i + 1)).length ≤ ns.length := List.length_take_le' _ _
        omega
      have HT : Hid (l ++ ((ns.take i).map Ob.num).flatten ++ Ob.vb (Ob.zig n) = l ++ ((ns.take (i + 1)).map Ob.num).flatten) := hsn
      clear hsn
      obtain ⟨T, hT⟩ : ∃ T, l ++ ((ns.take (i + 1)).map Ob.num).flatten = T := ⟨_, rfl⟩
      rw [hT] at HT hTL
      have HTT := Lib.hid hT
      clear hT
      have hzl := Ob.zig_lt hn
      have hcase : (n < 0 ∧ ∃ b : Nat, IntKind.u64.wrap (IntKind.u64.wrap n * 2) = (b : Int) ∧ Go.bits .xor .u64 IntKind.u64.max (b : Int) = (Ob.zig n : Int)) ∨ (¬ n < 0 ∧ IntKind.u64.wrap (IntKind.u64.wrap n * 2) = (Ob.zig n : Int)) := by
        by_cases h0 : n < 0
        · exact Or.inl ⟨h0, zig_neg hn h0⟩
        · exact Or.inr ⟨h0, zig_pos hn h0⟩
      generalize Ob.zig n = z at *
      clear hn
      rcases hcase with ⟨h0, b, ez1, ez2⟩ | ⟨h0, ez1⟩
      all_goals
        go_wp2_with fail
        go_loopg [6] z (fun k vu wr' => ∃ (u : Nat) (v2 : Value) (m : Bs), k = u ∧ vu = .int .u64 (u : Int) ∧ u < 18446744073709551616 ∧ Hid (Wst wr' wb v2 m) ∧ Hid (Wr wb w v wr' v2) ∧ Hid (m ++ Ob.vb u = T))
        case atStart => exact ⟨z, v1, _, rfl, rfl, hzl, HST, HW, HT⟩
        case round =>
          obtain ⟨u, v2, m, hk2, rfl, hu, HS2, HW2, HT2⟩ := hrel
          clear HST HW HT hc
          have hml : m.length < 900000 := by
            have := congrArg List.length HT2.out
            have h3 := Ob.vb_pos u
            rw [List.length_append] at this
            omega
          obtain ⟨ao, cap, rfl⟩ := owns_shape HS2.out.own
          have kc := HS2.out.c
          have kf := HS2.out.fz
          have hwl := lt_of_cell kc
          have hown := HS2.out.own
          by_cases hge : u < 128
          · have hge' : (u : Int) < 128 := by omega
            have ew : IntKind.u8.wrap (u : Int) = (u : Int) := by rw [IntKind.wrap_u8']; omega
            have HV : Hid (Ob.vb u = [UInt8.ofNat u]) := by unfold Ob.vb; rw [if_pos hge]; exact rfl
            have hcn : (u : Int) = (((UInt8.ofNat u).toNat : Nat) : Int) := by rw [UInt8.toNat_ofNat']; omega
            have HCN := Lib.hid hcn
            clear hge hcn
            go_wp2_with (at_builtin; refine wpList_elem (size := 1) rfl _ _ 65 rfl Try.underlying65 Try.infoU8 rfl (by decide) (by decide) rfl hown [.int .u8 (u : Int)] rfl (oneInt _ _) rfl (by omega) (by omega) ?_)
            intro v' w3 hown3 hex3 hb3
            have hc3 := (hb3.cell (p := ⟨wb, 0, none⟩) (by simp)).trans kc
            have hf3 := (hb3.frozen (p := ⟨wb, 0, none⟩) (by simp)).trans kf
            have hown4 : w3.ownsRow (wb + 1) 5 1 v' (m.length + [UInt8.ofNat u].length) (u8s m ++ u8s [UInt8.ofNat u]) := by
              have e : u8s [UInt8.ofNat u] = [.int .u8 (u : Int)] := by show [Value.int .u8 _] = _; rw [HCN.out]
              rw [e]; exact hown3
            obtain ⟨p1, p2⟩ := HS2.out.push hown4 hex3 hb3
            have HP1 := Lib.hid p1
            have HP2 := Lib.hid (HW2.out.trans p2)
            have HPT : Hid (m ++ [UInt8.ofNat u] = T) := by rw [← HT2.out, HV.out]; exact rfl
            obtain ⟨a3, c3, rfl⟩ := owns_shape hown3
            clear hown3 hown4 hex3 hb3 p1 p2 hown HS2 HW2 HT2 HV HCN kc kf
            go_wp2_with fail
            go_roundg (ns.length - (i + 1))
            case measure => omega
            case rel => exact ⟨i + 1, _, by omega, rfl, by go_num, by rw [HTT.out, ← HPT.out]; exact HP1, HP2⟩
          · have hge' : ¬ (u : Int) < 128 := by omega
            obtain ⟨q, hq⟩ : ∃ q, q = u % 256 := ⟨_, rfl⟩
            have ew : IntKind.u8.wrap (u : Int) = (q : Int) := by rw [IntKind.wrap_u8']; omega
            have eo := or128 q (by omega)
            obtain ⟨c, hcc⟩ : ∃ c, c = q % 128 + 128 := ⟨_, rfl⟩
            rw [← hcc] at eo
            have HV : Hid (Ob.vb u = UInt8.ofNat c :: Ob.vb (u / 128)) := by
              show _ = _
              rw [Ob.vb, if_neg hge, hcc, hq, show u % 256 % 128 = u % 128 by omega]
            have hcn : (c : Int) = (((UInt8.ofNat c).toNat : Nat) : Int) := by rw [UInt8.toNat_ofNat']; omega
            have HCN := Lib.hid hcn
            have hud : u / 128 < u := by omega
            clear hge hcn hcc hq
            go_wp2_with (at_builtin; refine wpList_elem (size := 1) rfl _ _ 65 rfl Try.underlying65 Try.infoU8 rfl (by decide) (by decide) rfl hown [.int .u8 (c : Int)] rfl (oneInt _ _) rfl (by omega) (by omega) ?_)
            intro v' w3 hown3 hex3 hb3
            have hc3 := (hb3.cell (p := ⟨wb, 0, none⟩) (by simp)).trans kc
            have hf3 := (hb3.frozen (p := ⟨wb, 0, none⟩) (by simp)).trans kf
            have hown4 : w3.ownsRow (wb + 1) 5 1 v' (m.length + [UInt8.ofNat c].length) (u8s m ++ u8s [UInt8.ofNat c]) := by
              have e : u8s [UInt8.ofNat c] = [.int .u8 (c : Int)] := by show [Value.int .u8 _] = _; rw [HCN.out]
              rw [e]; exact hown3
            obtain ⟨p1, p2⟩ := HS2.out.push hown4 hex3 hb3
            have HP1 := Lib.hid p1
            have HP2 := Lib.hid (HW2.out.trans p2)
            have HPT : Hid (m ++ [UInt8.ofNat c] ++ Ob.vb (u / 128) = T) := by rw [← HT2.out, HV.out]; show _ = _; simp
            obtain ⟨a3, c3, rfl⟩ := owns_shape hown3
            clear hown3 hown4 hex3 hb3 p1 p2 hown HS2 HW2 HT2 HV HCN kc kf
            go_wp2_with fail
            go_roundg (u / 128)
            case measure => omega
            case rel => exact ⟨u / 128, _, _, rfl, by go_num, by omega, HP1, HP2, HPT⟩
    · have hlt' : ¬ (i : Int) < (ns.length : Int) := by omega
      have hei : i = ns.length := by omega
      have HF : Hid (Wst wr wb v1 (l ++ (ns.map Ob.num).flatten)) := by rw [hei, List.take_length] at HST; exact HST
      clear HST hei
      go_wp2_with fail
      exact bodyPost_end (results_none rfl _ _ _) rfl ⟨rfl, v1, HF.out, HW.out⟩
end Go.Proofs.Ytljnddcddclmeaa
