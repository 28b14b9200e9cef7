import Derived.Test.YtadgeapgoggljaaGreatDoorKWi
import Derived.Test.YtadgeapgoggljaaGreatDoorKMa
import Derived.Test.YtadgeapgoggljaaGreatDoorKWf
import Derived.Test.YtadgeapgoggljaaGreatDoorKPa
/- Chapter 9: what is ready, in memory: its block, its row of names; what Len, Less, Swap, Push, Pop do. -/
namespace Go.Proofs.YtadgeapgoggljaaGreatDoor
open Go.RowKit
open Tp (Bs)

/- what a call writes: blocks of U, new ones -/
structure Tr (U U' : Nat → Prop) (w w' : World) : Prop where
  os : w'.os = w.os
  tape : w'.tape = w.tape
  output : w'.output = w.output
  size : w.heap.size ≤ w'.heap.size
  block : ∀ b, b < w.heap.size → ¬ U b → w'.heap[b]? = w.heap[b]?
  more : ∀ b, U' b → U b ∨ w.heap.size ≤ b
theorem Tr.below {U : Nat → Prop} {w w' : World} (h : Below w.heap.size w w') : Tr U U w w' := ⟨h.os, h.tape, h.output, h.size, fun b hb _ => h.block b hb, fun _ hb => Or.inl hb⟩
theorem Tr.trans {U U' U2 : Nat → Prop} {w w1 w2 : World} (h : Tr U U' w w1) (k : Tr U' U2 w1 w2) : Tr U U2 w w2 := by
  refine ⟨k.os.trans h.os, k.tape.trans h.tape, k.output.trans h.output, Nat.le_trans h.size k.size, fun b hb hu => ?_, fun b hb => ?_⟩
  · refine (k.block b (Nat.lt_of_lt_of_le hb h.size) (fun q => ?_)).trans (h.block b hb hu)
    rcases h.more b q with q | q
    · exact hu q
    · omega
  · rcases k.more b hb with q | q
    · exact h.more b q
    · exact Or.inr (Nat.le_trans h.size q)
theorem Tr.toBelow {U U' : Nat → Prop} {w w' : World} {B : Nat} (h : Tr U U' w w') (hB : B ≤ w.heap.size) (hU : ∀ b, U b → B ≤ b) : Below B w w' := ⟨h.os, h.tape, h.output, h.size, fun b hb => h.block b (by omega) (fun q => by have := hU b q; omega)⟩
/- block rb holds the slice of the names l; U: rb, and the row's own block -/
def Rdy (w : World) (rb : Nat) (U : Nat → Prop) (l : List Bs) : Prop := ∃ v, w.heap[rb]? = some (.cells #[v] 73 (0, 0)) ∧ w.ownsRow 0 9 1 v l.length (strs l) ∧ (∀ b, U b ↔ b = rb ∨ v.ownBlock = some b) ∧ v.ownBlock ≠ some rb
theorem Rdy.lt {w : World} {rb : Nat} {U : Nat → Prop} {l : List Bs} (h : Rdy w rb U l) {b : Nat} (hb : U b) : b < w.heap.size := by
  obtain ⟨v, h1, h2, h3, _⟩ := h
  rcases (h3 b).1 hb with rfl | q
  · exact lt_blk h1
  · exact (h2.lt b q).2
theorem Rdy.keep {w w' : World} {rb : Nat} {U : Nat → Prop} {l : List Bs} (h : Rdy w rb U l) (hk : ∀ b, U b → w'.heap[b]? = w.heap[b]?) : Rdy w' rb U l := by
  obtain ⟨v, h1, h2, h3, h4⟩ := h
  refine ⟨v, (hk rb ((h3 rb).2 (Or.inl rfl))).trans h1, owns_keep h2 (fun b _ _ q => hk b ((h3 b).2 (Or.inr q))), h3, h4⟩
theorem Rdy.on {w w' : World} {rb : Nat} {U : Nat → Prop} {l : List Bs} (h : Rdy w rb U l) (k : Below w.heap.size w w') : Rdy w' rb U l := h.keep (fun b hb => k.block b (h.lt hb))
theorem run_loadR (w : World) (a : Addr) (v : Value) (h : w.cell? a = some v) : (loadVar 73 a).run Tryz.prog w = .ok v w := by
  simp [loadVar, isAgg, underlying, Tryz.underlying73, h, Result.andThen]
theorem me_push (a : Option Addr) (w : World) : (Go.method 343 124 (.pointer a) "Push").run Tryz.prog w = .ok (159, .pointer a) w := by kernel_rfl
theorem me_pop (a : Option Addr) (w : World) : (Go.method 343 124 (.pointer a) "Pop").run Tryz.prog w = .ok (158, .pointer a) w := by kernel_rfl
theorem me_len0 (a : Addr) (w : World) : (Go.method 343 124 (.pointer (some a)) "Len").run Tryz.prog w = (loadVar 73 a >>= fun v => (pure (153, v) : Sem (FuncId × Value))).run Tryz.prog w := by kernel_rfl
theorem me_less0 (a : Addr) (w : World) : (Go.method 343 124 (.pointer (some a)) "Less").run Tryz.prog w = (loadVar 73 a >>= fun v => (pure (154, v) : Sem (FuncId × Value))).run Tryz.prog w := by kernel_rfl
theorem me_swap0 (a : Addr) (w : World) : (Go.method 343 124 (.pointer (some a)) "Swap").run Tryz.prog w = (loadVar 73 a >>= fun v => (pure (155, v) : Sem (FuncId × Value))).run Tryz.prog w := by kernel_rfl
theorem me_len {a : Addr} {w : World} {v : Value} (h : w.cell? a = some v) : (Go.method 343 124 (.pointer (some a)) "Len").run Tryz.prog w = .ok (153, v) w := by
  rw [me_len0, Sem.run_bind, run_loadR w a v h]; rfl
theorem me_less {a : Addr} {w : World} {v : Value} (h : w.cell? a = some v) : (Go.method 343 124 (.pointer (some a)) "Less").run Tryz.prog w = .ok (154, v) w := by
  rw [me_less0, Sem.run_bind, run_loadR w a v h]; rfl
theorem me_swap {a : Addr} {w : World} {v : Value} (h : w.cell? a = some v) : (Go.method 343 124 (.pointer (some a)) "Swap").run Tryz.prog w = .ok (155, v) w := by
  rw [me_swap0, Sem.run_bind, run_loadR w a v h]; rfl
end Go.Proofs.YtadgeapgoggljaaGreatDoor
namespace Go.Proofs.YtadgeapgoggljaaGreatDoor
open Go.RowKit
open Tp (Bs)
/- two names changed over -/
def swl (l : List Bs) (i k : Nat) (hi : i < l.length) (hk : k < l.length) : List Bs := (l.toArray.swap i k (by simpa using hi) (by simpa using hk)).toList
theorem swl_perm {l : List Bs} {i k : Nat} {hi : i < l.length} {hk : k < l.length} : (swl l i k hi hk).Perm l := by
  have := Array.swap_perm (xs := l.toArray) (i := i) (j := k) (by simpa using hi) (by simpa using hk)
  exact this.toList
theorem swl_len {l : List Bs} {i k : Nat} {hi : i < l.length} {hk : k < l.length} : (swl l i k hi hk).length = l.length := swl_perm.length_eq
theorem swl_eq {l : List Bs} {i k : Nat} {hi : i < l.length} {hk : k < l.length} : swl l i k hi hk = (l.set i l[k]).set k l[i] := by
  simp [swl, Array.swap]
theorem swl_strs {l : List Bs} {i k : Nat} {hi : i < l.length} {hk : k < l.length} {cur : Array Value} (h : cur.toList.take l.length = strs l) : ((cur.setIfInBounds i (.string (bs l[k]))).setIfInBounds k (.string (bs l[i]))).toList.take l.length = strs (swl l i k hi hk) := by
  rw [swl_eq, Array.toList_setIfInBounds, Array.toList_setIfInBounds, List.take_set, List.take_set, h]
  simp [strs, List.map_set]
theorem Rdy.open {w : World} {rb : Nat} {U : Nat → Prop} {l : List Bs} (h : Rdy w rb U l) (hl : 0 < l.length) : ∃ g cap cur, w.heap[rb]? = some (.cells #[.slice (some ⟨g, 0, none⟩) l.length cap] 73 (0, 0)) ∧ g ≠ rb ∧ w.heap[g]? = some (.cells cur 9 (0, 0)) ∧ l.length ≤ cap ∧ cap ≤ maxLen ∧ cur.size = cap ∧ cur.toList.take l.length = strs l ∧ ∀ b, U b ↔ b = rb ∨ b = g := by
  obtain ⟨v, h1, h2, h3, h4⟩ := h
  rcases h2.2 with ⟨rfl, q⟩ | ⟨g, cap, cur, rfl, q1, q2, q3, q4, q5, q6⟩
  · omega
  · refine ⟨g, cap, cur, h1, fun e => h4 (by rw [e]; rfl), q2, q3, q4, by simpa using q5, by simpa using q6, fun b => (h3 b).trans ⟨fun q => q.imp id (fun e => by cases e; rfl), fun q => q.imp id (fun e => by rw [e]; rfl)⟩⟩
theorem Rdy.close {w : World} {rb g cap : Nat} {cur : Array Value} {l : List Bs} (h1 : w.heap[rb]? = some (.cells #[.slice (some ⟨g, 0, none⟩) l.length cap] 73 (0, 0))) (hg : g ≠ rb) (h2 : w.heap[g]? = some (.cells cur 9 (0, 0))) (h3 : l.length ≤ cap) (h4 : cap ≤ maxLen) (h5 : cur.size = cap) (h6 : cur.toList.take l.length = strs l) : Rdy w rb (fun b => b = rb ∨ b = g) l := by
  refine ⟨_, h1, ⟨by simp [strs], Or.inr ⟨g, cap, cur, rfl, Nat.zero_le _, h2, h3, h4, by simpa using h5, by simpa using h6⟩⟩, fun b => ⟨fun q => q.imp id (fun e => by rw [e]; rfl), fun q => q.imp id (fun e => by cases e; rfl)⟩, fun e => hg (by cases e; rfl)⟩
theorem Rdy.cell {cur : Array Value} {l : List Bs} (h : cur.toList.take l.length = strs l) {i : Nat} (hi : i < l.length) : cur[i]? = some (.string (bs l[i])) := by
  have : (cur.toList.take l.length)[i]? = some (.string (bs l[i])) := by rw [h]; simp [strs, List.getElem?_eq_getElem hi]
  rw [List.getElem?_take_of_lt hi] at this
  simpa using this
end Go.Proofs.YtadgeapgoggljaaGreatDoor
/- Chapter 9: Len, Less, Swap, Push, Pop of what is ready. -/
namespace Go.Proofs.YtadgeapgoggljaaGreatDoor
open Go.RowKit
open Tp (Bs)

theorem Tryz.infoString' : (Tryz.prog.info? 9).map (fun i => (i.zero, i.size, i.bytes)) = some (some (.string ⟨#[]⟩), 1, 16) := by kernel_rfl
set_option maxRecDepth 100000 in
theorem rlen_post (w : World) (a : Option Addr) (n c : Nat) : Calls Tryz.prog 153 #[.slice a n c] w fun e w' => e = .returned (.int .i64 (n : Int)) ∧ w' = w := by
  go_enter Tryz.func153, Tryz.ntmps153
  go_wp2_with fail
  go_ret
  exact ⟨rfl, rfl⟩
set_option maxRecDepth 100000 in
theorem rless_post {w : World} {g n c i k : Nat} {x y : Bs} (hx : w.cell? ⟨g, i, none⟩ = some (.string (bs x))) (hy : w.cell? ⟨g, k, none⟩ = some (.string (bs y))) (hi : i < n) (hk : k < n) :
    Calls Tryz.prog 154 #[.slice (some ⟨g, 0, none⟩) n c, .int .i64 (i : Int), .int .i64 (k : Int)] w fun e w' => (∃ b, e = .returned (.bool b)) ∧ Below w.heap.size w w' := by
  have hi' : (i : Int) < (n : Int) := by omega
  have hk' : (k : Int) < (n : Int) := by omega
  have hi0 : ¬ (i : Int) < 0 := by omega
  have hk0 : ¬ (k : Int) < 0 := by omega
  go_enter Tryz.func154, Tryz.ntmps154
  go_wp2_with fail
  go_region
  go_wp2_with fail
  go_ret
  exact ⟨⟨_, rfl⟩, (Below.refl _ _).drew⟩
end Go.Proofs.YtadgeapgoggljaaGreatDoor
namespace Go.Proofs.YtadgeapgoggljaaGreatDoor
open Go.RowKit
open Tp (Bs)
set_option maxRecDepth 100000 in
set_option maxHeartbeats 1000000 in
theorem rswap_post {w : World} {g n c i k : Nat} {cur : Array Value} {x y : Bs} (hb : w.heap[g]? = some (.cells cur 9 (0, 0))) (hx : cur[i]? = some (.string (bs x))) (hy : cur[k]? = some (.string (bs y))) (hi : i < n) (hk : k < n) :
    Calls Tryz.prog 155 #[.slice (some ⟨g, 0, none⟩) n c, .int .i64 (i : Int), .int .i64 (k : Int)] w fun e w' => e = .returned (.tuple #[]) ∧ Ext g w w' ∧ w'.heap[g]? = some (.cells ((cur.setIfInBounds i (.string (bs y))).setIfInBounds k (.string (bs x))) 9 (0, 0)) := by
  have hi' : (i : Int) < (n : Int) := by omega
  have hk' : (k : Int) < (n : Int) := by omega
  have hi0 : ¬ (i : Int) < 0 := by omega
  have hk0 : ¬ (k : Int) < 0 := by omega
  have c1 : w.cell? ⟨g, i, none⟩ = some (.string (bs x)) := (cell_blk hb).trans hx
  have c2 : w.cell? ⟨g, k, none⟩ = some (.string (bs y)) := (cell_blk hb).trans hy
  have z1 : w.frozen? ⟨g, i, none⟩ = false := frozen_blk hb
  have z2 : w.frozen? ⟨g, k, none⟩ = false := frozen_blk hb
  have hb2 := set_blk i (.string (bs y)) hb
  have z3 : (w.setCell ⟨g, i, none⟩ (.string (bs y))).frozen? ⟨g, k, none⟩ = false := frozen_blk hb2
  have HB := Lib.hid (set_blk k (.string (bs x)) hb2)
  have HX : Hid (Ext g w ((w.setCell ⟨g, i, none⟩ (.string (bs y))).setCell ⟨g, k, none⟩ (.string (bs x)))) := (((Ext.refl g w).set i _).set k _)
  have c3 : ∃ u, (w.setCell ⟨g, i, none⟩ (.string (bs y))).cell? ⟨g, k, none⟩ = some u := by
    rw [cell_blk hb2, Array.getElem?_setIfInBounds]
    split
    · rw [if_pos]
      · exact ⟨_, rfl⟩
      · exact (Array.getElem?_eq_some_iff.1 hx).1
    · exact ⟨_, hy⟩
  obtain ⟨u3, c3⟩ := c3
  clear hb hb2 hx hy
  go_enter Tryz.func155, Tryz.ntmps155
  go_region
  all_goals exact bodyPost_end (results_none rfl _ _ _) rfl ⟨rfl, HX.out.trans (Ext.below ((Below.refl _ _).drew)), HB.out⟩
end Go.Proofs.YtadgeapgoggljaaGreatDoor
namespace Go.Proofs.YtadgeapgoggljaaGreatDoor
open Go.RowKit
open Tp (Bs)
theorem ta_str (b : ByteArray) (w : World) : (Instr.typeAssert (.iface 9 (.string b)) 20 9 false).run Tryz.prog w = .ok (.string b) w := by kernel_rfl
theorem strs_snoc' (l : List Bs) (n : Bs) : strs l ++ [.string (bs n)] = strs (l ++ [n]) := by simp [strs]
theorem push_fin {w w3 : World} {rb : Nat} {U : Nat → Prop} {l : List Bs} {x : Bs} {v v3 : Value} {m : Nat} (hU : ∀ b, U b ↔ b = rb ∨ v.ownBlock = some b) (hrl : rb < w.heap.size) (e3 : w3.heap[rb]? = some (.cells #[v] 73 (0, 0))) (o1 : w3.os = w.os) (o2 : w3.tape = w.tape) (o3 : w3.output = w.output) (o4 : w.heap.size ≤ w3.heap.size) (hb : ∀ b, b < w.heap.size → v.ownBlock ≠ some b → w3.heap[b]? = w.heap[b]?) (hm : m = l.length + 1) (ho : w3.ownsRow 0 9 1 v3 m (strs l ++ [.string (bs x)])) (hw : ∀ g, v3.ownBlock = some g → v.ownBlock = some g ∨ w.heap.size ≤ g) (hv : v.ownBlock ≠ some rb) :
    ∃ U', Rdy (w3.setCell ⟨rb, 0, none⟩ v3) rb U' (l ++ [x]) ∧ Tr U U' w (w3.setCell ⟨rb, 0, none⟩ v3) := by
  have hx : Ext rb w3 (w3.setCell ⟨rb, 0, none⟩ v3) := (Ext.refl rb w3).set 0 _
  have hv3 : v3.ownBlock ≠ some rb := fun q => by
    rcases hw rb q with z | z
    · exact hv z
    · omega
  refine ⟨fun b => b = rb ∨ v3.ownBlock = some b, ⟨v3, (set_blk 0 v3 e3).trans rfl, ?_, fun b => Iff.rfl, hv3⟩, ?_⟩
  · have e : (l ++ [x]).length = m := by simp; omega
    rw [e, ← strs_snoc']
    exact owns_keep ho (fun b _ hl q => hx.block b hl (fun e => hv3 (e ▸ q)))
  · refine ⟨hx.os.trans o1, hx.tape.trans o2, hx.output.trans o3, Nat.le_trans o4 hx.size, fun b hl hu => ?_, fun b q => ?_⟩
    · exact (hx.block b (by omega) (fun e => hu ((hU b).2 (Or.inl e)))).trans (hb b hl (fun e => hu ((hU b).2 (Or.inr e))))
    · rcases q with q | q
      · exact Or.inl ((hU b).2 (Or.inl q))
      · rcases hw b q with z | z
        · exact Or.inl ((hU b).2 (Or.inr z))
        · exact Or.inr z
set_option maxRecDepth 100000 in
set_option maxHeartbeats 2000000 in
theorem rpush_post {w : World} {rb : Nat} {U : Nat → Prop} {l : List Bs} (h : Rdy w rb U l) (hl : l.length ≤ 1000) (x : Bs) :
    Calls Tryz.prog 159 #[.pointer (some ⟨rb, 0, none⟩), .iface 9 (.string (bs x))] w fun e w' => e = .returned (.tuple #[]) ∧ ∃ U', Rdy w' rb U' (l ++ [x]) ∧ Tr U U' w w' := by
  obtain ⟨i1, hi, hz0, hz1, hz2⟩ := info_parts Tryz.infoString'
  obtain ⟨v, h1, h2, h3, h4⟩ := h
  have HOW : Hid (∀ ob, (w.alloc ob).ownsRow 0 9 1 v l.length (strs l)) := fun ob => owns_keep h2 (fun b _ hl _ => Below.heap_alloc _ _ _ hl)
  have hrl := lt_blk h1
  have HFIN : Hid (∀ (w3 : World) (v3 : Value), w3.heap[rb]? = some (.cells #[v] 73 (0, 0)) → w3.os = w.os → w3.tape = w.tape → w3.output = w.output → w.heap.size ≤ w3.heap.size → (∀ b, b < w.heap.size → v.ownBlock ≠ some b → w3.heap[b]? = w.heap[b]?) → w3.ownsRow 0 9 1 v3 (l.length + 1) (strs l ++ [.string (bs x)]) → (∀ g, v3.ownBlock = some g → v.ownBlock = some g ∨ w.heap.size ≤ g) → ∃ U', Rdy (w3.setCell ⟨rb, 0, none⟩ v3) rb U' (l ++ [x]) ∧ Tr U U' w (w3.setCell ⟨rb, 0, none⟩ v3)) := fun w3 v3 e3 o1 o2 o3 o4 hb r1 r3 => push_fin h3 hrl e3 o1 o2 o3 o4 hb rfl r1 r3 h4
  obtain ⟨ao, cap, hnv⟩ := owns_shape h2
  have k0 : w.cell? ⟨rb, 0, none⟩ = some v := (cell_blk h1).trans rfl
  have k0a : ∀ ob, (w.alloc ob).cell? ⟨rb, 0, none⟩ = some v := fun ob => (World.cell?_of_block (w := w) (Below.heap_alloc _ _ _ hrl)).trans k0
  have HB := Lib.hid h1
  have HNW := Lib.hid h4
  rw [hnv] at HOW HFIN k0 k0a HB HNW
  clear h1 h2 h3 h4 hnv
  generalize hss : strs l = ss at *
  clear hss
  generalize hln : l.length = ln at *
  clear hln
  generalize hbx : bs x = bx at *
  have hta := ta_str bx
  go_enter Tryz.func159, Tryz.ntmps159
  go_region_law (first | (refine step_append_where rfl (.tmp 7) (.tmp 10) 73 rfl 0 9 i1 (.string ⟨#[]⟩) 1 16 Tryz.underlying73 hi hz0 hz1 hz2 rfl (by decide) (.slice ao ln cap) ln ss (by simp [Act.eval]) ?hown ⟨w.heap.size, 0, none⟩ 1 1 [.string bx] (by simp [Act.eval]) rfl ?news (by intro u hu; simp at hu; subst hu; rfl) (by unfold maxLen; omega) (by omega) (by omega) ?_; (case hown => exact HOW.out _); (case news => (intro j u hj; rw [Addr.add_lit]; cases j with | zero => (simp at hj; subst hj; first | exact (cell_blk (new_blk w _)).trans rfl | exact (cell_blk (new_blk w.drew _)).trans rfl) | succ j => simp at hj)); intro v3' w3 q1 q2 q3; obtain ⟨a3, c3, hv3⟩ := owns_shape q1; subst hv3; have e3 : w3.heap[rb]? = some (.cells #[.slice ao ln cap] 73 (0, 0)) := (q2.block rb (by simp; omega) (fun e => HNW.out e.symm)).trans ((Below.heap_alloc w _ rb hrl).trans HB.out); have n3 : w3.cell? ⟨rb, 0, none⟩ = some (.slice ao ln cap) := (cell_blk e3).trans rfl; have z3 : w3.frozen? ⟨rb, 0, none⟩ = false := frozen_blk e3; have HF := Lib.hid (HFIN.out w3 _ e3 q2.os q2.tape q2.output (by have := q2.size; simp at this; omega) (fun b hb hne => (q2.block b (by simp; omega) (fun e => hne e.symm)).trans (Below.heap_alloc w _ b hb)) q1 (fun g hg => (q3 g hg).elim Or.inl (fun z => Or.inr (by simp at z; omega)))); clear q1 q2 q3 e3))
  all_goals exact bodyPost_end (results_none rfl _ _ _) rfl ⟨rfl, HF.out⟩
end Go.Proofs.YtadgeapgoggljaaGreatDoor
/- Chapter 9: a heap: up, down, Push, Pop; add, take: what is ready, in whatever order. -/
namespace Go.Proofs.YtadgeapgoggljaaGreatDoor
open Go.RowKit
open Tp (Bs)

def rif (rb : Nat) : Value := .iface 124 (.pointer (some ⟨rb, 0, none⟩))
/- two of them changed over -/
theorem Rdy.swap {w w1 w2 : World} {rb g cap : Nat} {cur : Array Value} {l : List Bs} {i k : Nat} (hi : i < l.length) (hk : k < l.length) (h1 : w.heap[rb]? = some (.cells #[.slice (some ⟨g, 0, none⟩) l.length cap] 73 (0, 0))) (hg : g ≠ rb) (h3 : l.length ≤ cap) (h4 : cap ≤ maxLen) (h5 : cur.size = cap) (h6 : cur.toList.take l.length = strs l) (hb : Below w.heap.size w w1) (hx : Ext g w1 w2) (h2 : w2.heap[g]? = some (.cells ((cur.setIfInBounds i (.string (bs l[k]))).setIfInBounds k (.string (bs l[i]))) 9 (0, 0))) : Rdy w2 rb (fun b => b = rb ∨ b = g) (swl l i k hi hk) ∧ Tr (fun b => b = rb ∨ b = g) (fun b => b = rb ∨ b = g) w w2 := by
  have hl := lt_blk h1
  refine ⟨Rdy.close (cap := cap) (cur := _) ?_ hg h2 (by rw [swl_len]; exact h3) h4 (by simpa using h5) (by rw [swl_len]; exact swl_strs h6), ⟨hx.os.trans hb.os, hx.tape.trans hb.tape, hx.output.trans hb.output, Nat.le_trans hb.size hx.size, fun b hlt hn => (hx.block b (Nat.lt_of_lt_of_le hlt hb.size) (fun e => hn (Or.inr e))).trans (hb.block b hlt), fun b q => Or.inl q⟩⟩
  rw [swl_len]
  exact (hx.block rb (Nat.lt_of_lt_of_le hl hb.size) (Ne.symm hg)).trans ((hb.block rb hl).trans h1)
set_option maxRecDepth 100000 in
set_option maxHeartbeats 2000000 in
theorem up_post {w : World} {rb : Nat} {U : Nat → Prop} {l : List Bs} (h : Rdy w rb U l) (hl : l.length ≤ 1000) (j : Nat) (hj : j < l.length) :
    Calls Tryz.prog 93 #[rif rb, .int .i64 (j : Int)] w fun e w' => e = .returned (.tuple #[]) ∧ ∃ l', l'.Perm l ∧ Rdy w' rb U l' ∧ Tr U U w w' := by
  have HR := Lib.hid h
  unfold rif
  clear h
  go_enter Tryz.func93, Tryz.ntmps93
  go_wp2_with fail
  go_loopg [1] j (fun k vj wr => ∃ (i : Nat) (l' : List Bs), k = i ∧ vj = .int .i64 (i : Int) ∧ i < l.length ∧ l'.Perm l ∧ Hid (Rdy wr rb U l') ∧ Hid (Tr U U w wr))
  case atStart => exact ⟨j, l, rfl, rfl, hj, List.Perm.refl _, HR, Tr.below (Below.refl _ _)⟩
  case round =>
    obtain ⟨i, l', hk, rfl, hil, hp, HRr, HTr⟩ := hrel
    have hpl := hp.length_eq
    have hil1 : (i : Int) ≤ 1000 := by omega
    cases i with
    | zero =>
      go_wp2_with fail
      exact bodyPost_end (results_none rfl _ _ _) rfl ⟨rfl, l', hp, HRr.out, HTr.out⟩
    | succ p =>
      obtain ⟨g, cap, cur, r1, r2, r3, r4, r5, r6, r7, r8⟩ := HRr.out.open (by omega)
      have hq : (((p + 1 : Nat) : Int) - 1).tdiv 2 = ((p / 2 : Nat) : Int) := by
        have : ((p + 1 : Nat) : Int) - 1 = (p : Int) := by omega
        rw [this]
        exact (Int.ofNat_tdiv p 2).symm
      have hne : ¬ ((p / 2 : Nat) : Int) = ((p + 1 : Nat) : Int) := by omega
      have hpq : p / 2 < l'.length := by omega
      have hp1 : p + 1 < l'.length := by omega
      have hcr : wr.cell? ⟨rb, 0, none⟩ = some (.slice (some ⟨g, 0, none⟩) l'.length cap) := (cell_blk r1).trans rfl
      have hml := me_less hcr
      have HLE := Lib.hid (rless_post (w := wr) (c := cap) (n := l'.length) (i := p + 1) (k := p / 2) ((cell_blk r3).trans (Rdy.cell r7 hp1)) ((cell_blk r3).trans (Rdy.cell r7 hpq)) hp1 hpq)
      have e1 : ((p + 1 : Nat) : Int) = (p : Int) + 1 := by omega
      have e2 : ((p / 2 : Nat) : Int) = (p : Int) / 2 := by omega
      have HSW : Hid (∀ W, Below wr.heap.size wr W → Calls Tryz.prog 155 #[.slice (some ⟨g, 0, none⟩) l'.length cap, .int .i64 ((p : Int) / 2), .int .i64 ((p : Int) + 1)] W fun e w' => e = .returned (.tuple #[]) ∧ ∃ l2, l2.Perm l ∧ Rdy w' rb U l2 ∧ Tr U U wr w') := fun W hW => by
        have hgl := lt_blk r3
        have := rswap_post (w := W) (g := g) (n := l'.length) (c := cap) (i := p / 2) (k := p + 1) ((hW.block g hgl).trans r3) (Rdy.cell r7 hpq) (Rdy.cell r7 hp1) hpq hp1
        rw [e1, e2] at this
        refine this.mono ?_
        rintro e w' ⟨he, hx, hb⟩
        obtain ⟨a1, a2⟩ := Rdy.swap hpq hp1 r1 r2 r4 r5 r6 r7 hW hx hb
        have eU : U = fun b => b = rb ∨ b = g := funext fun b => propext (r8 b)
        rw [eU]
        exact ⟨he, _, swl_perm.trans hp, a1, a2⟩
      have HMS : Hid (∀ W, Below wr.heap.size wr W → (Go.method 343 124 (.pointer (some ⟨rb, 0, none⟩)) "Swap").run Tryz.prog W = .ok (155, .slice (some ⟨g, 0, none⟩) l'.length cap) W) := fun W hW => me_swap ((hW.cell (p := ⟨rb, 0, none⟩) (lt_blk r1)).trans hcr)
      rw [e1, e2] at HLE
      have HIL : Hid (p / 2 < l.length) := by show _ < _; omega
      have hp9 : (p : Int) ≤ 1000 := by omega
      clear r1 r2 r3 r4 r5 r6 r7 r8 hcr hne e1 hpq hp1 hil1 hpl
      generalize l'.length = ln at *
      go_wp2_with fail
      clear hml
      refine HLE.out.mono ?_
      rintro e w1 ⟨⟨b, rfl⟩, hb1⟩
      have HB1 := Lib.hid hb1
      clear hb1 HLE
      cases b with
      | false =>
        go_wp2_with fail
        exact bodyPost_end (results_none rfl _ _ _) rfl ⟨rfl, l', hp, HRr.out.on HB1.out, HTr.out.trans (Tr.below HB1.out)⟩
      | true =>
        have hms := HMS.out w1 HB1.out
        have HSW1 := Lib.hid (HSW.out w1 HB1.out)
        clear HMS HSW
        go_wp2_with fail
        clear hms
        refine HSW1.out.mono ?_
        rintro e w2 ⟨rfl, l2, h1, h2, h3⟩
        have HR2 := Lib.hid h2
        have HT2 := Lib.hid h3
        clear h2 h3 HSW1
        go_wp2_with fail
        go_roundg (p / 2)
        case measure => omega
        case rel => exact ⟨p / 2, l2, rfl, by rw [e2], HIL.out, h1, HR2, HTr.out.trans HT2.out⟩
set_option maxRecDepth 100000 in
set_option maxHeartbeats 4000000 in
theorem down_post {w : World} {rb : Nat} {U : Nat → Prop} {l : List Bs} (h : Rdy w rb U l) (hl : l.length ≤ 1000) (n : Nat) (hn : n ≤ l.length) :
    Calls Tryz.prog 94 #[rif rb, .int .i64 0, .int .i64 (n : Int)] w fun e w' => (∃ b, e = .returned (.bool b)) ∧ ∃ l', l'.Perm l ∧ Rdy w' rb U l' ∧ Tr U U w w' := by
  have HR := Lib.hid h
  unfold rif
  have hn1 : (n : Int) ≤ 1000 := by omega
  clear h
  go_enter Tryz.func94, Tryz.ntmps94
  go_wp2_with fail
  go_loopg [7] n (fun k vj wr => ∃ (i : Nat) (l' : List Bs), k = n - i ∧ vj = .int .i64 (i : Int) ∧ i ≤ n ∧ l'.Perm l ∧ Hid (Rdy wr rb U l') ∧ Hid (Tr U U w wr))
  case atStart => exact ⟨0, l, rfl, rfl, Nat.zero_le _, List.Perm.refl _, HR, Tr.below (Below.refl _ _)⟩
  case round =>
    obtain ⟨i, l', hk, rfl, hil, hp, HRr, HTr⟩ := hrel
    have hpl := hp.length_eq
    have hi1 : (i : Int) ≤ 1000 := by omega
    by_cases hge : n ≤ 2 * i + 1
    · have hge' : (2 * (i : Int) + 1) ≥ (n : Int) := by omega
      clear hpl
      go_wp2_with fail
      go_ret
      exact ⟨⟨_, rfl⟩, l', hp, HRr.out, HTr.out⟩
    · have hge' : ¬ (2 * (i : Int) + 1) ≥ (n : Int) := by omega
      obtain ⟨g, cap, cur, r1, r2, r3, r4, r5, r6, r7, r8⟩ := HRr.out.open (by omega)
      have hrl := lt_blk r1
      have hgl := lt_blk r3
      have HLS : Hid (∀ W, Below wr.heap.size wr W → ∀ a b : Nat, a < l.length → b < l.length → Calls Tryz.prog 154 #[.slice (some ⟨g, 0, none⟩) l'.length cap, .int .i64 (a : Int), .int .i64 (b : Int)] W fun e w' => (∃ b, e = .returned (.bool b)) ∧ Below W.heap.size W w') := fun W hW a b ha hb => rless_post ((cell_blk ((hW.block g hgl).trans r3)).trans (Rdy.cell r7 (by omega))) ((cell_blk ((hW.block g hgl).trans r3)).trans (Rdy.cell r7 (by omega))) (by omega) (by omega)
      have HSS : Hid (∀ W, Below wr.heap.size wr W → ∀ a b : Nat, a < l.length → b < l.length → Calls Tryz.prog 155 #[.slice (some ⟨g, 0, none⟩) l'.length cap, .int .i64 (a : Int), .int .i64 (b : Int)] W fun e w' => e = .returned (.tuple #[]) ∧ ∃ l2, l2.Perm l ∧ Rdy w' rb U l2 ∧ Tr U U wr w') := fun W hW a b ha hb => by
        refine (rswap_post ((hW.block g hgl).trans r3) (Rdy.cell r7 (by omega)) (Rdy.cell r7 (by omega)) (by omega) (by omega)).mono ?_
        rintro e w' ⟨he, hx, hbb⟩
        obtain ⟨a1, a2⟩ := Rdy.swap (by omega) (by omega) r1 r2 r4 r5 r6 r7 hW hx hbb
        have eU : U = fun b => b = rb ∨ b = g := funext fun b => propext (r8 b)
        rw [eU]
        exact ⟨he, _, swl_perm.trans hp, a1, a2⟩
      have HME : Hid (∀ W, Below wr.heap.size wr W → (Go.method 343 124 (.pointer (some ⟨rb, 0, none⟩)) "Less").run Tryz.prog W = .ok (154, .slice (some ⟨g, 0, none⟩) l'.length cap) W ∧ (Go.method 343 124 (.pointer (some ⟨rb, 0, none⟩)) "Swap").run Tryz.prog W = .ok (155, .slice (some ⟨g, 0, none⟩) l'.length cap) W) := fun W hW => by
        have hc : W.cell? ⟨rb, 0, none⟩ = some (.slice (some ⟨g, 0, none⟩) l'.length cap) := (cell_blk ((hW.block rb hrl).trans r1)).trans rfl
        exact ⟨me_less hc, me_swap hc⟩
      have HLL : Hid (n ≤ l.length) := hn
      clear r1 r2 r3 r4 r5 r6 r7 r8 hpl hrl hgl
      generalize l'.length = ln at *
      have hj2 : ¬ (2 * (i : Int) + 1) < 0 := by omega
      have eJ1 : ((2 * i + 1 : Nat) : Int) = 2 * (i : Int) + 1 := by omega
      have eJ2 : ((2 * i + 2 : Nat) : Int) = 2 * (i : Int) + 1 + 1 := by omega
      have HE1 := Lib.hid eJ1
      have HE2 := Lib.hid eJ2
      clear eJ1 eJ2
      by_cases h2 : 2 * i + 2 < n
      · have h2' : (2 * (i : Int) + 1 + 1) < (n : Int) := by omega
        have hme := (HME.out wr (Below.refl _ _)).1
        have HL1 := Lib.hid (HLS.out wr (Below.refl _ _) (2 * i + 2) (2 * i + 1) (by omega) (by omega))
        rw [HE1.out, HE2.out] at HL1
        go_wp2_with fail
        clear hme
        refine HL1.out.mono ?_
        rintro e w1 ⟨⟨b, rfl⟩, hb1⟩
        have HB1 := Lib.hid hb1
        clear hb1 HL1
        cases b with
        | false =>
          have hme2 := (HME.out w1 HB1.out).1
          have HL2 := Lib.hid (HLS.out w1 HB1.out (2 * i + 1) i (by omega) (by omega))
          rw [HE1.out] at HL2
          go_wp2_with fail
          clear hme2
          refine HL2.out.mono ?_
          rintro e w2 ⟨⟨b2, rfl⟩, hb2⟩
          have HB2 : Hid (Below wr.heap.size wr w2) := (HB1.out).trans (hb2.mono (HB1.out).size)
          clear hb2 HL2
          cases b2 with
          | false =>
            go_wp2_with fail
            go_ret
            exact ⟨⟨_, rfl⟩, l', hp, HRr.out.on HB2.out, HTr.out.trans (Tr.below HB2.out)⟩
          | true =>
            have hms := (HME.out w2 HB2.out).2
            have HS2 := Lib.hid (HSS.out w2 HB2.out i (2 * i + 1) (by omega) (by omega))
            rw [HE1.out] at HS2
            go_wp2_with fail
            clear hms
            refine HS2.out.mono ?_
            rintro e w3 ⟨rfl, l2, h1, h2, h3⟩
            have HR2 := Lib.hid h2
            have HT2 := Lib.hid h3
            clear h2 h3 HS2
            go_wp2_with fail
            go_roundg (n - (2 * i + 1))
            case measure => omega
            case rel => exact ⟨2 * i + 1, l2, rfl, by rw [HE1.out], by omega, h1, HR2, HTr.out.trans HT2.out⟩
        | true =>
          have hme2 := (HME.out w1 HB1.out).1
          have HL2 := Lib.hid (HLS.out w1 HB1.out (2 * i + 2) i (by omega) (by omega))
          rw [HE2.out] at HL2
          go_wp2_with fail
          clear hme2
          refine HL2.out.mono ?_
          rintro e w2 ⟨⟨b2, rfl⟩, hb2⟩
          have HB2 : Hid (Below wr.heap.size wr w2) := (HB1.out).trans (hb2.mono (HB1.out).size)
          clear hb2 HL2
          cases b2 with
          | false =>
            go_wp2_with fail
            go_ret
            exact ⟨⟨_, rfl⟩, l', hp, HRr.out.on HB2.out, HTr.out.trans (Tr.below HB2.out)⟩
          | true =>
            have hms := (HME.out w2 HB2.out).2
            have HS2 := Lib.hid (HSS.out w2 HB2.out i (2 * i + 2) (by omega) (by omega))
            rw [HE2.out] at HS2
            go_wp2_with fail
            clear hms
            refine HS2.out.mono ?_
            rintro e w3 ⟨rfl, l2, h1, h2, h3⟩
            have HR2 := Lib.hid h2
            have HT2 := Lib.hid h3
            clear h2 h3 HS2
            go_wp2_with fail
            go_roundg (n - (2 * i + 2))
            case measure => omega
            case rel => exact ⟨2 * i + 2, l2, rfl, by rw [HE2.out], by omega, h1, HR2, HTr.out.trans HT2.out⟩
      · have h2' : ¬ (2 * (i : Int) + 1 + 1) < (n : Int) := by omega
        have hme2 := (HME.out wr (Below.refl _ _)).1
        have HL2 := Lib.hid (HLS.out wr (Below.refl _ _) (2 * i + 1) i (by omega) (by omega))
        rw [HE1.out] at HL2
        go_wp2_with fail
        clear hme2
        refine HL2.out.mono ?_
        rintro e w2 ⟨⟨b2, rfl⟩, hb2⟩
        have HB2 : Hid (Below wr.heap.size wr w2) := hb2
        clear hb2 HL2
        cases b2 with
        | false =>
          go_wp2_with fail
          go_ret
          exact ⟨⟨_, rfl⟩, l', hp, HRr.out.on HB2.out, HTr.out.trans (Tr.below HB2.out)⟩
        | true =>
          have hms := (HME.out w2 HB2.out).2
          have HS2 := Lib.hid (HSS.out w2 HB2.out i (2 * i + 1) (by omega) (by omega))
          rw [HE1.out] at HS2
          go_wp2_with fail
          clear hms
          refine HS2.out.mono ?_
          rintro e w3 ⟨rfl, l2, h1, h2, h3⟩
          have HR2 := Lib.hid h2
          have HT2 := Lib.hid h3
          clear h2 h3 HS2
          go_wp2_with fail
          go_roundg (n - (2 * i + 1))
          case measure => omega
          case rel => exact ⟨2 * i + 1, l2, rfl, by rw [HE1.out], by omega, h1, HR2, HTr.out.trans HT2.out⟩
end Go.Proofs.YtadgeapgoggljaaGreatDoor
/- Chapter 9: a heap: Push, Pop; add, take: what is ready, in whatever order. -/
namespace Go.Proofs.YtadgeapgoggljaaGreatDoor
open Go.RowKit
open Tp (Bs)

set_option maxRecDepth 100000 in
set_option maxHeartbeats 2000000 in
theorem hpush_post {w : World} {rb : Nat} {U : Nat → Prop} {l : List Bs} (h : Rdy w rb U l) (hl : l.length < 1000) (x : Bs) :
    Calls Tryz.prog 67 #[rif rb, .iface 9 (.string (bs x))] w fun e w' => e = .returned (.tuple #[]) ∧ ∃ U' l', l'.Perm (x :: l) ∧ Rdy w' rb U' l' ∧ Tr U U' w w' := by
  have HP := Lib.hid (rpush_post h (by omega) x)
  have hmp := me_push (some ⟨rb, 0, none⟩) w
  unfold rif
  clear h
  go_enter Tryz.func67, Tryz.ntmps67
  go_wp2_with fail
  clear hmp
  refine HP.out.mono ?_
  rintro e w1 ⟨rfl, U1, h1, t1⟩
  have HR1 := Lib.hid h1
  have HT1 := Lib.hid t1
  have hll : (l ++ [x]).length = l.length + 1 := by simp
  obtain ⟨g, cap, cur, r1, _⟩ := h1.open (by omega)
  have hc1 : w1.cell? ⟨rb, 0, none⟩ = some (.slice (some ⟨g, 0, none⟩) (l.length + 1) cap) := by rw [← hll]; exact (cell_blk r1).trans rfl
  have hme := me_len hc1
  have HLN := Lib.hid (rlen_post w1 (some ⟨g, 0, none⟩) (l.length + 1) cap)
  have HUP := Lib.hid (up_post (HR1.out) (by rw [hll]; omega) l.length (by rw [hll]; omega))
  unfold rif at HUP
  have hl9 : (l.length : Int) ≤ 1000 := by omega
  clear h1 t1 r1 hc1 HP
  go_wp2_with fail
  clear hme
  refine HLN.out.mono ?_
  rintro e w2 ⟨rfl, rfl⟩
  clear HLN
  go_wp2_with fail
  refine HUP.out.mono ?_
  rintro e w3 ⟨rfl, l', hp, hr, ht⟩
  have HFI : Hid (∃ U' l', l'.Perm (x :: l) ∧ Rdy w3 rb U' l' ∧ Tr U U' w w3) := ⟨U1, l', hp.trans (List.perm_append_singleton x l), hr, HT1.out.trans ht⟩
  clear hp hr ht HUP
  go_wp2_with fail
  exact bodyPost_end (results_none rfl _ _ _) rfl ⟨rfl, HFI.out⟩
set_option maxRecDepth 100000 in
theorem add_post {w : World} {rb : Nat} {U : Nat → Prop} {l : List Bs} (h : Rdy w rb U l) (hl : l.length < 1000) (x : Bs) :
    Calls Tryz.prog 31 #[.pointer (some ⟨rb, 0, none⟩), .string (bs x)] w fun e w' => e = .returned (.tuple #[]) ∧ ∃ U' l', l'.Perm (x :: l) ∧ Rdy w' rb U' l' ∧ Tr U U' w w' := by
  have HP := Lib.hid (hpush_post h hl x)
  unfold rif at HP
  clear h
  go_enter Tryz.func31, Tryz.ntmps31
  go_wp2_with fail
  refine HP.out.mono ?_
  rintro e w1 ⟨rfl, h1⟩
  have H1 := Lib.hid h1
  clear h1 HP
  go_wp2_with fail
  exact bodyPost_end (results_none rfl _ _ _) rfl ⟨rfl, H1.out⟩
set_option maxRecDepth 100000 in
set_option maxHeartbeats 2000000 in
theorem rpop_post {w : World} {rb : Nat} {U : Nat → Prop} {l : List Bs} {x : Bs} (h : Rdy w rb U (l ++ [x])) (hl : l.length ≤ 1000) :
    Calls Tryz.prog 158 #[.pointer (some ⟨rb, 0, none⟩)] w fun e w' => e = .returned (.iface 9 (.string (bs x))) ∧ Rdy w' rb U l ∧ Tr U U w w' := by
  have hll : (l ++ [x]).length = l.length + 1 := by simp
  obtain ⟨g, cap, cur, r1, r2, r3, r4, r5, r6, r7, r8⟩ := h.open (by omega)
  rw [hll] at r1 r4
  have hc : w.cell? ⟨rb, 0, none⟩ = some (.slice (some ⟨g, 0, none⟩) (l.length + 1) cap) := (cell_blk r1).trans rfl
  have hz : w.frozen? ⟨rb, 0, none⟩ = false := frozen_blk r1
  have hx : w.cell? ⟨g, l.length, none⟩ = some (.string (bs x)) := by
    rw [cell_blk r3, Rdy.cell r7 (by omega)]
    simp
  have hl9 : (l.length : Int) ≤ 1000 := by omega
  have hcap : ((l.length : Nat) : Int) ≤ (cap : Int) := by omega
  have hrl := lt_blk r1
  have HFI : Hid (Rdy (w.setCell ⟨rb, 0, none⟩ (.slice (some ⟨g, 0, none⟩) l.length cap)) rb U l ∧ Tr U U w (w.setCell ⟨rb, 0, none⟩ (.slice (some ⟨g, 0, none⟩) l.length cap))) := by
    have hX : Ext rb w (w.setCell ⟨rb, 0, none⟩ (.slice (some ⟨g, 0, none⟩) l.length cap)) := (Ext.refl rb w).set 0 _
    have eU : U = fun b => b = rb ∨ b = g := funext fun b => propext (r8 b)
    rw [eU]
    refine ⟨Rdy.close (cap := cap) (cur := cur) ((set_blk 0 _ r1).trans rfl) r2 ((hX.block g (lt_blk r3) r2).trans r3) (by omega) r5 r6 ?_, ⟨hX.os, hX.tape, hX.output, hX.size, fun b hb hn => hX.block b hb (fun e => hn (Or.inl e)), fun b q => Or.inl q⟩⟩
    have := congrArg (List.take l.length) r7
    rw [List.take_take, hll, Nat.min_eq_left (by omega)] at this
    rw [this]
    simp [strs]
  clear h r1 r2 r3 r4 r5 r6 r7 r8 hll
  generalize l.length = ln at *
  go_enter Tryz.func158, Tryz.ntmps158
  go_wp2_with fail
  go_ret
  exact ⟨rfl, HFI.out⟩
set_option maxRecDepth 100000 in
set_option maxHeartbeats 2000000 in
theorem hpop_post {w : World} {rb : Nat} {U : Nat → Prop} {l : List Bs} (h : Rdy w rb U l) (hl : l.length ≤ 1000) (h0 : 0 < l.length) :
    Calls Tryz.prog 68 #[rif rb] w fun e w' => ∃ x l', e = .returned (.iface 9 (.string (bs x))) ∧ l.Perm (x :: l') ∧ Rdy w' rb U l' ∧ Tr U U w w' := by
  obtain ⟨n, hn⟩ : ∃ n, l.length = n + 1 := ⟨l.length - 1, by omega⟩
  obtain ⟨g, cap, cur, r1, r2, r3, r4, r5, r6, r7, r8⟩ := h.open h0
  have hc : w.cell? ⟨rb, 0, none⟩ = some (.slice (some ⟨g, 0, none⟩) (n + 1) cap) := by rw [← hn]; exact (cell_blk r1).trans rfl
  have hm1 := me_len hc
  have hm2 := me_swap hc
  have HLN := Lib.hid (rlen_post w (some ⟨g, 0, none⟩) (n + 1) cap)
  have HSW : Hid (Calls Tryz.prog 155 #[.slice (some ⟨g, 0, none⟩) (n + 1) cap, .int .i64 0, .int .i64 (n : Int)] w fun e w' => e = .returned (.tuple #[]) ∧ ∃ l2, l2.Perm l ∧ Rdy w' rb U l2 ∧ Tr U U w w') := by
    refine (rswap_post (i := 0) (k := n) r3 (Rdy.cell r7 h0) (Rdy.cell r7 (by omega)) (by omega) (by omega)).mono ?_
    rintro e w' ⟨he, hx, hbb⟩
    obtain ⟨a1, a2⟩ := Rdy.swap h0 (by omega) r1 r2 r4 r5 r6 r7 (Below.refl _ _) hx hbb
    have eU : U = fun b => b = rb ∨ b = g := funext fun b => propext (r8 b)
    rw [eU]
    exact ⟨he, _, swl_perm, a1, a2⟩
  have hn9 : (n : Int) ≤ 1000 := by omega
  have HN := Lib.hid hn
  unfold rif
  clear h r1 r2 r3 r4 r5 r6 r7 r8 hc hn
  go_enter Tryz.func68, Tryz.ntmps68
  go_wp2_with fail
  clear hm1
  refine HLN.out.mono ?_
  rintro e w2 ⟨rfl, rfl⟩
  clear HLN
  go_wp2_with fail
  clear hm2
  refine HSW.out.mono ?_
  rintro e w3 ⟨rfl, l2, hp2, hr2, ht2⟩
  have hl2 := hp2.length_eq
  have HDN := Lib.hid (down_post hr2 (by omega) n (by have := HN.out; omega))
  have HP2 := Lib.hid hp2
  have HT2 := Lib.hid ht2
  unfold rif at HDN
  clear hp2 hr2 ht2 hl2 HSW
  go_wp2_with fail
  refine HDN.out.mono ?_
  rintro e w4 ⟨⟨b, rfl⟩, l3, hp3, hr3, ht3⟩
  have hl3 : l3.length = n + 1 := by rw [hp3.length_eq, HP2.out.length_eq]; exact HN.out
  obtain ⟨l4, x, hl4⟩ : ∃ l4 x, l3 = l4 ++ [x] := by
    rcases List.eq_nil_or_concat l3 with q | ⟨a, b, q⟩
    · rw [q] at hl3; simp at hl3
    · exact ⟨a, b, by simpa using q⟩
  subst hl4
  have hme := me_pop (some ⟨rb, 0, none⟩) w4
  have HPO := Lib.hid (rpop_post hr3 (by simp at hl3; omega))
  have HPM : Hid (l.Perm (x :: l4)) := (HP2.out.symm.trans hp3.symm).trans (List.perm_append_singleton x l4)
  have HT4 := Lib.hid (HT2.out.trans ht3)
  clear hp3 hr3 ht3 hl3 HDN HP2 HT2
  go_wp2_with fail
  clear hme
  refine HPO.out.mono ?_
  rintro e w5 ⟨rfl, hr5, ht5⟩
  have HFI : Hid (l.Perm (x :: l4) ∧ Rdy w5 rb U l4 ∧ Tr U U w2 w5) := ⟨HPM.out, hr5, HT4.out.trans ht5⟩
  clear hr5 ht5 HPO HT4 HPM
  go_wp2_with fail
  go_ret
  exact ⟨x, l4, rfl, HFI.out⟩
set_option maxRecDepth 100000 in
theorem take_post {w : World} {rb : Nat} {U : Nat → Prop} {l : List Bs} (h : Rdy w rb U l) (hl : l.length ≤ 1000) (h0 : 0 < l.length) :
    Calls Tryz.prog 32 #[.pointer (some ⟨rb, 0, none⟩)] w fun e w' => ∃ x l', e = .returned (.string (bs x)) ∧ l.Perm (x :: l') ∧ Rdy w' rb U l' ∧ Tr U U w w' := by
  have HP := Lib.hid (hpop_post h hl h0)
  unfold rif at HP
  clear h
  go_enter Tryz.func32, Tryz.ntmps32
  go_wp2_with fail
  refine HP.out.mono ?_
  rintro e w1 ⟨x, l', rfl, h1⟩
  have H1 := Lib.hid h1
  have hta := ta_str (bs x)
  clear h1 HP
  go_wp2_with fail
  go_ret
  exact ⟨x, l', rfl, H1.out⟩
end Go.Proofs.YtadgeapgoggljaaGreatDoor
/- Chapter 9 (9.1): an order, on lists: who imports whom, who waits for how many, what is ready. No program stands in it. -/
namespace Tp

/- pairs: who is imported, and is there; by whom -/
def edges (K : List Bs) (im : Bs → List Bs) (l : List Bs) : List (Bs × Bs) := l.flatMap fun n => ((im n).filter fun i => decide (i ∈ K)).map fun i => (i, n)
def byE (E : List (Bs × Bs)) (k : Bs) : List Bs := (E.filter fun p => decide (p.1 = k)).map (·.2)
def waitE (E : List (Bs × Bs)) (x : Bs) : Nat := (E.filter fun p => decide (p.2 = x)).length
def need (K : List Bs) (im : Bs → List Bs) (T : List Bs) (x : Bs) : Nat := ((im x).filter fun i => decide (i ∈ K) && !decide (i ∈ T)).length
theorem byE_snoc (E : List (Bs × Bs)) (a b k : Bs) : byE (E ++ [(a, b)]) k = if a = k then byE E k ++ [b] else byE E k := by
  unfold byE
  rw [List.filter_append]
  by_cases h : a = k
  · simp [h]
  · simp [h]
theorem waitE_snoc (E : List (Bs × Bs)) (a b x : Bs) : waitE (E ++ [(a, b)]) x = if b = x then waitE E x + 1 else waitE E x := by
  unfold waitE
  rw [List.filter_append]
  by_cases h : b = x
  · simp [h]
  · simp [h]
theorem waitE_edges {K : List Bs} {im : Bs → List Bs} : ∀ {l : List Bs}, l.Nodup → ∀ x, waitE (edges K im l) x = if x ∈ l then need K im [] x else 0
  | [], _, x => by simp [edges, waitE]
  | n :: t, hn, x => by
    have ih := waitE_edges (K := K) (im := im) (List.nodup_cons.1 hn).2 x
    have hx : n ∉ t := (List.nodup_cons.1 hn).1
    have e : edges K im (n :: t) = (((im n).filter fun i => decide (i ∈ K)).map fun i => (i, n)) ++ edges K im t := by simp [edges]
    unfold waitE at ih ⊢
    rw [e, List.filter_append, List.length_append, ih]
    by_cases h : n = x
    · subst h
      rw [if_neg hx, if_pos (by simp), List.filter_map, List.length_map]
      simp [need, Function.comp_def]
    · have h0 : ((((im n).filter fun i => decide (i ∈ K)).map fun i => (i, n)).filter fun p => decide (p.2 = x)) = [] := by
        rw [List.filter_eq_nil_iff]
        intro p hp
        obtain ⟨i, _, rfl⟩ := List.mem_map.1 hp
        simpa using h
      rw [h0]
      have : (x ∈ n :: t) ↔ x ∈ t := by simp [Ne.symm h]
      simp [this]
theorem mem_byE {K : List Bs} {im : Bs → List Bs} {l : List Bs} {k x : Bs} (h : x ∈ byE (edges K im l) k) : x ∈ l ∧ k ∈ K := by
  obtain ⟨p, hp, rfl⟩ := List.mem_map.1 h
  obtain ⟨hp, hk⟩ := List.mem_filter.1 hp
  obtain ⟨n, hn, hq⟩ := List.mem_flatMap.1 hp
  obtain ⟨i, hi, rfl⟩ := List.mem_map.1 hq
  have : i = k := by simpa using hk
  subst this
  exact ⟨hn, by simpa using (List.mem_filter.1 hi).2⟩
theorem count_byE {K : List Bs} {im : Bs → List Bs} {k : Bs} (hk : k ∈ K) : ∀ {l : List Bs}, l.Nodup → ∀ x, x ∈ l → (byE (edges K im l) k).count x = (im x).count k
  | [], _, x, h => by cases h
  | n :: t, hn, x, h => by
    have hx : n ∉ t := (List.nodup_cons.1 hn).1
    have e : edges K im (n :: t) = (((im n).filter fun i => decide (i ∈ K)).map fun i => (i, n)) ++ edges K im t := by simp [edges]
    have e1 : byE (edges K im (n :: t)) k = byE (((im n).filter fun i => decide (i ∈ K)).map fun i => (i, n)) k ++ byE (edges K im t) k := by rw [e]; simp [byE, List.filter_append]
    have e2 : byE (((im n).filter fun i => decide (i ∈ K)).map fun i => (i, n)) k = List.replicate ((im n).count k) n := by
      unfold byE
      rw [List.filter_map, List.map_map, List.filter_filter]
      have : ((im n).filter fun a => ((fun p : Bs × Bs => decide (p.1 = k)) ∘ fun i => (i, n)) a && decide (a ∈ K)) = (im n).filter fun a => a == k := by
        refine List.filter_congr (fun a _ => ?_)
        by_cases ha : a = k
        · subst ha; simp [hk]
        · simp [ha]
      rw [this, List.count_eq_countP, List.countP_eq_length_filter]
      generalize (im n).filter (fun a => a == k) = q
      induction q with
      | nil => rfl
      | cons a b ih => simp [List.replicate_succ] at ih ⊢; exact ih
    rw [e1, e2, List.count_append]
    rcases List.mem_cons.1 h with rfl | h
    · have : (byE (edges K im t) k).count x = 0 := List.count_eq_zero.2 (fun q => hx (mem_byE q).1)
      simp [this]
    · have hne : ¬ n = x := fun q => hx (q ▸ h)
      rw [count_byE hk (List.nodup_cons.1 hn).2 x h]
      simp [List.count_replicate, hne]
/- each is behind all that it imports, and that is there -/
def Behind (K : List Bs) (im : Bs → List Bs) (T : List Bs) : Prop := ∀ i (h : i < T.length), ∀ n ∈ im T[i], n ∈ K → n ∈ T.take i
theorem Behind.snoc {K : List Bs} {im : Bs → List Bs} {T : List Bs} {x : Bs} (h : Behind K im T) (hx : need K im T x = 0) : Behind K im (T ++ [x]) := by
  intro i hi n hn hk
  rw [List.length_append, List.length_singleton] at hi
  by_cases e : i < T.length
  · rw [List.getElem_append_left e] at hn
    rw [List.take_append_of_le_length (by omega)]
    exact h i e n hn hk
  · have e : i = T.length := by omega
    subst e
    rw [List.getElem_concat_length rfl] at hn
    rw [List.take_append_of_le_length (by omega), List.take_length]
    have h0 : ((im x).filter fun i => decide (i ∈ K) && !decide (i ∈ T)) = [] := List.eq_nil_of_length_eq_zero hx
    have := List.filter_eq_nil_iff.1 h0 n hn
    simpa [hk] using this
theorem need_snoc {K : List Bs} {im : Bs → List Bs} {T : List Bs} {n : Bs} (hk : n ∈ K) (ht : n ∉ T) (x : Bs) : need K im T x = need K im (T ++ [n]) x + (im x).count n := by
  unfold need
  induction im x with
  | nil => rfl
  | cons a l ih =>
    rw [List.filter_cons, List.filter_cons, List.count_cons]
    by_cases e : a = n
    · subst e
      simp [hk, ht] at ih ⊢
      omega
    · by_cases h1 : a ∈ K
      · by_cases h2 : a ∈ T
        · simp [h1, h2, e] at ih ⊢; exact ih
        · simp [h1, h2, e] at ih ⊢; omega
      · simp [h1, e] at ih ⊢; exact ih
theorem nodup_le : ∀ {l k : List Bs}, l.Nodup → (∀ x ∈ l, x ∈ k) → l.length ≤ k.length
  | [], _, _, _ => Nat.zero_le _
  | x :: t, k, hn, hs => by
    have hx := hs x (by simp)
    obtain ⟨h1, h2⟩ := List.nodup_cons.1 hn
    have h3 := nodup_le (k := k.erase x) h2 (fun y hy => (List.mem_erase_of_ne (fun e => h1 (by rw [← e]; exact hy))).2 (hs y (by simp [hy])))
    rw [List.length_erase_of_mem hx] at h3
    have := List.length_pos_of_mem hx
    simp only [List.length_cons]
    omega
/- told T, ready R, each waits for W -/
structure Or1 (K : List Bs) (im : Bs → List Bs) (T R : List Bs) (W : Bs → Nat) : Prop where
  nd : (T ++ R).Nodup
  is : ∀ x, x ∈ T ++ R ↔ x ∈ K ∧ W x = 0
  bh : Behind K im T
  w : ∀ x ∈ K, W x = need K im T x
/- n was told; of those that import it b so far -/
structure Or2 (K : List Bs) (im : Bs → List Bs) (T : List Bs) (n : Bs) (b : List Bs) (R : List Bs) (W : Bs → Nat) : Prop where
  nd : ((T ++ [n]) ++ R).Nodup
  is : ∀ x, x ∈ (T ++ [n]) ++ R ↔ x ∈ K ∧ W x = 0
  bh : Behind K im (T ++ [n])
  w : ∀ x ∈ K, W x + b.count x = need K im T x
theorem Or1.start {K : List Bs} {im : Bs → List Bs} {R : List Bs} {W : Bs → Nat} (hR : R.Nodup) (hi : ∀ x, x ∈ R ↔ x ∈ K ∧ W x = 0) (hW : ∀ x ∈ K, W x = need K im [] x) : Or1 K im [] R W :=
  ⟨by simpa using hR, by simpa using hi, fun i h => by simp at h, hW⟩
theorem Or1.take {K : List Bs} {im : Bs → List Bs} {T R R' : List Bs} {W : Bs → Nat} {n : Bs} (h : Or1 K im T R W) (hp : R.Perm (n :: R')) : Or2 K im T n [] R' W := by
  have p : (T ++ R).Perm ((T ++ [n]) ++ R') := by
    have := hp.append_left T
    simpa [List.append_assoc] using this
  have hn := (h.is n).1 (List.mem_append_right _ (hp.mem_iff.2 (by simp)))
  exact ⟨p.nodup_iff.1 h.nd, fun x => p.mem_iff.symm.trans (h.is x), h.bh.snoc (by rw [← h.w n hn.1]; exact hn.2), fun x hx => by simpa using h.w x hx⟩
theorem Or2.out {K : List Bs} {im : Bs → List Bs} {T R b : List Bs} {W : Bs → Nat} {n : Bs} (h : Or2 K im T n b R W) : n ∈ K ∧ n ∉ T := by
  refine ⟨((h.is n).1 (by simp)).1, fun q => ?_⟩
  have := (List.nodup_append.1 (List.nodup_append.1 h.nd).1).2.2 n q n (by simp)
  exact this rfl
theorem Or2.pos {K : List Bs} {im : Bs → List Bs} {T R b b' : List Bs} {W : Bs → Nat} {n x : Bs} (h : Or2 K im T n b R W) (hx : x ∈ K) (hc : (b ++ x :: b').count x ≤ (im x).count n) : 0 < W x := by
  obtain ⟨h1, h2⟩ := h.out
  have e1 := h.w x hx
  have e2 := need_snoc (im := im) h1 h2 x
  rw [List.count_append, List.count_cons] at hc
  simp at hc
  omega
theorem Or2.one {K : List Bs} {im : Bs → List Bs} {T R b : List Bs} {W : Bs → Nat} {n x : Bs} (h : Or2 K im T n b R W) (hx : x ∈ K) (h1 : W x = 1) {R' : List Bs} (hp : R'.Perm (x :: R)) : Or2 K im T n (b ++ [x]) R' (fun y => if y = x then W x - 1 else W y) := by
  have hni : x ∉ (T ++ [n]) ++ R := fun q => by have := ((h.is x).1 q).2; omega
  have p : ((T ++ [n]) ++ R').Perm (x :: ((T ++ [n]) ++ R)) := (hp.append_left _).trans List.perm_middle
  refine ⟨p.nodup_iff.2 (List.nodup_cons.2 ⟨hni, h.nd⟩), fun y => ?_, h.bh, fun y hy => ?_⟩
  · rw [p.mem_iff, List.mem_cons]
    by_cases e : y = x
    · subst e; simp [hx, h1]
    · simp only [e, false_or, if_false]; exact h.is y
  · rw [List.count_append, List.count_singleton]
    have := h.w y hy
    by_cases e : y = x
    · subst e; simp; omega
    · have e' : ¬ x = y := fun q => e q.symm
      simp [e, e']; omega
theorem Or2.many {K : List Bs} {im : Bs → List Bs} {T R b : List Bs} {W : Bs → Nat} {n x : Bs} (h : Or2 K im T n b R W) (hx : x ∈ K) (h1 : 1 < W x) : Or2 K im T n (b ++ [x]) R (fun y => if y = x then W x - 1 else W y) := by
  refine ⟨h.nd, fun y => ?_, h.bh, fun y hy => ?_⟩
  · rw [h.is y]
    by_cases e : y = x
    · subst e; simp; omega
    · simp [e]
  · rw [List.count_append, List.count_singleton]
    have := h.w y hy
    by_cases e : y = x
    · subst e; simp; omega
    · have e' : ¬ x = y := fun q => e q.symm
      simp [e, e']; omega
theorem Or2.done {K : List Bs} {im : Bs → List Bs} {T R b : List Bs} {W : Bs → Nat} {n : Bs} (h : Or2 K im T n b R W) (hb : ∀ x ∈ K, b.count x = (im x).count n) : Or1 K im (T ++ [n]) R W := by
  obtain ⟨h1, h2⟩ := h.out
  refine ⟨h.nd, h.is, h.bh, fun x hx => ?_⟩
  have e1 := h.w x hx
  have e2 := need_snoc (im := im) h1 h2 x
  have := hb x hx
  omega
theorem Or1.len {K : List Bs} {im : Bs → List Bs} {T R : List Bs} {W : Bs → Nat} (h : Or1 K im T R W) : T.length + R.length ≤ K.length := by
  have := nodup_le h.nd (fun x hx => ((h.is x).1 hx).1)
  simpa using this
/- all came: each once, behind all that it imports -/
structure Came (K : List Bs) (im : Bs → List Bs) (T : List Bs) : Prop where
  nd : T.Nodup
  sub : ∀ x ∈ T, x ∈ K
  bh : Behind K im T
  len : T.length = K.length
/- some lead to one another -/
def Round (K : List Bs) (im : Bs → List Bs) : Prop := ∃ S : Bs → Prop, (∃ x ∈ K, S x) ∧ ∀ x ∈ K, S x → ∃ i ∈ im x, i ∈ K ∧ S i
theorem Or1.came {K : List Bs} {im : Bs → List Bs} {T : List Bs} {W : Bs → Nat} (h : Or1 K im T [] W) (hl : ¬ T.length < K.length) : Came K im T := by
  have := h.len
  have nd := h.nd
  rw [List.append_nil] at nd
  exact ⟨nd, fun x hx => ((h.is x).1 (by simpa using hx)).1, h.bh, by simp at this; omega⟩
theorem Or1.round {K : List Bs} {im : Bs → List Bs} {T : List Bs} {W : Bs → Nat} (h : Or1 K im T [] W) (hK : K.Nodup) (hl : T.length < K.length) : Round K im := by
  refine ⟨fun x => x ∉ T, ?_, fun x hx hS => ?_⟩
  · refine Classical.byContradiction fun q => ?_
    have : ∀ x ∈ K, x ∈ T := fun x hx => Classical.byContradiction fun z => q ⟨x, hx, z⟩
    have := nodup_le hK this
    omega
  · have hW : W x ≠ 0 := fun e => hS (by simpa using (h.is x).2 ⟨hx, e⟩)
    rw [h.w x hx] at hW
    unfold need at hW
    obtain ⟨i, hi⟩ := List.exists_mem_of_length_pos (Nat.pos_of_ne_zero hW)
    obtain ⟨h1, h2⟩ := List.mem_filter.1 hi
    simp at h2
    exact ⟨i, h1, h2.1, h2.2⟩
theorem Came.no_round {K : List Bs} {im : Bs → List Bs} {T : List Bs} (h : Came K im T) : ¬ Round K im := by
  rintro ⟨S, ⟨x, hx, hS⟩, hr⟩
  have hall : ∀ x ∈ K, x ∈ T := by
    intro x hx
    refine Classical.byContradiction fun q => ?_
    have h1 : (x :: T).Nodup := List.nodup_cons.2 ⟨q, h.nd⟩
    have := nodup_le h1 (fun y hy => by
      rcases List.mem_cons.1 hy with rfl | hy
      · exact hx
      · exact h.sub y hy)
    have h2 := h.len
    rw [List.length_cons] at this
    omega
  have key : ∀ n, ∀ i (hi : i < T.length), i ≤ n → ¬ S T[i] := by
    intro n
    induction n with
    | zero =>
      intro i hi h0 hs
      obtain ⟨j, hj, hjk, hjs⟩ := hr _ (h.sub _ (List.getElem_mem hi)) hs
      have := h.bh i hi j hj hjk
      have h00 : i = 0 := by omega
      subst h00
      simp at this
    | succ n ih =>
      intro i hi h0 hs
      obtain ⟨j, hj, hjk, hjs⟩ := hr _ (h.sub _ (List.getElem_mem hi)) hs
      have := h.bh i hi j hj hjk
      obtain ⟨k, hk, rfl⟩ := List.getElem_of_mem this
      rw [List.length_take] at hk
      rw [List.getElem_take] at hjs
      exact ih k (by omega) (by omega) hjs
  obtain ⟨i, hi, rfl⟩ := List.getElem_of_mem (hall x hx)
  exact key i i hi (Nat.le_refl _) hS
end Tp
