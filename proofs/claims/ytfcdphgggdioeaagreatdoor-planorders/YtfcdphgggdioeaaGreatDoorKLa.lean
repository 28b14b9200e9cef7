import Derived.Test.YtfcdphgggdioeaaGreatDoorKWb
import Derived.Test.YtfcdphgggdioeaaGreatDoorKAa
import Derived.Test.YtfcdphgggdioeaaGreatDoorKWa
import Derived.Test.YtfcdphgggdioeaaGreatDoorKPa
import Derived.Test.YtfcdphgggdioeaaGreatDoorKMa
import Derived.Maps.RangeWalk
/- Chapter 9: what is ready, in memory: its block, its row of names; what Len, Less, Swap, Push, Pop do. -/
namespace Go.Proofs.YtfcdphgggdioeaaGreatDoor
open Go.RowKit
open Tp (Bs)

/- what a call writes: blocks of U, new ones -/
structure Tr (U U' : Nat → Prop) (w w' : World) : Prop where
  os : w'.os = w.os
  tape : w'.tape = w.tape
  output : w'.output = w.output
  size : w.heap.size ≤ w'.heap.size
  block : ∀ b, b < w.heap.size → ¬ U b → w'.heap[b]? = w.heap[b]?
  more : ∀ b, U' b → U b ∨ w.heap.size ≤ b
theorem Tr.below {U : Nat → Prop} {w w' : World} (h : Below w.heap.size w w') : Tr U U w w' := ⟨h.os, h.tape, h.output, h.size, fun b hb _ => h.block b hb, fun _ hb => Or.inl hb⟩
theorem Tr.trans {U U' U2 : Nat → Prop} {w w1 w2 : World} (h : Tr U U' w w1) (k : Tr U' U2 w1 w2) : Tr U U2 w w2 := by
  refine ⟨k.os.trans h.os, k.tape.trans h.tape, k.output.trans h.output, Nat.le_trans h.size k.size, fun b hb hu => ?_, fun b hb => ?_⟩
  · refine (k.block b (Nat.lt_of_lt_of_le hb h.size) (fun q => ?_)).trans (h.block b hb hu)
    rcases h.more b q with q | q
    · exact hu q
    · omega
  · rcases k.more b hb with q | q
    · exact h.more b q
    · exact Or.inr (Nat.le_trans h.size q)
theorem Tr.toBelow {U U' : Nat → Prop} {w w' : World} {B : Nat} (h : Tr U U' w w') (hB : B ≤ w.heap.size) (hU : ∀ b, U b → B ≤ b) : Below B w w' := ⟨h.os, h.tape, h.output, h.size, fun b hb => h.block b (by omega) (fun q => by have := hU b q; omega)⟩
/- block rb holds the slice of the names l; U: rb, and the row's own block -/
def Rdy (w : World) (rb : Nat) (U : Nat → Prop) (l : List Bs) : Prop := ∃ v, w.heap[rb]? = some (.cells #[v] 72 (0, 0)) ∧ w.ownsRow 0 9 1 v l.length (strs l) ∧ (∀ b, U b ↔ b = rb ∨ v.ownBlock = some b) ∧ v.ownBlock ≠ some rb
theorem Rdy.lt {w : World} {rb : Nat} {U : Nat → Prop} {l : List Bs} (h : Rdy w rb U l) {b : Nat} (hb : U b) : b < w.heap.size := by
  obtain ⟨v, h1, h2, h3, _⟩ := h
  rcases (h3 b).1 hb with rfl | q
  · exact lt_blk h1
  · exact (h2.lt b q).2
theorem Rdy.keep {w w' : World} {rb : Nat} {U : Nat → Prop} {l : List Bs} (h : Rdy w rb U l) (hk : ∀ b, U b → w'.heap[b]? = w.heap[b]?) : Rdy w' rb U l := by
  obtain ⟨v, h1, h2, h3, h4⟩ := h
  refine ⟨v, (hk rb ((h3 rb).2 (Or.inl rfl))).trans h1, owns_keep h2 (fun b _ _ q => hk b ((h3 b).2 (Or.inr q))), h3, h4⟩
theorem Rdy.on {w w' : World} {rb : Nat} {U : Nat → Prop} {l : List Bs} (h : Rdy w rb U l) (k : Below w.heap.size w w') : Rdy w' rb U l := h.keep (fun b hb => k.block b (h.lt hb))
theorem run_loadR (w : World) (a : Addr) (v : Value) (h : w.cell? a = some v) : (loadVar 72 a).run Tryz.prog w = .ok v w := by
  simp [loadVar, isAgg, underlying, Tryz.underlying72, h, Result.andThen]
theorem me_push (a : Option Addr) (w : World) : (Go.method 365 99 (.pointer a) "Push").run Tryz.prog w = .ok (188, .pointer a) w := by kernel_rfl
theorem me_pop (a : Option Addr) (w : World) : (Go.method 365 99 (.pointer a) "Pop").run Tryz.prog w = .ok (187, .pointer a) w := by kernel_rfl
theorem me_len0 (a : Addr) (w : World) : (Go.method 365 99 (.pointer (some a)) "Len").run Tryz.prog w = (loadVar 72 a >>= fun v => (pure (184, v) : Sem (FuncId × Value))).run Tryz.prog w := by kernel_rfl
theorem me_less0 (a : Addr) (w : World) : (Go.method 365 99 (.pointer (some a)) "Less").run Tryz.prog w = (loadVar 72 a >>= fun v => (pure (185, v) : Sem (FuncId × Value))).run Tryz.prog w := by kernel_rfl
theorem me_swap0 (a : Addr) (w : World) : (Go.method 365 99 (.pointer (some a)) "Swap").run Tryz.prog w = (loadVar 72 a >>= fun v => (pure (186, v) : Sem (FuncId × Value))).run Tryz.prog w := by kernel_rfl
theorem me_len {a : Addr} {w : World} {v : Value} (h : w.cell? a = some v) : (Go.method 365 99 (.pointer (some a)) "Len").run Tryz.prog w = .ok (184, v) w := by
  rw [me_len0, Sem.run_bind, run_loadR w a v h]; rfl
theorem me_less {a : Addr} {w : World} {v : Value} (h : w.cell? a = some v) : (Go.method 365 99 (.pointer (some a)) "Less").run Tryz.prog w = .ok (185, v) w := by
  rw [me_less0, Sem.run_bind, run_loadR w a v h]; rfl
theorem me_swap {a : Addr} {w : World} {v : Value} (h : w.cell? a = some v) : (Go.method 365 99 (.pointer (some a)) "Swap").run Tryz.prog w = .ok (186, v) w := by
  rw [me_swap0, Sem.run_bind, run_loadR w a v h]; rfl
end Go.Proofs.YtfcdphgggdioeaaGreatDoor
namespace Go.Proofs.YtfcdphgggdioeaaGreatDoor
open Go.RowKit
open Tp (Bs)
/- two names changed over -/
def swl (l : List Bs) (i k : Nat) (hi : i < l.length) (hk : k < l.length) : List Bs := (l.toArray.swap i k (by simpa using hi) (by simpa using hk)).toList
theorem swl_perm {l : List Bs} {i k : Nat} {hi : i < l.length} {hk : k < l.length} : (swl l i k hi hk).Perm l := by
  have := Array.swap_perm (xs := l.toArray) (i := i) (j := k) (by simpa using hi) (by simpa using hk)
  exact this.toList
theorem swl_len {l : List Bs} {i k : Nat} {hi : i < l.length} {hk : k < l.length} : (swl l i k hi hk).length = l.length := swl_perm.length_eq
theorem swl_eq {l : List Bs} {i k : Nat} {hi : i < l.length} {hk : k < l.length} : swl l i k hi hk = (l.set i l[k]).set k l[i] := by
  simp [swl, Array.swap]
theorem swl_strs {l : List Bs} {i k : Nat} {hi : i < l.length} {hk : k < l.length} {cur : Array Value} (h : cur.toList.take l.length = strs l) : ((cur.setIfInBounds i (.string (bs l[k]))).setIfInBounds k (.string (bs l[i]))).toList.take l.length = strs (swl l i k hi hk) := by
  rw [swl_eq, Array.toList_setIfInBounds, Array.toList_setIfInBounds, List.take_set, List.take_set, h]
  simp [strs, List.map_set]
theorem Rdy.open {w : World} {rb : Nat} {U : Nat → Prop} {l : List Bs} (h : Rdy w rb U l) (hl : 0 < l.length) : ∃ g cap cur, w.heap[rb]? = some (.cells #[.slice (some ⟨g, 0, none⟩) l.length cap] 72 (0, 0)) ∧ g ≠ rb ∧ w.heap[g]? = some (.cells cur 9 (0, 0)) ∧ l.length ≤ cap ∧ cap ≤ maxLen ∧ cur.size = cap ∧ cur.toList.take l.length = strs l ∧ ∀ b, U b ↔ b = rb ∨ b = g := by
  obtain ⟨v, h1, h2, h3, h4⟩ := h
  rcases h2.2 with ⟨rfl, q⟩ | ⟨g, cap, cur, rfl, q1, q2, q3, q4, q5, q6⟩
  · omega
  · refine ⟨g, cap, cur, h1, fun e => h4 (by rw [e]; rfl), q2, q3, q4, by simpa using q5, by simpa using q6, fun b => (h3 b).trans ⟨fun q => q.imp id (fun e => by cases e; rfl), fun q => q.imp id (fun e => by rw [e]; rfl)⟩⟩
theorem Rdy.close {w : World} {rb g cap : Nat} {cur : Array Value} {l : List Bs} (h1 : w.heap[rb]? = some (.cells #[.slice (some ⟨g, 0, none⟩) l.length cap] 72 (0, 0))) (hg : g ≠ rb) (h2 : w.heap[g]? = some (.cells cur 9 (0, 0))) (h3 : l.length ≤ cap) (h4 : cap ≤ maxLen) (h5 : cur.size = cap) (h6 : cur.toList.take l.length = strs l) : Rdy w rb (fun b => b = rb ∨ b = g) l := by
  refine ⟨_, h1, ⟨by simp [strs], Or.inr ⟨g, cap, cur, rfl, Nat.zero_le _, h2, h3, h4, by simpa using h5, by simpa using h6⟩⟩, fun b => ⟨fun q => q.imp id (fun e => by rw [e]; rfl), fun q => q.imp id (fun e => by cases e; rfl)⟩, fun e => hg (by cases e; rfl)⟩
theorem Rdy.cell {cur : Array Value} {l : List Bs} (h : cur.toList.take l.length = strs l) {i : Nat} (hi : i < l.length) : cur[i]? = some (.string (bs l[i])) := by
  have : (cur.toList.take l.length)[i]? = some (.string (bs l[i])) := by rw [h]; simp [strs, List.getElem?_eq_getElem hi]
  rw [List.getElem?_take_of_lt hi] at this
  simpa using this
end Go.Proofs.YtfcdphgggdioeaaGreatDoor
/- Chapter 9: Len, Less, Swap, Push, Pop of what is ready. -/
namespace Go.Proofs.YtfcdphgggdioeaaGreatDoor
open Go.RowKit
open Tp (Bs)

theorem Tryz.infoString' : (Tryz.prog.info? 9).map (fun i => (i.zero, i.size, i.bytes)) = some (some (.string ⟨#[]⟩), 1, 16) := by kernel_rfl
set_option maxRecDepth 100000 in
theorem rlen_post (w : World) (a : Option Addr) (n c : Nat) : Calls Tryz.prog 184 #[.slice a n c] w fun e w' => e = .returned (.int .i64 (n : Int)) ∧ w' = w := by
  go_enter Tryz.func184, Tryz.ntmps184
  go_wp2_with fail
  go_ret
  exact ⟨rfl, rfl⟩
end Go.Proofs.YtfcdphgggdioeaaGreatDoor
namespace Go.Proofs.YtfcdphgggdioeaaGreatDoor
open Go.RowKit
open Tp (Bs)
set_option maxRecDepth 100000 in
set_option maxHeartbeats 1000000 in
theorem rswap_post {w : World} {g n c i k : Nat} {cur : Array Value} {x y : Bs} (hb : w.heap[g]? = some (.cells cur 9 (0, 0))) (hx : cur[i]? = some (.string (bs x))) (hy : cur[k]? = some (.string (bs y))) (hi : i < n) (hk : k < n) :
    Calls Tryz.prog 186 #[.slice (some ⟨g, 0, none⟩) n c, .int .i64 (i : Int), .int .i64 (k : Int)] w fun e w' => e = .returned (.tuple #[]) ∧ Ext g w w' ∧ w'.heap[g]? = some (.cells ((cur.setIfInBounds i (.string (bs y))).setIfInBounds k (.string (bs x))) 9 (0, 0)) := by
  have hi' : (i : Int) < (n : Int) := by omega
  have hk' : (k : Int) < (n : Int) := by omega
  have hi0 : ¬ (i : Int) < 0 := by omega
  have hk0 : ¬ (k : Int) < 0 := by omega
  have c1 : w.cell? ⟨g, i, none⟩ = some (.string (bs x)) := (cell_blk hb).trans hx
  have c2 : w.cell? ⟨g, k, none⟩ = some (.string (bs y)) := (cell_blk hb).trans hy
  have z1 : w.frozen? ⟨g, i, none⟩ = false := frozen_blk hb
  have z2 : w.frozen? ⟨g, k, none⟩ = false := frozen_blk hb
  have hb2 := set_blk i (.string (bs y)) hb
  have z3 : (w.setCell ⟨g, i, none⟩ (.string (bs y))).frozen? ⟨g, k, none⟩ = false := frozen_blk hb2
  have HB := Lib.hid (set_blk k (.string (bs x)) hb2)
  have HX : Hid (Ext g w ((w.setCell ⟨g, i, none⟩ (.string (bs y))).setCell ⟨g, k, none⟩ (.string (bs x)))) := (((Ext.refl g w).set i _).set k _)
  have c3 : ∃ u, (w.setCell ⟨g, i, none⟩ (.string (bs y))).cell? ⟨g, k, none⟩ = some u := by
    rw [cell_blk hb2, Array.getElem?_setIfInBounds]
    split
    · rw [if_pos]
      · exact ⟨_, rfl⟩
      · exact (Array.getElem?_eq_some_iff.1 hx).1
    · exact ⟨_, hy⟩
  obtain ⟨u3, c3⟩ := c3
  clear hb hb2 hx hy
  go_enter Tryz.func186, Tryz.ntmps186
  go_region
  all_goals exact bodyPost_end (results_none rfl _ _ _) rfl ⟨rfl, HX.out.trans (Ext.below ((Below.refl _ _).drew)), HB.out⟩
end Go.Proofs.YtfcdphgggdioeaaGreatDoor
namespace Go.Proofs.YtfcdphgggdioeaaGreatDoor
open Go.RowKit
open Tp (Bs)
theorem ta_str (b : ByteArray) (w : World) : (Instr.typeAssert (.iface 9 (.string b)) 20 9 false).run Tryz.prog w = .ok (.string b) w := by kernel_rfl
theorem strs_snoc' (l : List Bs) (n : Bs) : strs l ++ [.string (bs n)] = strs (l ++ [n]) := by simp [strs]
theorem push_fin {w w3 : World} {rb : Nat} {U : Nat → Prop} {l : List Bs} {x : Bs} {v v3 : Value} {m : Nat} (hU : ∀ b, U b ↔ b = rb ∨ v.ownBlock = some b) (hrl : rb < w.heap.size) (e3 : w3.heap[rb]? = some (.cells #[v] 72 (0, 0))) (o1 : w3.os = w.os) (o2 : w3.tape = w.tape) (o3 : w3.output = w.output) (o4 : w.heap.size ≤ w3.heap.size) (hb : ∀ b, b < w.heap.size → v.ownBlock ≠ some b → w3.heap[b]? = w.heap[b]?) (hm : m = l.length + 1) (ho : w3.ownsRow 0 9 1 v3 m (strs l ++ [.string (bs x)])) (hw : ∀ g, v3.ownBlock = some g → v.ownBlock = some g ∨ w.heap.size ≤ g) (hv : v.ownBlock ≠ some rb) :
    ∃ U', Rdy (w3.setCell ⟨rb, 0, none⟩ v3) rb U' (l ++ [x]) ∧ Tr U U' w (w3.setCell ⟨rb, 0, none⟩ v3) := by
  have hx : Ext rb w3 (w3.setCell ⟨rb, 0, none⟩ v3) := (Ext.refl rb w3).set 0 _
  have hv3 : v3.ownBlock ≠ some rb := fun q => by
    rcases hw rb q with z | z
    · exact hv z
    · omega
  refine ⟨fun b => b = rb ∨ v3.ownBlock = some b, ⟨v3, (set_blk 0 v3 e3).trans rfl, ?_, fun b => Iff.rfl, hv3⟩, ?_⟩
  · have e : (l ++ [x]).length = m := by simp; omega
    rw [e, ← strs_snoc']
    exact owns_keep ho (fun b _ hl q => hx.block b hl (fun e => hv3 (e ▸ q)))
  · refine ⟨hx.os.trans o1, hx.tape.trans o2, hx.output.trans o3, Nat.le_trans o4 hx.size, fun b hl hu => ?_, fun b q => ?_⟩
    · exact (hx.block b (by omega) (fun e => hu ((hU b).2 (Or.inl e)))).trans (hb b hl (fun e => hu ((hU b).2 (Or.inr e))))
    · rcases q with q | q
      · exact Or.inl ((hU b).2 (Or.inl q))
      · rcases hw b q with z | z
        · exact Or.inl ((hU b).2 (Or.inr z))
        · exact Or.inr z
set_option maxRecDepth 100000 in
set_option maxHeartbeats 2000000 in
theorem rpush_post {w : World} {rb : Nat} {U : Nat → Prop} {l : List Bs} (h : Rdy w rb U l) (hl : l.length ≤ 1000) (x : Bs) :
    Calls Tryz.prog 188 #[.pointer (some ⟨rb, 0, none⟩), .iface 9 (.string (bs x))] w fun e w' => e = .returned (.tuple #[]) ∧ ∃ U', Rdy w' rb U' (l ++ [x]) ∧ Tr U U' w w' := by
  obtain ⟨i1, hi, hz0, hz1, hz2⟩ := info_parts Tryz.infoString'
  obtain ⟨v, h1, h2, h3, h4⟩ := h
  have HOW : Hid (∀ ob, (w.alloc ob).ownsRow 0 9 1 v l.length (strs l)) := fun ob => owns_keep h2 (fun b _ hl _ => Below.heap_alloc _ _ _ hl)
  have hrl := lt_blk h1
  have HFIN : Hid (∀ (w3 : World) (v3 : Value), w3.heap[rb]? = some (.cells #[v] 72 (0, 0)) → w3.os = w.os → w3.tape = w.tape → w3.output = w.output → w.heap.size ≤ w3.heap.size → (∀ b, b < w.heap.size → v.ownBlock ≠ some b → w3.heap[b]? = w.heap[b]?) → w3.ownsRow 0 9 1 v3 (l.length + 1) (strs l ++ [.string (bs x)]) → (∀ g, v3.ownBlock = some g → v.ownBlock = some g ∨ w.heap.size ≤ g) → ∃ U', Rdy (w3.setCell ⟨rb, 0, none⟩ v3) rb U' (l ++ [x]) ∧ Tr U U' w (w3.setCell ⟨rb, 0, none⟩ v3)) := fun w3 v3 e3 o1 o2 o3 o4 hb r1 r3 => push_fin h3 hrl e3 o1 o2 o3 o4 hb rfl r1 r3 h4
  obtain ⟨ao, cap, hnv⟩ := owns_shape h2
  have k0 : w.cell? ⟨rb, 0, none⟩ = some v := (cell_blk h1).trans rfl
  have k0a : ∀ ob, (w.alloc ob).cell? ⟨rb, 0, none⟩ = some v := fun ob => (World.cell?_of_block (w := w) (Below.heap_alloc _ _ _ hrl)).trans k0
  have HB := Lib.hid h1
  have HNW := Lib.hid h4
  rw [hnv] at HOW HFIN k0 k0a HB HNW
  clear h1 h2 h3 h4 hnv
  generalize hss : strs l = ss at *
  clear hss
  generalize hln : l.length = ln at *
  clear hln
  generalize hbx : bs x = bx at *
  have hta := ta_str bx
  go_enter Tryz.func188, Tryz.ntmps188
  go_region_law (first | (refine step_append_where rfl (.tmp 7) (.tmp 10) 72 rfl 0 9 i1 (.string ⟨#[]⟩) 1 16 Tryz.underlying72 hi hz0 hz1 hz2 rfl (by decide) (.slice ao ln cap) ln ss (by simp [Act.eval]) ?hown ⟨w.heap.size, 0, none⟩ 1 1 [.string bx] (by simp [Act.eval]) rfl ?news (by intro u hu; simp at hu; subst hu; rfl) (by unfold maxLen; omega) (by omega) (by omega) ?_; (case hown => exact HOW.out _); (case news => (intro j u hj; rw [Addr.add_lit]; cases j with | zero => (simp at hj; subst hj; first | exact (cell_blk (new_blk w _)).trans rfl | exact (cell_blk (new_blk w.drew _)).trans rfl) | succ j => simp at hj)); intro v3' w3 q1 q2 q3; obtain ⟨a3, c3, hv3⟩ := owns_shape q1; subst hv3; have e3 : w3.heap[rb]? = some (.cells #[.slice ao ln cap] 72 (0, 0)) := (q2.block rb (by simp; omega) (fun e => HNW.out e.symm)).trans ((Below.heap_alloc w _ rb hrl).trans HB.out); have n3 : w3.cell? ⟨rb, 0, none⟩ = some (.slice ao ln cap) := (cell_blk e3).trans rfl; have z3 : w3.frozen? ⟨rb, 0, none⟩ = false := frozen_blk e3; have HF := Lib.hid (HFIN.out w3 _ e3 q2.os q2.tape q2.output (by have := q2.size; simp at this; omega) (fun b hb hne => (q2.block b (by simp; omega) (fun e => hne e.symm)).trans (Below.heap_alloc w _ b hb)) q1 (fun g hg => (q3 g hg).elim Or.inl (fun z => Or.inr (by simp at z; omega)))); clear q1 q2 q3 e3))
  all_goals exact bodyPost_end (results_none rfl _ _ _) rfl ⟨rfl, HF.out⟩
end Go.Proofs.YtfcdphgggdioeaaGreatDoor
/- Chapter 9: a heap: up, down, Push, Pop; add, take: what is ready, in whatever order. -/
namespace Go.Proofs.YtfcdphgggdioeaaGreatDoor
open Go.RowKit
open Tp (Bs)

def rif (rb : Nat) : Value := .iface 99 (.pointer (some ⟨rb, 0, none⟩))
/- two of them changed over -/
theorem Rdy.swap {w w1 w2 : World} {rb g cap : Nat} {cur : Array Value} {l : List Bs} {i k : Nat} (hi : i < l.length) (hk : k < l.length) (h1 : w.heap[rb]? = some (.cells #[.slice (some ⟨g, 0, none⟩) l.length cap] 72 (0, 0))) (hg : g ≠ rb) (h3 : l.length ≤ cap) (h4 : cap ≤ maxLen) (h5 : cur.size = cap) (h6 : cur.toList.take l.length = strs l) (hb : Below w.heap.size w w1) (hx : Ext g w1 w2) (h2 : w2.heap[g]? = some (.cells ((cur.setIfInBounds i (.string (bs l[k]))).setIfInBounds k (.string (bs l[i]))) 9 (0, 0))) : Rdy w2 rb (fun b => b = rb ∨ b = g) (swl l i k hi hk) ∧ Tr (fun b => b = rb ∨ b = g) (fun b => b = rb ∨ b = g) w w2 := by
  have hl := lt_blk h1
  refine ⟨Rdy.close (cap := cap) (cur := _) ?_ hg h2 (by rw [swl_len]; exact h3) h4 (by simpa using h5) (by rw [swl_len]; exact swl_strs h6), ⟨hx.os.trans hb.os, hx.tape.trans hb.tape, hx.output.trans hb.output, Nat.le_trans hb.size hx.size, fun b hlt hn => (hx.block b (Nat.lt_of_lt_of_le hlt hb.size) (fun e => hn (Or.inr e))).trans (hb.block b hlt), fun b q => Or.inl q⟩⟩
  rw [swl_len]
  exact (hx.block rb (Nat.lt_of_lt_of_le hl hb.size) (Ne.symm hg)).trans ((hb.block rb hl).trans h1)
end Go.Proofs.YtfcdphgggdioeaaGreatDoor
/- Chapter 9: a heap: Push, Pop; add, take: what is ready, in whatever order. -/
namespace Go.Proofs.YtfcdphgggdioeaaGreatDoor
open Go.RowKit
open Tp (Bs)

set_option maxRecDepth 100000 in
set_option maxHeartbeats 2000000 in
theorem rpop_post {w : World} {rb : Nat} {U : Nat → Prop} {l : List Bs} {x : Bs} (h : Rdy w rb U (l ++ [x])) (hl : l.length ≤ 1000) :
    Calls Tryz.prog 187 #[.pointer (some ⟨rb, 0, none⟩)] w fun e w' => e = .returned (.iface 9 (.string (bs x))) ∧ Rdy w' rb U l ∧ Tr U U w w' := by
  have hll : (l ++ [x]).length = l.length + 1 := by simp
  obtain ⟨g, cap, cur, r1, r2, r3, r4, r5, r6, r7, r8⟩ := h.open (by omega)
  rw [hll] at r1 r4
  have hc : w.cell? ⟨rb, 0, none⟩ = some (.slice (some ⟨g, 0, none⟩) (l.length + 1) cap) := (cell_blk r1).trans rfl
  have hz : w.frozen? ⟨rb, 0, none⟩ = false := frozen_blk r1
  have hx : w.cell? ⟨g, l.length, none⟩ = some (.string (bs x)) := by
    rw [cell_blk r3, Rdy.cell r7 (by omega)]
    simp
  have hl9 : (l.length : Int) ≤ 1000 := by omega
  have hcap : ((l.length : Nat) : Int) ≤ (cap : Int) := by omega
  have hrl := lt_blk r1
  have HFI : Hid (Rdy (w.setCell ⟨rb, 0, none⟩ (.slice (some ⟨g, 0, none⟩) l.length cap)) rb U l ∧ Tr U U w (w.setCell ⟨rb, 0, none⟩ (.slice (some ⟨g, 0, none⟩) l.length cap))) := by
    have hX : Ext rb w (w.setCell ⟨rb, 0, none⟩ (.slice (some ⟨g, 0, none⟩) l.length cap)) := (Ext.refl rb w).set 0 _
    have eU : U = fun b => b = rb ∨ b = g := funext fun b => propext (r8 b)
    rw [eU]
    refine ⟨Rdy.close (cap := cap) (cur := cur) ((set_blk 0 _ r1).trans rfl) r2 ((hX.block g (lt_blk r3) r2).trans r3) (by omega) r5 r6 ?_, ⟨hX.os, hX.tape, hX.output, hX.size, fun b hb hn => hX.block b hb (fun e => hn (Or.inl e)), fun b q => Or.inl q⟩⟩
    have := congrArg (List.take l.length) r7
    rw [List.take_take, hll, Nat.min_eq_left (by omega)] at this
    rw [this]
    simp [strs]
  clear h r1 r2 r3 r4 r5 r6 r7 r8 hll
  generalize l.length = ln at *
  go_enter Tryz.func187, Tryz.ntmps187
  go_wp2_with fail
  go_ret
  exact ⟨rfl, HFI.out⟩
end Go.Proofs.YtfcdphgggdioeaaGreatDoor
/- Chapter 9 (9.1): an order, on lists: who imports whom, who waits for how many, what is ready. No program stands in it. -/
namespace Tp

/- pairs: who is imported, and is there; by whom -/
def edges (K : List Bs) (im : Bs → List Bs) (l : List Bs) : List (Bs × Bs) := l.flatMap fun n => ((im n).filter fun i => decide (i ∈ K)).map fun i => (i, n)
def byE (E : List (Bs × Bs)) (k : Bs) : List Bs := (E.filter fun p => decide (p.1 = k)).map (·.2)
def waitE (E : List (Bs × Bs)) (x : Bs) : Nat := (E.filter fun p => decide (p.2 = x)).length
def need (K : List Bs) (im : Bs → List Bs) (T : List Bs) (x : Bs) : Nat := ((im x).filter fun i => decide (i ∈ K) && !decide (i ∈ T)).length
theorem byE_snoc (E : List (Bs × Bs)) (a b k : Bs) : byE (E ++ [(a, b)]) k = if a = k then byE E k ++ [b] else byE E k := by
  unfold byE
  rw [List.filter_append]
  by_cases h : a = k
  · simp [h]
  · simp [h]
theorem waitE_snoc (E : List (Bs × Bs)) (a b x : Bs) : waitE (E ++ [(a, b)]) x = if b = x then waitE E x + 1 else waitE E x := by
  unfold waitE
  rw [List.filter_append]
  by_cases h : b = x
  · simp [h]
  · simp [h]
theorem waitE_edges {K : List Bs} {im : Bs → List Bs} : ∀ {l : List Bs}, l.Nodup → ∀ x, waitE (edges K im l) x = if x ∈ l then need K im [] x else 0
  | [], _, x => by simp [edges, waitE]
  | n :: t, hn, x => by
    have ih := waitE_edges (K := K) (im := im) (List.nodup_cons.1 hn).2 x
    have hx : n ∉ t := (List.nodup_cons.1 hn).1
    have e : edges K im (n :: t) = (((im n).filter fun i => decide (i ∈ K)).map fun i => (i, n)) ++ edges K im t := by simp [edges]
    unfold waitE at ih ⊢
    rw [e, List.filter_append, List.length_append, ih]
    by_cases h : n = x
    · subst h
      rw [if_neg hx, if_pos (by simp), List.filter_map, List.length_map]
      simp [need, Function.comp_def]
    · have h0 : ((((im n).filter fun i => decide (i ∈ K)).map fun i => (i, n)).filter fun p => decide (p.2 = x)) = [] := by
        rw [List.filter_eq_nil_iff]
        intro p hp
        obtain ⟨i, _, rfl⟩ := List.mem_map.1 hp
        simpa using h
      rw [h0]
      have : (x ∈ n :: t) ↔ x ∈ t := by simp [Ne.symm h]
      simp [this]
theorem mem_byE {K : List Bs} {im : Bs → List Bs} {l : List Bs} {k x : Bs} (h : x ∈ byE (edges K im l) k) : x ∈ l ∧ k ∈ K := by
  obtain ⟨p, hp, rfl⟩ := List.mem_map.1 h
  obtain ⟨hp, hk⟩ := List.mem_filter.1 hp
  obtain ⟨n, hn, hq⟩ := List.mem_flatMap.1 hp
  obtain ⟨i, hi, rfl⟩ := List.mem_map.1 hq
  have : i = k := by simpa using hk
  subst this
  exact ⟨hn, by simpa using (List.mem_filter.1 hi).2⟩
theorem count_byE {K : List Bs} {im : Bs → List Bs} {k : Bs} (hk : k ∈ K) : ∀ {l : List Bs}, l.Nodup → ∀ x, x ∈ l → (byE (edges K im l) k).count x = (im x).count k
  | [], _, x, h => by cases h
  | n :: t, hn, x, h => by
    have hx : n ∉ t := (List.nodup_cons.1 hn).1
    have e : edges K im (n :: t) = (((im n).filter fun i => decide (i ∈ K)).map fun i => (i, n)) ++ edges K im t := by simp [edges]
    have e1 : byE (edges K im (n :: t)) k = byE (((im n).filter fun i => decide (i ∈ K)).map fun i => (i, n)) k ++ byE (edges K im t) k := by rw [e]; simp [byE, List.filter_append]
    have e2 : byE (((im n).filter fun i => decide (i ∈ K)).map fun i => (i, n)) k = List.replicate ((im n).count k) n := by
      unfold byE
      rw [List.filter_map, List.map_map, List.filter_filter]
      have : ((im n).filter fun a => ((fun p : Bs × Bs => decide (p.1 = k)) ∘ fun i => (i, n)) a && decide (a ∈ K)) = (im n).filter fun a => a == k := by
        refine List.filter_congr (fun a _ => ?_)
        by_cases ha : a = k
        · subst ha; simp [hk]
        · simp [ha]
      rw [this, List.count_eq_countP, List.countP_eq_length_filter]
      generalize (im n).filter (fun a => a == k) = q
      induction q with
      | nil => rfl
      | cons a b ih => simp [List.replicate_succ] at ih ⊢; exact ih
    rw [e1, e2, List.count_append]
    rcases List.mem_cons.1 h with rfl | h
    · have : (byE (edges K im t) k).count x = 0 := List.count_eq_zero.2 (fun q => hx (mem_byE q).1)
      simp [this]
    · have hne : ¬ n = x := fun q => hx (q ▸ h)
      rw [count_byE hk (List.nodup_cons.1 hn).2 x h]
      simp [List.count_replicate, hne]
/- each is behind all that it imports, and that is there -/
def Behind (K : List Bs) (im : Bs → List Bs) (T : List Bs) : Prop := ∀ i (h : i < T.length), ∀ n ∈ im T[i], n ∈ K → n ∈ T.take i
theorem Behind.snoc {K : List Bs} {im : Bs → List Bs} {T : List Bs} {x : Bs} (h : Behind K im T) (hx : need K im T x = 0) : Behind K im (T ++ [x]) := by
  intro i hi n hn hk
  rw [List.length_append, List.length_singleton] at hi
  by_cases e : i < T.length
  · rw [List.getElem_append_left e] at hn
    rw [List.take_append_of_le_length (by omega)]
    exact h i e n hn hk
  · have e : i = T.length := by omega
    subst e
    rw [List.getElem_concat_length rfl] at hn
    rw [List.take_append_of_le_length (by omega), List.take_length]
    have h0 : ((im x).filter fun i => decide (i ∈ K) && !decide (i ∈ T)) = [] := List.eq_nil_of_length_eq_zero hx
    have := List.filter_eq_nil_iff.1 h0 n hn
    simpa [hk] using this
theorem need_snoc {K : List Bs} {im : Bs → List Bs} {T : List Bs} {n : Bs} (hk : n ∈ K) (ht : n ∉ T) (x : Bs) : need K im T x = need K im (T ++ [n]) x + (im x).count n := by
  unfold need
  induction im x with
  | nil => rfl
  | cons a l ih =>
    rw [List.filter_cons, List.filter_cons, List.count_cons]
    by_cases e : a = n
    · subst e
      simp [hk, ht] at ih ⊢
      omega
    · by_cases h1 : a ∈ K
      · by_cases h2 : a ∈ T
        · simp [h1, h2, e] at ih ⊢; exact ih
        · simp [h1, h2, e] at ih ⊢; omega
      · simp [h1, e] at ih ⊢; exact ih
theorem nodup_le : ∀ {l k : List Bs}, l.Nodup → (∀ x ∈ l, x ∈ k) → l.length ≤ k.length
  | [], _, _, _ => Nat.zero_le _
  | x :: t, k, hn, hs => by
    have hx := hs x (by simp)
    obtain ⟨h1, h2⟩ := List.nodup_cons.1 hn
    have h3 := nodup_le (k := k.erase x) h2 (fun y hy => (List.mem_erase_of_ne (fun e => h1 (by rw [← e]; exact hy))).2 (hs y (by simp [hy])))
    rw [List.length_erase_of_mem hx] at h3
    have := List.length_pos_of_mem hx
    simp only [List.length_cons]
    omega
/- told T, ready R, each waits for W -/
structure Or1 (K : List Bs) (im : Bs → List Bs) (T R : List Bs) (W : Bs → Nat) : Prop where
  nd : (T ++ R).Nodup
  is : ∀ x, x ∈ T ++ R ↔ x ∈ K ∧ W x = 0
  bh : Behind K im T
  w : ∀ x ∈ K, W x = need K im T x
/- n was told; of those that import it b so far -/
structure Or2 (K : List Bs) (im : Bs → List Bs) (T : List Bs) (n : Bs) (b : List Bs) (R : List Bs) (W : Bs → Nat) : Prop where
  nd : ((T ++ [n]) ++ R).Nodup
  is : ∀ x, x ∈ (T ++ [n]) ++ R ↔ x ∈ K ∧ W x = 0
  bh : Behind K im (T ++ [n])
  w : ∀ x ∈ K, W x + b.count x = need K im T x
theorem Or1.start {K : List Bs} {im : Bs → List Bs} {R : List Bs} {W : Bs → Nat} (hR : R.Nodup) (hi : ∀ x, x ∈ R ↔ x ∈ K ∧ W x = 0) (hW : ∀ x ∈ K, W x = need K im [] x) : Or1 K im [] R W :=
  ⟨by simpa using hR, by simpa using hi, fun i h => by simp at h, hW⟩
theorem Or1.take {K : List Bs} {im : Bs → List Bs} {T R R' : List Bs} {W : Bs → Nat} {n : Bs} (h : Or1 K im T R W) (hp : R.Perm (n :: R')) : Or2 K im T n [] R' W := by
  have p : (T ++ R).Perm ((T ++ [n]) ++ R') := by
    have := hp.append_left T
    simpa [List.append_assoc] using this
  have hn := (h.is n).1 (List.mem_append_right _ (hp.mem_iff.2 (by simp)))
  exact ⟨p.nodup_iff.1 h.nd, fun x => p.mem_iff.symm.trans (h.is x), h.bh.snoc (by rw [← h.w n hn.1]; exact hn.2), fun x hx => by simpa using h.w x hx⟩
theorem Or2.out {K : List Bs} {im : Bs → List Bs} {T R b : List Bs} {W : Bs → Nat} {n : Bs} (h : Or2 K im T n b R W) : n ∈ K ∧ n ∉ T := by
  refine ⟨((h.is n).1 (by simp)).1, fun q => ?_⟩
  have := (List.nodup_append.1 (List.nodup_append.1 h.nd).1).2.2 n q n (by simp)
  exact this rfl
theorem Or2.pos {K : List Bs} {im : Bs → List Bs} {T R b b' : List Bs} {W : Bs → Nat} {n x : Bs} (h : Or2 K im T n b R W) (hx : x ∈ K) (hc : (b ++ x :: b').count x ≤ (im x).count n) : 0 < W x := by
  obtain ⟨h1, h2⟩ := h.out
  have e1 := h.w x hx
  have e2 := need_snoc (im := im) h1 h2 x
  rw [List.count_append, List.count_cons] at hc
  simp at hc
  omega
theorem Or2.one {K : List Bs} {im : Bs → List Bs} {T R b : List Bs} {W : Bs → Nat} {n x : Bs} (h : Or2 K im T n b R W) (hx : x ∈ K) (h1 : W x = 1) {R' : List Bs} (hp : R'.Perm (x :: R)) : Or2 K im T n (b ++ [x]) R' (fun y => if y = x then W x - 1 else W y) := by
  have hni : x ∉ (T ++ [n]) ++ R := fun q => by have := ((h.is x).1 q).2; omega
  have p : ((T ++ [n]) ++ R').Perm (x :: ((T ++ [n]) ++ R)) := (hp.append_left _).trans List.perm_middle
  refine ⟨p.nodup_iff.2 (List.nodup_cons.2 ⟨hni, h.nd⟩), fun y => ?_, h.bh, fun y hy => ?_⟩
  · rw [p.mem_iff, List.mem_cons]
    by_cases e : y = x
    · subst e; simp [hx, h1]
    · simp only [e, false_or, if_false]; exact h.is y
  · rw [List.count_append, List.count_singleton]
    have := h.w y hy
    by_cases e : y = x
    · subst e; simp; omega
    · have e' : ¬ x = y := fun q => e q.symm
      simp [e, e']; omega
theorem Or2.many {K : List Bs} {im : Bs → List Bs} {T R b : List Bs} {W : Bs → Nat} {n x : Bs} (h : Or2 K im T n b R W) (hx : x ∈ K) (h1 : 1 < W x) : Or2 K im T n (b ++ [x]) R (fun y => if y = x then W x - 1 else W y) := by
  refine ⟨h.nd, fun y => ?_, h.bh, fun y hy => ?_⟩
  · rw [h.is y]
    by_cases e : y = x
    · subst e; simp; omega
    · simp [e]
  · rw [List.count_append, List.count_singleton]
    have := h.w y hy
    by_cases e : y = x
    · subst e; simp; omega
    · have e' : ¬ x = y := fun q => e q.symm
      simp [e, e']; omega
theorem Or2.done {K : List Bs} {im : Bs → List Bs} {T R b : List Bs} {W : Bs → Nat} {n : Bs} (h : Or2 K im T n b R W) (hb : ∀ x ∈ K, b.count x = (im x).count n) : Or1 K im (T ++ [n]) R W := by
  obtain ⟨h1, h2⟩ := h.out
  refine ⟨h.nd, h.is, h.bh, fun x hx => ?_⟩
  have e1 := h.w x hx
  have e2 := need_snoc (im := im) h1 h2 x
  have := hb x hx
  omega
theorem Or1.len {K : List Bs} {im : Bs → List Bs} {T R : List Bs} {W : Bs → Nat} (h : Or1 K im T R W) : T.length + R.length ≤ K.length := by
  have := nodup_le h.nd (fun x hx => ((h.is x).1 hx).1)
  simpa using this
/- all came: each once, behind all that it imports -/
structure Came (K : List Bs) (im : Bs → List Bs) (T : List Bs) : Prop where
  nd : T.Nodup
  sub : ∀ x ∈ T, x ∈ K
  bh : Behind K im T
  len : T.length = K.length
/- some lead to one another -/
def Round (K : List Bs) (im : Bs → List Bs) : Prop := ∃ S : Bs → Prop, (∃ x ∈ K, S x) ∧ ∀ x ∈ K, S x → ∃ i ∈ im x, i ∈ K ∧ S i
theorem Or1.came {K : List Bs} {im : Bs → List Bs} {T : List Bs} {W : Bs → Nat} (h : Or1 K im T [] W) (hl : ¬ T.length < K.length) : Came K im T := by
  have := h.len
  have nd := h.nd
  rw [List.append_nil] at nd
  exact ⟨nd, fun x hx => ((h.is x).1 (by simpa using hx)).1, h.bh, by simp at this; omega⟩
theorem Or1.round {K : List Bs} {im : Bs → List Bs} {T : List Bs} {W : Bs → Nat} (h : Or1 K im T [] W) (hK : K.Nodup) (hl : T.length < K.length) : Round K im := by
  refine ⟨fun x => x ∉ T, ?_, fun x hx hS => ?_⟩
  · refine Classical.byContradiction fun q => ?_
    have : ∀ x ∈ K, x ∈ T := fun x hx => Classical.byContradiction fun z => q ⟨x, hx, z⟩
    have := nodup_le hK this
    omega
  · have hW : W x ≠ 0 := fun e => hS (by simpa using (h.is x).2 ⟨hx, e⟩)
    rw [h.w x hx] at hW
    unfold need at hW
    obtain ⟨i, hi⟩ := List.exists_mem_of_length_pos (Nat.pos_of_ne_zero hW)
    obtain ⟨h1, h2⟩ := List.mem_filter.1 hi
    simp at h2
    exact ⟨i, h1, h2.1, h2.2⟩
theorem Came.no_round {K : List Bs} {im : Bs → List Bs} {T : List Bs} (h : Came K im T) : ¬ Round K im := by
  rintro ⟨S, ⟨x, hx, hS⟩, hr⟩
  have hall : ∀ x ∈ K, x ∈ T := by
    intro x hx
    refine Classical.byContradiction fun q => ?_
    have h1 : (x :: T).Nodup := List.nodup_cons.2 ⟨q, h.nd⟩
    have := nodup_le h1 (fun y hy => by
      rcases List.mem_cons.1 hy with rfl | hy
      · exact hx
      · exact h.sub y hy)
    have h2 := h.len
    rw [List.length_cons] at this
    omega
  have key : ∀ n, ∀ i (hi : i < T.length), i ≤ n → ¬ S T[i] := by
    intro n
    induction n with
    | zero =>
      intro i hi h0 hs
      obtain ⟨j, hj, hjk, hjs⟩ := hr _ (h.sub _ (List.getElem_mem hi)) hs
      have := h.bh i hi j hj hjk
      have h00 : i = 0 := by omega
      subst h00
      simp at this
    | succ n ih =>
      intro i hi h0 hs
      obtain ⟨j, hj, hjk, hjs⟩ := hr _ (h.sub _ (List.getElem_mem hi)) hs
      have := h.bh i hi j hj hjk
      obtain ⟨k, hk, rfl⟩ := List.getElem_of_mem this
      rw [List.length_take] at hk
      rw [List.getElem_take] at hjs
      exact ih k (by omega) (by omega) hjs
  obtain ⟨i, hi, rfl⟩ := List.getElem_of_mem (hall x hx)
  exact key i i hi (Nat.le_refl _) hS
end Tp
/- Chapter 9: maps whose keys are texts: their keys as a list; a store; who imports whom, who waits, in memory. -/
namespace Go.Proofs.YtfcdphgggdioeaaGreatDoor
open Go.RowKit Go.Maps Go.WideElems
open Tp (Bs)

theorem skey_inv' {key : Value} {kl : Lit} (h : keyOf Tryz.prog 9 key = some kl) : ∃ x : Bs, key = .string (bs x) ∧ kl = .string x := by
  have hk := Tryz.underlying9
  cases key <;> simp [keyOf, hk, mapKey] at h
  rename_i s
  refine ⟨s.data.toList, by cases s; simp [bs], ?_⟩
  first | exact h.2.symm | exact h.symm | simp_all
theorem range_entry' {D : DataW Value} {f : Bs → Option Value} (hD : ∀ s, Maps.has D (.string s) = (f s).isSome ∧ ∀ v, f s = some v → ∀ z, D.atKey (.string s) z = .held v) {x : Bs} {c : Value} (hat : ∀ zd, D.atKey (.string x) zd = .held c) : f x = some c := by
  obtain ⟨e1, e2⟩ := hD x
  cases hf : f x with
  | none =>
    rw [hf] at e1
    have h1 := hat (.map [])
    rw [Maps.atKey_of_not_has e1] at h1
    cases h1
  | some u =>
    have h1 := e2 u hf (.map [])
    rw [hat] at h1
    injection h1 with h1
    rw [h1]
def litS : Lit → Bs
  | .string s => s
  | _ => []
/- its keys, as a list -/
theorem own_keys {w : World} {b n : Nat} {f : Bs → Option Value} {D : DataW Value} (h : w.ownsMap Tryz.prog 9 heldV b n D) (hD : ∀ s, Maps.has D (.string s) = (f s).isSome ∧ ∀ v, f s = some v → ∀ z, D.atKey (.string s) z = .held v) : ∃ K : List Bs, K.Nodup ∧ (∀ x, x ∈ K ↔ (f x).isSome = true) ∧ Maps.size D = K.length ∧ K.length ≤ n := by
  obtain ⟨es', e', pw⟩ := h.tidy skey
  have hle := h.size_le
  obtain ⟨es, clock, hb, F, hs, e2⟩ := h
  have hst : ∀ p ∈ es', ∃ x : Bs, p.1 = .string x := by
    intro p hp
    have hq : es' = (es.toList.map (rg Tryz.prog 9 heldV)).foldr DataW.insert [] := by rw [e'] at e2; injection e2
    rw [hq] at hp
    obtain ⟨x, hx, rfl⟩ := List.mem_map.1 (mem_sorted.1 hp)
    obtain ⟨y, hy⟩ := F.reads x hx
    obtain ⟨s, _, h2⟩ := skey_inv' (rd_key hy)
    exact ⟨s, by rw [rg_of hy]; exact h2⟩
  subst e'
  refine ⟨es'.map fun p => litS p.1, ?_, fun x => ?_, by simp [Maps.size], by simpa [Maps.size] using hle⟩
  · rw [List.nodup_iff_pairwise_ne, List.pairwise_map]
    refine pw.imp_of_mem (fun {p q} hp hq hne e => hne ?_)
    obtain ⟨x, hx⟩ := hst p hp
    obtain ⟨y, hy⟩ := hst q hq
    rw [hx, hy] at e ⊢
    exact congrArg Lit.string e
  · rw [← (hD x).1, Maps.has_eq, List.any_eq_true, List.mem_map]
    constructor
    · rintro ⟨p, hp, rfl⟩
      obtain ⟨y, hy⟩ := hst p hp
      refine ⟨p, hp, ?_⟩
      rw [hy]
      exact WideAt.sameKey_self (by simp [WideAt.IsKeyLit])
    · rintro ⟨p, hp, hk⟩
      refine ⟨p, hp, ?_⟩
      rw [WideAt.sameKey_eq hk]
      rfl
theorem wpList_mapUpdate_v' (w : World) {ops : Array Oper} {rest : List Oper} {o : Oper} {a : Act} {Q : Exit → Act → World → Prop}
    (hg : o.guard = none) (m x v : Operand) (t : TypeId) (hop : o.op = Op.mapUpdate t m x v) (e : TypeId) (ht : Tryz.prog.underlying t = some (.map 9 e))
    (b n : Nat) (f : Bs → Option Value) (hown : MapV w b n f) (hn : n < 1000000) (l : Bs) (hl : l.length ≤ 1000000) (val : Value) (hm : a.eval m = .map (some b)) (hx : a.eval x = .string (bs l)) (hv : a.eval v = val)
    (hK : ∀ w', MapV w' b (n + 1) (updV f l val) → Ext b w w' → w'.heap.size = w.heap.size → wpList Tryz.prog ops Q rest (a.put o.dst undef) w') :
    wpList Tryz.prog ops Q (o :: rest) a w := by
  refine wpList_plain hg fun K' hK' => ?_
  obtain ⟨w', hrun, r1, r2, r3⟩ := hown.store ht hn l hl val
  unfold Oper.wp
  simp [execOp, hop, hm, hx, hv, hrun, Result.andThen]
  exact hK' _ _ (hK w' r1 r2 r3)
theorem MapV.isMap' {w : World} {b n : Nat} {f : Bs → Option Value} (h : MapV w b n f) : ∃ es c, w.heap[b]? = some (.map es c) := by
  obtain ⟨D, ⟨es, clock, h1, _⟩, _⟩ := h.own
  exact ⟨es, clock, h1⟩
theorem own_ne_map {w : World} {B e size n b : Nat} {v : Value} {xs : List Value} (h : w.ownsRow B e size v n xs) {nb : Nat} {f : Bs → Option Value} (hm : MapV w b nb f) : v.ownBlock ≠ some b := by
  intro q
  obtain ⟨es, c, h1⟩ := hm.isMap'
  rcases h.2 with ⟨rfl, _⟩ | ⟨g, cap, cur, rfl, _, q2, _⟩
  · cases q
  · cases q
    rw [h1] at q2
    cases q2
/- who imports whom: in block ib -/
structure AdjI (w : World) (B ib n : Nat) (E : List (Bs × Bs)) (fi : Bs → Option Value) : Prop where
  m : MapV w ib n fi
  row : ∀ k, w.ownsRow B 9 1 ((fi k).getD (.slice none 0 0)) (Tp.byE E k).length (strs (Tp.byE E k))
  inj : ∀ k k' b, ((fi k).getD (.slice none 0 0)).ownBlock = some b → ((fi k').getD (.slice none 0 0)).ownBlock = some b → k = k'
/- who waits for how many: in block wq -/
structure AdjW (w : World) (wq n : Nat) (W : Bs → Nat) (fw : Bs → Option Value) : Prop where
  m : MapV w wq n fw
  val : ∀ x, (fw x).getD (.int .i64 0) = .int .i64 (W x : Int)
theorem AdjI.keep {w w' : World} {B ib n : Nat} {E : List (Bs × Bs)} {fi : Bs → Option Value} (h : AdjI w B ib n E fi) (hk : ∀ b, b < w.heap.size → b = ib ∨ (∃ k, ((fi k).getD (.slice none 0 0)).ownBlock = some b) → w'.heap[b]? = w.heap[b]?) : AdjI w' B ib n E fi :=
  ⟨h.m.on (hk ib h.m.lt (Or.inl rfl)), fun k => owns_keep (h.row k) (fun b _ hl q => hk b hl (Or.inr ⟨k, q⟩)), h.inj⟩
theorem AdjI.on {w w' : World} {B ib n : Nat} {E : List (Bs × Bs)} {fi : Bs → Option Value} (h : AdjI w B ib n E fi) (k : Below w.heap.size w w') : AdjI w' B ib n E fi := h.keep (fun b hl _ => k.block b hl)
theorem AdjI.ext {w w' : World} {B ib n nb b0 : Nat} {E : List (Bs × Bs)} {fi f : Bs → Option Value} (h : AdjI w B ib n E fi) (hm : MapV w b0 nb f) (hne : ib ≠ b0) (k : Ext b0 w w') : AdjI w' B ib n E fi := h.keep (fun b hl q => k.block b hl (fun e => by
  subst e
  rcases q with e | ⟨x, q⟩
  · exact hne e.symm
  · exact own_ne_map (h.row x) hm q))
theorem AdjW.on {w w' : World} {wq n : Nat} {W : Bs → Nat} {fw : Bs → Option Value} (h : AdjW w wq n W fw) (k : w'.heap[wq]? = w.heap[wq]?) : AdjW w' wq n W fw := ⟨h.m.on k, h.val⟩
/- one more imports k -/
theorem AdjI.put {w w1 w2 : World} {B ib n : Nat} {E : List (Bs × Bs)} {fi : Bs → Option Value} (h : AdjI w B ib n E fi) {k x : Bs} {v' : Value} {m : Nat} (hm : m = (Tp.byE E k).length + 1) (ho : w1.ownsRow B 9 1 v' m (strs (Tp.byE E k) ++ [.string (bs x)])) (hg : w.grownBy w1 ((fi k).getD (.slice none 0 0)).ownBlock) (hl : ∀ g, v'.ownBlock = some g → ((fi k).getD (.slice none 0 0)).ownBlock = some g ∨ w.heap.size ≤ g) (hf : MapV w2 ib (n + 1) (updV fi k v')) (hx : Ext ib w1 w2) : AdjI w2 B ib (n + 1) (E ++ [(k, x)]) (updV fi k v') := by
  have hib : ∀ j b, ((fi j).getD (.slice none 0 0)).ownBlock = some b → b ≠ ib := fun j b q e => own_ne_map (h.row j) h.m (e ▸ q)
  have hv' : v'.ownBlock ≠ some ib := fun q => by
    rcases hl ib q with z | z
    · exact hib k ib z rfl
    · have := h.m.lt; omega
  refine ⟨hf, fun j => ?_, fun j j' b q q' => ?_⟩
  · rw [Tp.byE_snoc]
    by_cases e : k = j
    · subst e
      rw [if_pos rfl]
      have e1 : (updV fi k v' k).getD (.slice none 0 0) = v' := by simp [updV]
      have e2 : strs (Tp.byE E k ++ [x]) = strs (Tp.byE E k) ++ [.string (bs x)] := by simp [strs]
      rw [e1, e2, List.length_append, List.length_singleton, ← hm]
      exact owns_keep ho (fun b _ hl q => hx.block b hl (fun e => hv' (e ▸ q)))
    · rw [if_neg e]
      have e1 : (updV fi k v' j).getD (.slice none 0 0) = (fi j).getD (.slice none 0 0) := by simp [updV, Ne.symm e]
      rw [e1]
      have r := h.row j
      exact owns_keep r (fun b _ hl q => (hx.block b (Nat.lt_of_lt_of_le hl hg.size) (hib j b q)).trans (hg.block b hl (fun z => e (h.inj k j b z.symm q))))
  · have e1 : ∀ i, (updV fi k v' i).getD (.slice none 0 0) = if i = k then v' else (fi i).getD (.slice none 0 0) := fun i => by by_cases e : i = k <;> simp [updV, e]
    rw [e1] at q q'
    by_cases a : j = k
    · by_cases a' : j' = k
      · rw [a, a']
      · rw [if_pos a] at q
        rw [if_neg a'] at q'
        rcases hl b q with z | z
        · exact a.trans (h.inj k j' b z q')
        · have := ((h.row j').lt b q').2; omega
    · rw [if_neg a] at q
      by_cases a' : j' = k
      · rw [if_pos a'] at q'
        rcases hl b q' with z | z
        · exact (h.inj j k b q z).trans a'.symm
        · have := ((h.row j).lt b q).2; omega
      · rw [if_neg a'] at q'
        exact h.inj j j' b q q'
theorem AdjW.put {w w' : World} {wq n : Nat} {W : Bs → Nat} {fw : Bs → Option Value} (h : AdjW w wq n W fw) {x : Bs} {c : Nat} {v : Int} (hv : v = (c : Int)) (hf : MapV w' wq (n + 1) (updV fw x (.int .i64 v))) : AdjW w' wq (n + 1) (fun y => if y = x then c else W y) (updV fw x (.int .i64 v)) := ⟨hf, fun y => by
  by_cases e : y = x
  · simp [updV, e, hv]
  · simp [updV, e]; exact h.val y⟩
end Go.Proofs.YtfcdphgggdioeaaGreatDoor
/- Chapter 9: importsThere, walked. -/
namespace Go.Proofs.YtfcdphgggdioeaaGreatDoor
open Go.RowKit Go.Maps
open Tp (Bs)

theorem zeroStrs' (w : World) : (zeroValue 22).run Tryz.prog w = .ok (.slice none 0 0) w := by kernel_rfl
theorem zeroInt' (w : World) : (zeroValue 3).run Tryz.prog w = .ok (.int .i64 0) w := by kernel_rfl
theorem zeroMod' (w : World) : (zeroValue 28).run Tryz.prog w = .ok (.agg #[.string ⟨#[]⟩, .slice none 0 0, .slice none 0 0, .slice none 0 0, .slice none 0 0]) w := by kernel_rfl
/- modules by their names, in memory, as far as their imports go -/
structure Mods (w : World) (mb n : Nat) (f : Bs → Option Value) (K : List Bs) (im : Bs → List Bs) : Prop where
  m : MapV w mb n f
  nd : K.Nodup
  key : ∀ x, x ∈ K ↔ (f x).isSome = true
  kl : ∀ x ∈ K, x.length ≤ 1000000
  n : K.length ≤ 100
  mod : ∀ x ∈ K, ∃ nm ia ic ga gn gc pa pn pc ba bn bc, f x = some (.agg #[.string nm, .slice ia (im x).length ic, .slice ga gn gc, .slice pa pn pc, .slice ba bn bc]) ∧ StrsAt w (im x) ia ∧ (im x).length ≤ 6 ∧ ∀ y ∈ im x, y.length ≤ 1000000
theorem Mods.on {w w' : World} {mb n : Nat} {f : Bs → Option Value} {K : List Bs} {im : Bs → List Bs} (h : Mods w mb n f K im) (k : Below w.heap.size w w') : Mods w' mb n f K im :=
  ⟨h.m.on (k.block _ h.m.lt), h.nd, h.key, h.kl, h.n, fun x hx => by
    obtain ⟨nm, ia, ic, ga, gn, gc, pa, pn, pc, ba, bn, bc, q1, q2, q3⟩ := h.mod x hx
    exact ⟨nm, ia, ic, ga, gn, gc, pa, pn, pc, ba, bn, bc, q1, q2.on k, q3⟩⟩
theorem ranges_keep {w w' : World} {b r n cnt : Nat} {D : DataW Value} {left : Lit → Bool} (h : w.ranges Tryz.prog 9 heldV b r n D left cnt) (hb : w'.heap[b]? = w.heap[b]?) (hr : w'.heap[r]? = w.heap[r]?) : w'.ranges Tryz.prog 9 heldV b r n D left cnt := by
  obtain ⟨es, clock, since, seen, c0, h1, h2, h3, h4, h5, h6⟩ := h
  exact ⟨es, clock, since, seen, c0, hb.trans h1, h2, h3, h4, hr.trans h5, h6⟩
theorem ranges_iter {w : World} {b r n cnt : Nat} {D : DataW Value} {left : Lit → Bool} (h : w.ranges Tryz.prog 9 heldV b r n D left cnt) : ∃ a b c d, w.heap[r]? = some (.mapIter a b c d) := by
  obtain ⟨es, clock, since, seen, c0, h1, h2, h3, h4, h5, h6⟩ := h
  exact ⟨_, _, _, _, h5⟩
theorem own_ne_iter {w : World} {B e size n r : Nat} {v : Value} {xs : List Value} (h : w.ownsRow B e size v n xs) (hr : ∃ a b c d, w.heap[r]? = some (.mapIter a b c d)) : v.ownBlock ≠ some r := by
  intro q
  obtain ⟨_, _, _, _, h1⟩ := hr
  rcases h.2 with ⟨rfl, _⟩ | ⟨g, cap, cur, rfl, _, q2, _⟩
  · cases q
  · cases q
    rw [h1] at q2
    cases q2
/- what is still to come -/
def LeftK (K dn : List Bs) (left : Lit → Bool) : Prop := dn.Nodup ∧ (∀ x ∈ dn, x ∈ K) ∧ ∀ x : Bs, left (.string x) = true ↔ x ∈ K ∧ x ∉ dn
theorem LeftK.start {K : List Bs} {f : Bs → Option Value} {D : DataW Value} (hD : ∀ s, Maps.has D (.string s) = (f s).isSome ∧ ∀ v, f s = some v → ∀ z, D.atKey (.string s) z = .held v) (hk : ∀ x, x ∈ K ↔ (f x).isSome = true) : LeftK K [] (Maps.has D) :=
  ⟨List.nodup_nil, (fun x h => by cases h), fun x => by rw [(hD x).1, hk x]; simp⟩
theorem LeftK.next {K dn : List Bs} {left : Lit → Bool} (h : LeftK K dn left) {x : Bs} (hx : left (.string x) = true) : x ∈ K ∧ x ∉ dn ∧ LeftK K (dn ++ [x]) (fun z => left z && !z.sameKey (.string x)) := by
  obtain ⟨h1, h2, h3⟩ := h
  obtain ⟨a, b⟩ := (h3 x).1 hx
  refine ⟨a, b, ?_, fun y hy => ?_, fun y => ?_⟩
  · rw [List.nodup_append]
    exact ⟨h1, by simp, fun y hy z hz => by simp at hz; subst hz; exact fun e => b (e ▸ hy)⟩
  · rcases List.mem_append.1 hy with q | q
    · exact h2 y q
    · simp at q; rw [q]; exact a
  · rw [Bool.and_eq_true, h3 y]
    by_cases e : y = x
    · subst e
      have : (Lit.string y).sameKey (.string y) = true := WideAt.sameKey_self (by simp [WideAt.IsKeyLit])
      simp [this]
    · have : (Lit.string y).sameKey (.string x) = false := sameKey_ne (fun q => e (by injection q))
      simp [this, e]
theorem LeftK.done {K dn : List Bs} {left : Lit → Bool} (h : LeftK K dn left) (h0 : ∀ kl, left kl = false) : ∀ x, x ∈ dn ↔ x ∈ K := fun x => ⟨h.2.1 x, fun hx => Classical.byContradiction fun q => by
  have := (h.2.2 x).2 ⟨hx, q⟩
  rw [h0] at this
  cases this⟩
end Go.Proofs.YtfcdphgggdioeaaGreatDoor
