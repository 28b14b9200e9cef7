/- Reading: take. -/
import Derived.Test.YtljnddcddclmeaaJ2
namespace Go.Proofs.Ytljnddcddclmeaa
open Go.RowKit
open Ob (Bs)

/- the reader's own block: what is left to be read -/
structure Rst (w : World) (rb : Nat) (l : Bs) : Prop where
  c : w.cell? ⟨rb, 0, none⟩ = some (.string (bs l))
  fz : w.frozen? ⟨rb, 0, none⟩ = false
  n : l.length ≤ 1000000000
/- what is thrown: ErrForm -/
def thrown : Ending := .panicked [{ v := .iface 64 (.int .i64 3), recovered := false }]
/- what a call that reads leaves: a value and what is behind it; or it threw -/
def Rp {α : Type} (rb : Nat) (w : World) (val : α → Value → World → Prop) (res : Option (α × Bs)) (e : Ending) (w' : World) : Prop :=
  match res with
  | some (x, r) => ∃ v, e = .returned v ∧ val x v w' ∧ Rst w' rb r ∧ Ext rb w w'
  | none => e = thrown ∧ Ext rb w w'
set_option maxRecDepth 100000 in
set_option maxHeartbeats 400000 in
theorem take_any {w : World} {rb : Nat} {l : Bs} (h : Rst w rb l) (n : Nat) (hn : n ≤ 1000000000000) :
    Calls Try.prog 84 #[.pointer (some ⟨rb, 0, none⟩), .int .i64 (n : Int)] w fun e w' => Rp rb w (fun s v _ => v = .string (bs s)) (Ob.takeR n l) e w' := by
  have hl := h.n
  have hc := h.c
  have hf := h.fz
  have hs := bs_size l
  by_cases hle : n ≤ l.length
  · have hle' : (n : Int) ≤ (l.length : Int) := by omega
    have e1 : (bs l).extract 0 n = bs (l.take n) := by
      apply ByteArray.ext; simp [bs, ByteArray.data_extract]
    have e2 : (bs l).extract n l.length = bs (l.drop n) := by
      apply ByteArray.ext; simp [bs, ByteArray.data_extract]; exact List.take_of_length_le (by simp)
    go_enter Try.func84, Try.ntmps84
    go_wp2_with fail
    go_ret
    unfold Ob.takeR
    rw [if_pos hle]
    exact ⟨_, rfl, rfl, ⟨World.cell?_setCell_same _ _ _ hc, by simpa using hf, by simp; omega⟩, (Ext.refl _ _).set 0 _⟩
  · have hle' : (l.length : Int) < (n : Int) := by omega
    go_enter Try.func84, Try.ntmps84
    go_wp2_with fail
    unfold Ob.takeR
    rw [if_neg hle]
    exact ⟨rfl, rfl, Ext.refl _ _⟩
end Go.Proofs.Ytljnddcddclmeaa
