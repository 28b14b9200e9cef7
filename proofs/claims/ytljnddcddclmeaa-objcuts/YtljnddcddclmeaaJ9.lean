/- Reading: the list of what is used of others. -/
import Derived.Test.YtljnddcddclmeaaJ8
namespace Go.Proofs.Ytljnddcddclmeaa
open Go.RowKit
open Ob (Bs)

def VUL (B : Nat) (us : List Ob.Us) (v : Value) (w : World) : Prop := ∃ cs, RepU w (fun b => B ≤ b ∧ v.ownBlock ≠ some b) us cs ∧ w.ownsRow B 61 3 v us.length cs
theorem VUL.ext {B rb : Nat} {us : List Ob.Us} {v : Value} {w w' : World} (h : VUL B us v w) (k : Ext rb w w') (hb : rb < B) : VUL B us v w' := by
  obtain ⟨cs, h1, h2⟩ := h
  exact ⟨cs, RepU.mono (fun b hb hl => ⟨k.block b hl (by omega), hb⟩) _ _ h1, owns_ext h2 k hb⟩
theorem VUL.next {B C : Nat} {us : List Ob.Us} {v v' : Value} {w w' : World} {u : Ob.Us} {na : Option Addr} {nc : Nat} (hC : ∀ g, v.ownBlock = some g → g < C) (hBC : B ≤ C) (cs : List Value) (h : RepU w (fun b => B ≤ b ∧ v.ownBlock ≠ some b) us cs)
    (hn : w.ownsRow C 9 1 (.slice na u.names.length nc) u.names.length (cellsOf stC u.names)) (hx : Exact v v' w w') (ho : w'.ownsRow B 61 3 v' (us.length + 1) (cs ++ [.string (bs u.name), .string (bs u.need), .slice na u.names.length nc])) : VUL B (us ++ [u]) v' w' := by
  have hD : ∀ b, (B ≤ b ∧ v.ownBlock ≠ some b) → b < w.heap.size → w'.heap[b]? = w.heap[b]? ∧ (B ≤ b ∧ v'.ownBlock ≠ some b) := fun b hb hl => ⟨hx.block b hl hb.2, hb.1, fun e => (hx.lies b e).elim hb.2 (Nat.not_le.2 hl)⟩
  refine ⟨_, RepU.app _ [u] _ _ (RepU.mono hD _ _ h) ⟨_, [], rfl, ?_, rfl⟩, by simpa using ho⟩
  exact (Row.of_owns hn).mono (fun b hb hl => hD b ⟨by omega, fun e => by have := hC b e; omega⟩ hl)
set_option maxRecDepth 100000 in
set_option maxHeartbeats 1000000 in
theorem listUse_any {w : World} {rb : Nat} {l : Bs} (h : Rst w rb l) (most : Nat) (hm : most ≤ 10000) :
    Calls Try.prog 65 #[.pointer (some ⟨rb, 0, none⟩), .int .i64 (most : Int), .func (.func 66) #[.pointer (some ⟨rb, 0, none⟩)] #[]] w fun e w' =>
      Rp rb w (VUL w.heap.size) (Ob.listR most Ob.useR l) e w' := by
  have hrl := lt_of_cell h.c
  have HC := Lib.hid (many_any h most (by omega))
  have HR : Hid (Ob.listR most Ob.useR l = (Ob.manyR most l).bind fun x => Ob.repR Ob.useR x.1 x.2) := rfl
  have HB : Hid (∀ n r, Ob.manyR most l = some (n, r) → n ≤ most) := fun n r he => many_le he
  generalize Ob.listR most Ob.useR l = resT at *
  generalize Ob.manyR most l = res at *
  go_enter Try.func65, Try.ntmps65
  go_wp2_with fail
  refine HC.out.mono ?_
  intro e w1 hq
  rcases res with _ | ⟨n, r⟩
  · obtain ⟨rfl, hx⟩ := hq
    unfold thrown
    go_wp2_with fail
    rw [HR.out]
    exact ⟨rfl, rfl, hx⟩
  · obtain ⟨v, rfl, rfl, hst, hx⟩ := hq
    have hnm := HB.out n r rfl
    have HR1 : Hid (resT = Ob.repR Ob.useR n r) := HR
    have HST := Lib.hid hst
    have HX := Lib.hid hx
    clear HB HR HC hst hx h
    go_wp2_with fail
    go_loopg [7, 11] n (fun k v vi wr => ∃ (i : Nat) (xs : List Ob.Us) (r' : Bs), i ≤ n ∧ k = n - i ∧ xs.length = i ∧ vi = .int .i64 (i : Int) ∧ Hid (VUL w.heap.size xs v wr) ∧ Hid (Rst wr rb r') ∧ Hid (Ext rb w wr) ∧ Hid (app xs (Ob.repR Ob.useR (n - i) r') = resT))
    case atStart => exact ⟨0, [], r, by omega, by omega, rfl, rfl, ⟨[], rfl, World.ownsRow_nil _ _ _ _⟩, HST, HX, by rw [HR1.out, app_nil]; exact rfl⟩
    case round =>
      obtain ⟨i, xs, r', hid, hk, hxl, rfl, HO, HS, HE, HA⟩ := hrel
      clear HST HX HR1
      obtain ⟨cs, hrep, hown⟩ := HO.out
      obtain ⟨ao, cap, rfl⟩ := owns_shape hown
      by_cases hlt : i < n
      · have hlt' : (i : Int) < (n : Int) := by omega
        have HC := Lib.hid (use_any HS.out)
        have HA1 : Hid (app xs (Ob.repR Ob.useR ((n - (i + 1)) + 1) r') = resT) := by rw [show n - (i + 1) + 1 = n - i by omega]; exact HA
        obtain ⟨res, hres⟩ : ∃ res, Ob.useR r' = res := ⟨_, rfl⟩
        rw [hres] at HC
        have HRES := Lib.hid hres
        have HREP := Lib.hid hrep
        have HOWN := Lib.hid hown
        clear hres HS HA hrep hown HO
        go_wp2_with fail
        refine HC.out.mono ?_
        intro e w2 hq
        rcases res with _ | ⟨x, r2⟩
        · obtain ⟨rfl, hx⟩ := hq
          unfold thrown
          go_wp2_with fail
          rw [← HA1.out, app_bad HRES.out]
          exact ⟨rfl, rfl, HE.out.trans hx⟩
        · obtain ⟨v, rfl, hv, hst2, hx2⟩ := hq
          obtain ⟨na, nc, hv, hnown⟩ := hv
          have HV := Lib.hid hv
          clear hv
          rw [HV.out]
          have hown2 := owns_ext HOWN.out hx2 hrl
          rw [hxl] at hown2
          have HREP2 := Lib.hid (RepU.mono (D' := fun b => w.heap.size ≤ b ∧ (Value.slice ao xs.length cap).ownBlock ≠ some b) (fun b hb hl => ⟨hx2.block b hl (by omega), hb⟩) _ _ HREP.out)
          have HLT := Lib.hid (owns_lt HOWN.out)
          have HNO := Lib.hid hnown
          have HSZ := Lib.hid HE.out.size
          have HE2 := Lib.hid (HE.out.trans hx2)
          have HST2 := Lib.hid hst2
          have HA2 : Hid (app (xs ++ [x]) (Ob.repR Ob.useR (n - (i + 1)) r2) = resT) := by rw [← HA1.out]; exact (app_next HRES.out).symm
          clear HC HA1 HRES HV HE hst2 hx2 HREP HOWN hnown
          subst hxl
          go_wp2_with (at_builtin; refine wpList_elem (size := 3) rfl _ _ 37 rfl Try.underlying37 Try.infoUse rfl (by decide) (by decide) rfl hown2 [.string (bs x.name), .string (bs x.need), .slice na x.names.length nc] rfl ?c1 rfl (by omega) HE2.out.size ?_)
          case c1 => intro u hu; simp at hu; rcases hu with rfl | rfl | rfl <;> rfl
          intro v' w3 hown3 hex3 hb3
          have HO3 : Hid (VUL w.heap.size (xs ++ [x]) v' w3) := VUL.next HLT.out HSZ.out cs HREP2.out HNO.out hex3 hown3
          have HE3 := Lib.hid (HE2.out.trans' hb3)
          have HS3 : Hid (Rst w3 rb r2) := HST2.out.belowB hb3 hrl
          clear hown3 hex3 hb3 hown2 HE2 HST2 HREP2 HNO HLT
          go_wp2_with fail
          go_roundg (n - (xs.length + 1))
          case measure => omega
          case rel => exact ⟨xs.length + 1, xs ++ [x], r2, by omega, rfl, by simp, by go_num, HO3, HS3, HE3, HA2⟩
      · have hlt' : ¬ (i : Int) < (n : Int) := by omega
        have hei : i = n := by omega
        have HA1 : Hid (resT = some (xs, r')) := by
          show _ = _
          rw [← HA.out, hei, Nat.sub_self]
          simp [Ob.repR, app]
        clear HA hei hrep hown
        subst hxl
        go_wp2_with fail
        go_ret
        rw [HA1.out]
        exact ⟨_, rfl, HO.out, HS.out, HE.out⟩
end Go.Proofs.Ytljnddcddclmeaa
