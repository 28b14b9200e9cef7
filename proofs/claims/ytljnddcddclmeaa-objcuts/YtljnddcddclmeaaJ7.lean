/- Reading lists. -/
import Derived.Test.YtljnddcddclmeaaJ6
namespace Go.Proofs.Ytljnddcddclmeaa
open Go.RowKit
open Ob (Bs)

def smC (s : Ob.Sm) : List Value := [.string (bs s.name), .int .i64 s.len, .int .i64 s.args]
def glC (g : Ob.Gl) : List Value := [.string (bs g.name), .int .i64 g.at', .int .i64 g.len, .bool g.seen]
def enC (e : Ob.En) : List Value := [.int .i64 e.at', .int .i64 e.args, .int .i64 e.locals]
def inC (x : Ob.In) : List Value := [.int .i64 x.op, .int .i64 x.a, .int .i64 x.b]
def stC (s : Bs) : List Value := [.string (bs s)]
def cellsOf {α : Type} (c : α → List Value) (l : List α) : List Value := (l.map c).flatten
theorem cellsOf_snoc {α : Type} (c : α → List Value) (l : List α) (x : α) : cellsOf c (l ++ [x]) = cellsOf c l ++ c x := by simp [cellsOf]
/- a list that is read behind another one -/
def app {α : Type} (l : List α) (r : Option (List α × Bs)) : Option (List α × Bs) := r.map fun y => (l ++ y.1, y.2)
theorem app_nil {α : Type} (r : Option (List α × Bs)) : app [] r = r := by rcases r with _ | ⟨x, y⟩ <;> rfl
theorem app_bad {α : Type} {one : Ob.Rd α} {l : List α} {n : Nat} {r : Bs} (h : one r = none) : app l (Ob.repR one (n + 1) r) = none := by simp [Ob.repR, h, app]
theorem app_next {α : Type} {one : Ob.Rd α} {l : List α} {n : Nat} {r r1 : Bs} {x : α} (h : one r = some (x, r1)) : app l (Ob.repR one (n + 1) r) = app (l ++ [x]) (Ob.repR one n r1) := by
  simp only [Ob.repR, h, app, Option.bind_some, Option.map_map]
  congr 1
  funext y
  simp
theorem Try.infoSym : (Try.prog.info? 53).map (fun i => (i.zero, i.size, i.bytes)) = some (some (.agg #[.string ⟨#[]⟩, .int .i64 0, .int .i64 0]), 3, 32) := by kernel_rfl
theorem Try.infoGlobal : (Try.prog.info? 57).map (fun i => (i.zero, i.size, i.bytes)) = some (some (.agg #[.string ⟨#[]⟩, .int .i64 0, .int .i64 0, .bool false]), 4, 40) := by kernel_rfl
theorem Try.infoInst : (Try.prog.info? 45).map (fun i => (i.zero, i.size, i.bytes)) = some (some (.agg #[.int .i64 0, .int .i64 0, .int .i64 0]), 3, 24) := by kernel_rfl
theorem Try.infoEntry : (Try.prog.info? 35).map (fun i => (i.zero, i.size, i.bytes)) = some (some (.agg #[.int .i64 0, .int .i64 0, .int .i64 0]), 3, 24) := by kernel_rfl
theorem Try.infoUse : (Try.prog.info? 61).map (fun i => (i.zero, i.size, i.bytes)) = some (some (.agg #[.string ⟨#[]⟩, .string ⟨#[]⟩, .slice none 0 0]), 3, 56) := by kernel_rfl
theorem Try.infoString : (Try.prog.info? 9).map (fun i => (i.zero, i.size, i.bytes)) = some (some (.string ⟨#[]⟩), 1, 16) := by kernel_rfl
/- an element more -/
theorem wpList_elem {ops : Array Oper} {rest : List Oper} {o : Oper} {a : Act} {Q : Exit → Act → World → Prop} (hgd : o.guard = none) (sl x : Operand) (t : TypeId)
    (ho : o.op = .call { callee := .builtin .append, args := #[sl, x], argTypes := #[t, t] }) {w : World} {B e size bytes n : Nat} {z : Value}
    (ht : Try.prog.underlying t = some (.slice e)) (hi : (Try.prog.info? e).map (fun i => (i.zero, i.size, i.bytes)) = some (some z, size, bytes)) (hzs : z.cells.size = size) (hsz : 0 < size) (hby : bytes ≤ 100)
    {v : Value} {xs : List Value} (hs : a.eval sl = v) (hown : w.ownsRow B e size v n xs) (es : List Value) (hes : es.length = size) (h1 : ∀ u ∈ es, u.oneCell' = true)
    (hx : a.eval x = .slice (some ⟨w.heap.size, 0, none⟩) 1 1) (hn : n ≤ 1000000) (hB : B ≤ w.heap.size)
    (h : ∀ v' w', w'.ownsRow B e size v' (n + 1) (xs ++ es) → Exact v v' w w' → Below B w w' → wpList Try.prog ops Q rest (a.put o.dst v') w') : wpList Try.prog ops Q (o :: rest) a (w.alloc (.cells es.toArray e)) := by
  obtain ⟨i0, hi0, hz0, hz1, hz2⟩ := info_parts hi
  have hb : Below w.heap.size w (w.alloc (.cells es.toArray e)) := (Below.refl _ _).alloc (Nat.le_refl _) _
  have hown1 := owns_below hown hb
  have hmul : (n + 1) * bytes ≤ 140737488355328 := Nat.le_trans (Nat.mul_le_mul (show n + 1 ≤ 1000001 by omega) hby) (by omega)
  refine wpList_append_where _ hgd sl x t ho B e i0 z size bytes ht hi0 hz0 hz1 hz2 hzs hsz v n xs hs hown1 ⟨w.heap.size, 0, none⟩ 1 1 es hx (by omega) ?c1 h1 (by unfold maxLen; omega) hmul (Nat.le_trans hB hb.size) ?_
  case c1 =>
    intro j u hj
    rw [Addr.add_lit, cell_blk (new_blk _ _), Nat.zero_add]
    simpa using hj
  intro v' w' r1 r2 r3
  have hbg : Below B (w.alloc (.cells es.toArray e)) w' := (Below.refl _ _).grown r2 (Nat.le_trans hB hb.size) (owns_row hown1)
  exact h v' w' r1 (Exact.ahead hb (Exact.of r2 r3)) ((hb.mono hB).trans hbg)
set_option maxRecDepth 100000 in
set_option maxHeartbeats 1000000 in
theorem listSym_any {w : World} {rb : Nat} {l : Bs} (h : Rst w rb l) (most : Nat) (hm : most ≤ 10000) :
    Calls Try.prog 63 #[.pointer (some ⟨rb, 0, none⟩), .int .i64 (most : Int), .func (.func 64) #[.pointer (some ⟨rb, 0, none⟩)] #[]] w fun e w' =>
      Rp rb w (fun xs v w' => w'.ownsRow w.heap.size 53 3 v xs.length (cellsOf smC xs)) (Ob.listR most Ob.symR l) e w' := by
  have hrl := lt_of_cell h.c
  have HC := Lib.hid (many_any h most (by omega))
  have HR : Hid (Ob.listR most Ob.symR l = (Ob.manyR most l).bind fun x => Ob.repR Ob.symR x.1 x.2) := rfl
  have HB : Hid (∀ n r, Ob.manyR most l = some (n, r) → n ≤ most) := fun n r he => many_le he
  generalize Ob.listR most Ob.symR l = resT at *
  generalize Ob.manyR most l = res at *
  go_enter Try.func63, Try.ntmps63
  go_wp2_with fail
  refine HC.out.mono ?_
  intro e w1 hq
  rcases res with _ | ⟨n, r⟩
  · obtain ⟨rfl, hx⟩ := hq
    unfold thrown
    go_wp2_with fail
    rw [HR.out]
    exact ⟨rfl, rfl, hx⟩
  · obtain ⟨v, rfl, rfl, hst, hx⟩ := hq
    have hnm := HB.out n r rfl
    have HR1 : Hid (resT = Ob.repR Ob.symR n r) := HR
    have HST := Lib.hid hst
    have HX := Lib.hid hx
    clear HB HR HC hst hx h
    go_wp2_with fail
    go_loopg [7, 11] n (fun k v vi wr => ∃ (i : Nat) (xs : List Ob.Sm) (r' : Bs), i ≤ n ∧ k = n - i ∧ xs.length = i ∧ vi = .int .i64 (i : Int) ∧ Hid (wr.ownsRow w.heap.size 53 3 v i (cellsOf smC xs)) ∧ Hid (Rst wr rb r') ∧ Hid (Ext rb w wr) ∧ Hid (app xs (Ob.repR Ob.symR (n - i) r') = resT))
    case atStart => exact ⟨0, [], r, by omega, by omega, rfl, rfl, World.ownsRow_nil _ _ _ _, HST, HX, by rw [HR1.out, app_nil]; exact rfl⟩
    case round =>
      obtain ⟨i, xs, r', hid, hk, hxl, rfl, HO, HS, HE, HA⟩ := hrel
      clear HST HX HR1
      obtain ⟨ao, cap, rfl⟩ := owns_shape HO.out
      by_cases hlt : i < n
      · have hlt' : (i : Int) < (n : Int) := by omega
        have HC := Lib.hid (sym_any HS.out)
        have HA1 : Hid (app xs (Ob.repR Ob.symR ((n - (i + 1)) + 1) r') = resT) := by rw [show n - (i + 1) + 1 = n - i by omega]; exact HA
        obtain ⟨res, hres⟩ : ∃ res, Ob.symR r' = res := ⟨_, rfl⟩
        rw [hres] at HC
        have HRES := Lib.hid hres
        clear hres HS HA
        go_wp2_with fail
        refine HC.out.mono ?_
        intro e w2 hq
        rcases res with _ | ⟨x, r2⟩
        · obtain ⟨rfl, hx⟩ := hq
          unfold thrown
          go_wp2_with fail
          rw [← HA1.out, app_bad HRES.out]
          exact ⟨rfl, rfl, HE.out.trans hx⟩
        · obtain ⟨v, rfl, hv, hst2, hx2⟩ := hq
          have HV : Hid (v = .agg #[.string (bs x.name), .int .i64 x.len, .int .i64 x.args]) := hv
          clear hv
          rw [HV.out]
          have hown2 := owns_ext HO.out hx2 hrl
          have HE2 := Lib.hid (HE.out.trans hx2)
          have HST2 := Lib.hid hst2
          have HA2 : Hid (app (xs ++ [x]) (Ob.repR Ob.symR (n - (i + 1)) r2) = resT) := by rw [← HA1.out]; exact (app_next HRES.out).symm
          clear HC HA1 HRES HV HO HE hst2 hx2
          go_wp2_with (at_builtin; refine wpList_elem (size := 3) rfl _ _ 36 rfl Try.underlying36 Try.infoSym rfl (by decide) (by decide) rfl hown2 (smC x) rfl ?c1 rfl (by omega) HE2.out.size ?_)
          case c1 => intro u hu; simp [smC] at hu; rcases hu with rfl | rfl | rfl <;> rfl
          intro v' w3 hown3 hex3 hb3
          have HO3 : Hid (w3.ownsRow w.heap.size 53 3 v' (i + 1) (cellsOf smC (xs ++ [x]))) := by rw [cellsOf_snoc]; exact hown3
          have HE3 := Lib.hid (HE2.out.trans' hb3)
          have HS3 : Hid (Rst w3 rb r2) := HST2.out.belowB hb3 hrl
          clear hown3 hex3 hb3 hown2 HE2 HST2
          go_wp2_with fail
          go_roundg (n - (i + 1))
          case measure => omega
          case rel => exact ⟨i + 1, xs ++ [x], r2, by omega, rfl, by simp; omega, by go_num, HO3, HS3, HE3, HA2⟩
      · have hlt' : ¬ (i : Int) < (n : Int) := by omega
        have hei : i = n := by omega
        have HA1 : Hid (resT = some (xs, r')) := by
          show _ = _
          rw [← HA.out, hei, Nat.sub_self]
          simp [Ob.repR, app]
        clear HA hei
        subst hxl
        go_wp2_with fail
        go_ret
        rw [HA1.out]
        exact ⟨_, rfl, HO.out, HS.out, HE.out⟩
set_option maxRecDepth 100000 in
set_option maxHeartbeats 1000000 in
theorem listGlobal_any {w : World} {rb : Nat} {l : Bs} (h : Rst w rb l) (most : Nat) (hm : most ≤ 10000) :
    Calls Try.prog 67 #[.pointer (some ⟨rb, 0, none⟩), .int .i64 (most : Int), .func (.func 68) #[.pointer (some ⟨rb, 0, none⟩)] #[]] w fun e w' =>
      Rp rb w (fun xs v w' => w'.ownsRow w.heap.size 57 4 v xs.length (cellsOf glC xs)) (Ob.listR most Ob.glR l) e w' := by
  have hrl := lt_of_cell h.c
  have HC := Lib.hid (many_any h most (by omega))
  have HR : Hid (Ob.listR most Ob.glR l = (Ob.manyR most l).bind fun x => Ob.repR Ob.glR x.1 x.2) := rfl
  have HB : Hid (∀ n r, Ob.manyR most l = some (n, r) → n ≤ most) := fun n r he => many_le he
  generalize Ob.listR most Ob.glR l = resT at *
  generalize Ob.manyR most l = res at *
  go_enter Try.func67, Try.ntmps67
  go_wp2_with fail
  refine HC.out.mono ?_
  intro e w1 hq
  rcases res with _ | ⟨n, r⟩
  · obtain ⟨rfl, hx⟩ := hq
    unfold thrown
    go_wp2_with fail
    rw [HR.out]
    exact ⟨rfl, rfl, hx⟩
  · obtain ⟨v, rfl, rfl, hst, hx⟩ := hq
    have hnm := HB.out n r rfl
    have HR1 : Hid (resT = Ob.repR Ob.glR n r) := HR
    have HST := Lib.hid hst
    have HX := Lib.hid hx
    clear HB HR HC hst hx h
    go_wp2_with fail
    go_loopg [7, 11] n (fun k v vi wr => ∃ (i : Nat) (xs : List Ob.Gl) (r' : Bs), i ≤ n ∧ k = n - i ∧ xs.length = i ∧ vi = .int .i64 (i : Int) ∧ Hid (wr.ownsRow w.heap.size 57 4 v i (cellsOf glC xs)) ∧ Hid (Rst wr rb r') ∧ Hid (Ext rb w wr) ∧ Hid (app xs (Ob.repR Ob.glR (n - i) r') = resT))
    case atStart => exact ⟨0, [], r, by omega, by omega, rfl, rfl, World.ownsRow_nil _ _ _ _, HST, HX, by rw [HR1.out, app_nil]; exact rfl⟩
    case round =>
      obtain ⟨i, xs, r', hid, hk, hxl, rfl, HO, HS, HE, HA⟩ := hrel
      clear HST HX HR1
      obtain ⟨ao, cap, rfl⟩ := owns_shape HO.out
      by_cases hlt : i < n
      · have hlt' : (i : Int) < (n : Int) := by omega
        have HC := Lib.hid (global_any HS.out)
        have HA1 : Hid (app xs (Ob.repR Ob.glR ((n - (i + 1)) + 1) r') = resT) := by rw [show n - (i + 1) + 1 = n - i by omega]; exact HA
        obtain ⟨res, hres⟩ : ∃ res, Ob.glR r' = res := ⟨_, rfl⟩
        rw [hres] at HC
        have HRES := Lib.hid hres
        clear hres HS HA
        go_wp2_with fail
        refine HC.out.mono ?_
        intro e w2 hq
        rcases res with _ | ⟨x, r2⟩
        · obtain ⟨rfl, hx⟩ := hq
          unfold thrown
          go_wp2_with fail
          rw [← HA1.out, app_bad HRES.out]
          exact ⟨rfl, rfl, HE.out.trans hx⟩
        · obtain ⟨v, rfl, hv, hst2, hx2⟩ := hq
          have HV : Hid (v = .agg #[.string (bs x.name), .int .i64 x.at', .int .i64 x.len, .bool x.seen]) := hv
          clear hv
          rw [HV.out]
          have hown2 := owns_ext HO.out hx2 hrl
          have HE2 := Lib.hid (HE.out.trans hx2)
          have HST2 := Lib.hid hst2
          have HA2 : Hid (app (xs ++ [x]) (Ob.repR Ob.glR (n - (i + 1)) r2) = resT) := by rw [← HA1.out]; exact (app_next HRES.out).symm
          clear HC HA1 HRES HV HO HE hst2 hx2
          go_wp2_with (at_builtin; refine wpList_elem (size := 4) rfl _ _ 38 rfl Try.underlying38 Try.infoGlobal rfl (by decide) (by decide) rfl hown2 (glC x) rfl ?c1 rfl (by omega) HE2.out.size ?_)
          case c1 => intro u hu; simp [glC] at hu; rcases hu with rfl | rfl | rfl | rfl <;> rfl
          intro v' w3 hown3 hex3 hb3
          have HO3 : Hid (w3.ownsRow w.heap.size 57 4 v' (i + 1) (cellsOf glC (xs ++ [x]))) := by rw [cellsOf_snoc]; exact hown3
          have HE3 := Lib.hid (HE2.out.trans' hb3)
          have HS3 : Hid (Rst w3 rb r2) := HST2.out.belowB hb3 hrl
          clear hown3 hex3 hb3 hown2 HE2 HST2
          go_wp2_with fail
          go_roundg (n - (i + 1))
          case measure => omega
          case rel => exact ⟨i + 1, xs ++ [x], r2, by omega, rfl, by simp; omega, by go_num, HO3, HS3, HE3, HA2⟩
      · have hlt' : ¬ (i : Int) < (n : Int) := by omega
        have hei : i = n := by omega
        have HA1 : Hid (resT = some (xs, r')) := by
          show _ = _
          rw [← HA.out, hei, Nat.sub_self]
          simp [Ob.repR, app]
        clear HA hei
        subst hxl
        go_wp2_with fail
        go_ret
        rw [HA1.out]
        exact ⟨_, rfl, HO.out, HS.out, HE.out⟩
set_option maxRecDepth 100000 in
set_option maxHeartbeats 1000000 in
theorem listInst_any {w : World} {rb : Nat} {l : Bs} (h : Rst w rb l) (most : Nat) (hm : most ≤ 10000) :
    Calls Try.prog 71 #[.pointer (some ⟨rb, 0, none⟩), .int .i64 (most : Int), .func (.func 72) #[.pointer (some ⟨rb, 0, none⟩)] #[]] w fun e w' =>
      Rp rb w (fun xs v w' => w'.ownsRow w.heap.size 45 3 v xs.length (cellsOf inC xs)) (Ob.listR most Ob.inR l) e w' := by
  have hrl := lt_of_cell h.c
  have HC := Lib.hid (many_any h most (by omega))
  have HR : Hid (Ob.listR most Ob.inR l = (Ob.manyR most l).bind fun x => Ob.repR Ob.inR x.1 x.2) := rfl
  have HB : Hid (∀ n r, Ob.manyR most l = some (n, r) → n ≤ most) := fun n r he => many_le he
  generalize Ob.listR most Ob.inR l = resT at *
  generalize Ob.manyR most l = res at *
  go_enter Try.func71, Try.ntmps71
  go_wp2_with fail
  refine HC.out.mono ?_
  intro e w1 hq
  rcases res with _ | ⟨n, r⟩
  · obtain ⟨rfl, hx⟩ := hq
    unfold thrown
    go_wp2_with fail
    rw [HR.out]
    exact ⟨rfl, rfl, hx⟩
  · obtain ⟨v, rfl, rfl, hst, hx⟩ := hq
    have hnm := HB.out n r rfl
    have HR1 : Hid (resT = Ob.repR Ob.inR n r) := HR
    have HST := Lib.hid hst
    have HX := Lib.hid hx
    clear HB HR HC hst hx h
    go_wp2_with fail
    go_loopg [7, 11] n (fun k v vi wr => ∃ (i : Nat) (xs : List Ob.In) (r' : Bs), i ≤ n ∧ k = n - i ∧ xs.length = i ∧ vi = .int .i64 (i : Int) ∧ Hid (wr.ownsRow w.heap.size 45 3 v i (cellsOf inC xs)) ∧ Hid (Rst wr rb r') ∧ Hid (Ext rb w wr) ∧ Hid (app xs (Ob.repR Ob.inR (n - i) r') = resT))
    case atStart => exact ⟨0, [], r, by omega, by omega, rfl, rfl, World.ownsRow_nil _ _ _ _, HST, HX, by rw [HR1.out, app_nil]; exact rfl⟩
    case round =>
      obtain ⟨i, xs, r', hid, hk, hxl, rfl, HO, HS, HE, HA⟩ := hrel
      clear HST HX HR1
      obtain ⟨ao, cap, rfl⟩ := owns_shape HO.out
      by_cases hlt : i < n
      · have hlt' : (i : Int) < (n : Int) := by omega
        have HC := Lib.hid (inst_any HS.out)
        have HA1 : Hid (app xs (Ob.repR Ob.inR ((n - (i + 1)) + 1) r') = resT) := by rw [show n - (i + 1) + 1 = n - i by omega]; exact HA
        obtain ⟨res, hres⟩ : ∃ res, Ob.inR r' = res := ⟨_, rfl⟩
        rw [hres] at HC
        have HRES := Lib.hid hres
        clear hres HS HA
        go_wp2_with fail
        refine HC.out.mono ?_
        intro e w2 hq
        rcases res with _ | ⟨x, r2⟩
        · obtain ⟨rfl, hx⟩ := hq
          unfold thrown
          go_wp2_with fail
          rw [← HA1.out, app_bad HRES.out]
          exact ⟨rfl, rfl, HE.out.trans hx⟩
        · obtain ⟨v, rfl, hv, hst2, hx2⟩ := hq
          have HV : Hid (v = .agg #[.int .i64 x.op, .int .i64 x.a, .int .i64 x.b]) := hv
          clear hv
          rw [HV.out]
          have hown2 := owns_ext HO.out hx2 hrl
          have HE2 := Lib.hid (HE.out.trans hx2)
          have HST2 := Lib.hid hst2
          have HA2 : Hid (app (xs ++ [x]) (Ob.repR Ob.inR (n - (i + 1)) r2) = resT) := by rw [← HA1.out]; exact (app_next HRES.out).symm
          clear HC HA1 HRES HV HO HE hst2 hx2
          go_wp2_with (at_builtin; refine wpList_elem (size := 3) rfl _ _ 40 rfl Try.underlying40 Try.infoInst rfl (by decide) (by decide) rfl hown2 (inC x) rfl ?c1 rfl (by omega) HE2.out.size ?_)
          case c1 => intro u hu; simp [inC] at hu; rcases hu with rfl | rfl | rfl <;> rfl
          intro v' w3 hown3 hex3 hb3
          have HO3 : Hid (w3.ownsRow w.heap.size 45 3 v' (i + 1) (cellsOf inC (xs ++ [x]))) := by rw [cellsOf_snoc]; exact hown3
          have HE3 := Lib.hid (HE2.out.trans' hb3)
          have HS3 : Hid (Rst w3 rb r2) := HST2.out.belowB hb3 hrl
          clear hown3 hex3 hb3 hown2 HE2 HST2
          go_wp2_with fail
          go_roundg (n - (i + 1))
          case measure => omega
          case rel => exact ⟨i + 1, xs ++ [x], r2, by omega, rfl, by simp; omega, by go_num, HO3, HS3, HE3, HA2⟩
      · have hlt' : ¬ (i : Int) < (n : Int) := by omega
        have hei : i = n := by omega
        have HA1 : Hid (resT = some (xs, r')) := by
          show _ = _
          rw [← HA.out, hei, Nat.sub_self]
          simp [Ob.repR, app]
        clear HA hei
        subst hxl
        go_wp2_with fail
        go_ret
        rw [HA1.out]
        exact ⟨_, rfl, HO.out, HS.out, HE.out⟩
set_option maxRecDepth 100000 in
set_option maxHeartbeats 1000000 in
theorem listStr_any {w : World} {rb : Nat} {l : Bs} (h : Rst w rb l) (most : Nat) (hm : most ≤ 10000) :
    Calls Try.prog 69 #[.pointer (some ⟨rb, 0, none⟩), .int .i64 (most : Int), .func (.func 62) #[.pointer (some ⟨rb, 0, none⟩)] #[]] w fun e w' =>
      Rp rb w (fun xs v w' => w'.ownsRow w.heap.size 9 1 v xs.length (cellsOf stC xs)) (Ob.listR most Ob.txtR l) e w' := by
  have hrl := lt_of_cell h.c
  have HC := Lib.hid (many_any h most (by omega))
  have HR : Hid (Ob.listR most Ob.txtR l = (Ob.manyR most l).bind fun x => Ob.repR Ob.txtR x.1 x.2) := rfl
  have HB : Hid (∀ n r, Ob.manyR most l = some (n, r) → n ≤ most) := fun n r he => many_le he
  generalize Ob.listR most Ob.txtR l = resT at *
  generalize Ob.manyR most l = res at *
  go_enter Try.func69, Try.ntmps69
  go_wp2_with fail
  refine HC.out.mono ?_
  intro e w1 hq
  rcases res with _ | ⟨n, r⟩
  · obtain ⟨rfl, hx⟩ := hq
    unfold thrown
    go_wp2_with fail
    rw [HR.out]
    exact ⟨rfl, rfl, hx⟩
  · obtain ⟨v, rfl, rfl, hst, hx⟩ := hq
    have hnm := HB.out n r rfl
    have HR1 : Hid (resT = Ob.repR Ob.txtR n r) := HR
    have HST := Lib.hid hst
    have HX := Lib.hid hx
    clear HB HR HC hst hx h
    go_wp2_with fail
    go_loopg [7, 11] n (fun k v vi wr => ∃ (i : Nat) (xs : List Bs) (r' : Bs), i ≤ n ∧ k = n - i ∧ xs.length = i ∧ vi = .int .i64 (i : Int) ∧ Hid (wr.ownsRow w.heap.size 9 1 v i (cellsOf stC xs)) ∧ Hid (Rst wr rb r') ∧ Hid (Ext rb w wr) ∧ Hid (app xs (Ob.repR Ob.txtR (n - i) r') = resT))
    case atStart => exact ⟨0, [], r, by omega, by omega, rfl, rfl, World.ownsRow_nil _ _ _ _, HST, HX, by rw [HR1.out, app_nil]; exact rfl⟩
    case round =>
      obtain ⟨i, xs, r', hid, hk, hxl, rfl, HO, HS, HE, HA⟩ := hrel
      clear HST HX HR1
      obtain ⟨ao, cap, rfl⟩ := owns_shape HO.out
      by_cases hlt : i < n
      · have hlt' : (i : Int) < (n : Int) := by omega
        have HC := Lib.hid (text_any HS.out)
        have HA1 : Hid (app xs (Ob.repR Ob.txtR ((n - (i + 1)) + 1) r') = resT) := by rw [show n - (i + 1) + 1 = n - i by omega]; exact HA
        obtain ⟨res, hres⟩ : ∃ res, Ob.txtR r' = res := ⟨_, rfl⟩
        rw [hres] at HC
        have HRES := Lib.hid hres
        clear hres HS HA
        go_wp2_with fail
        refine HC.out.mono ?_
        intro e w2 hq
        rcases res with _ | ⟨x, r2⟩
        · obtain ⟨rfl, hx⟩ := hq
          unfold thrown
          go_wp2_with fail
          rw [← HA1.out, app_bad HRES.out]
          exact ⟨rfl, rfl, HE.out.trans hx⟩
        · obtain ⟨v, rfl, hv, hst2, hx2⟩ := hq
          have HV : Hid (v = .string (bs x)) := hv
          clear hv
          rw [HV.out]
          have hown2 := owns_ext HO.out hx2 hrl
          have HE2 := Lib.hid (HE.out.trans hx2)
          have HST2 := Lib.hid hst2
          have HA2 : Hid (app (xs ++ [x]) (Ob.repR Ob.txtR (n - (i + 1)) r2) = resT) := by rw [← HA1.out]; exact (app_next HRES.out).symm
          clear HC HA1 HRES HV HO HE hst2 hx2
          go_wp2_with (at_builtin; refine wpList_elem (size := 1) rfl _ _ 39 rfl Try.underlying39 Try.infoString rfl (by decide) (by decide) rfl hown2 (stC x) rfl ?c1 rfl (by omega) HE2.out.size ?_)
          case c1 => intro u hu; simp [stC] at hu; subst hu; rfl
          intro v' w3 hown3 hex3 hb3
          have HO3 : Hid (w3.ownsRow w.heap.size 9 1 v' (i + 1) (cellsOf stC (xs ++ [x]))) := by rw [cellsOf_snoc]; exact hown3
          have HE3 := Lib.hid (HE2.out.trans' hb3)
          have HS3 : Hid (Rst w3 rb r2) := HST2.out.belowB hb3 hrl
          clear hown3 hex3 hb3 hown2 HE2 HST2
          go_wp2_with fail
          go_roundg (n - (i + 1))
          case measure => omega
          case rel => exact ⟨i + 1, xs ++ [x], r2, by omega, rfl, by simp; omega, by go_num, HO3, HS3, HE3, HA2⟩
      · have hlt' : ¬ (i : Int) < (n : Int) := by omega
        have hei : i = n := by omega
        have HA1 : Hid (resT = some (xs, r')) := by
          show _ = _
          rw [← HA.out, hei, Nat.sub_self]
          simp [Ob.repR, app]
        clear HA hei
        subst hxl
        go_wp2_with fail
        go_ret
        rw [HA1.out]
        exact ⟨_, rfl, HO.out, HS.out, HE.out⟩
end Go.Proofs.Ytljnddcddclmeaa
