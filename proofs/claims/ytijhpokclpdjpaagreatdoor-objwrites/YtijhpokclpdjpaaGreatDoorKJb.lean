import Derived.Test.YtijhpokclpdjpaaGreatDoorKJa
/- Reading lists. -/
namespace Go.Proofs.YtijhpokclpdjpaaGreatDoor
open Go.RowKit
open Ob (Bs)

def smC (s : Ob.Sm) : List Value := [.string (bs s.name), .int .i64 s.len, .int .i64 s.args]
def glC (g : Ob.Gl) : List Value := [.string (bs g.name), .int .i64 g.at', .int .i64 g.len, .bool g.seen]
def enC (e : Ob.En) : List Value := [.int .i64 e.at', .int .i64 e.args, .int .i64 e.locals]
def inC (x : Ob.In) : List Value := [.int .i64 x.op, .int .i64 x.a, .int .i64 x.b]
def stC (s : Bs) : List Value := [.string (bs s)]
def cellsOf {α : Type} (c : α → List Value) (l : List α) : List Value := (l.map c).flatten
theorem cellsOf_snoc {α : Type} (c : α → List Value) (l : List α) (x : α) : cellsOf c (l ++ [x]) = cellsOf c l ++ c x := by simp [cellsOf]
/- a list that is read behind another one -/
def app {α : Type} (l : List α) (r : Option (List α × Bs)) : Option (List α × Bs) := r.map fun y => (l ++ y.1, y.2)
theorem app_nil {α : Type} (r : Option (List α × Bs)) : app [] r = r := by rcases r with _ | ⟨x, y⟩ <;> rfl
theorem app_bad {α : Type} {one : Ob.Rd α} {l : List α} {n : Nat} {r : Bs} (h : one r = none) : app l (Ob.repR one (n + 1) r) = none := by simp [Ob.repR, h, app]
theorem app_next {α : Type} {one : Ob.Rd α} {l : List α} {n : Nat} {r r1 : Bs} {x : α} (h : one r = some (x, r1)) : app l (Ob.repR one (n + 1) r) = app (l ++ [x]) (Ob.repR one n r1) := by
  simp only [Ob.repR, h, app, Option.bind_some, Option.map_map]
  congr 1
  funext y
  simp
theorem Tryz.infoSym : (Tryz.prog.info? 52).map (fun i => (i.zero, i.size, i.bytes)) = some (some (.agg #[.string ⟨#[]⟩, .int .i64 0, .int .i64 0]), 3, 32) := by kernel_rfl
theorem Tryz.infoGlobal : (Tryz.prog.info? 54).map (fun i => (i.zero, i.size, i.bytes)) = some (some (.agg #[.string ⟨#[]⟩, .int .i64 0, .int .i64 0, .bool false]), 4, 40) := by kernel_rfl
theorem Tryz.infoInst : (Tryz.prog.info? 49).map (fun i => (i.zero, i.size, i.bytes)) = some (some (.agg #[.int .i64 0, .int .i64 0, .int .i64 0]), 3, 24) := by kernel_rfl
theorem Tryz.infoEntry : (Tryz.prog.info? 47).map (fun i => (i.zero, i.size, i.bytes)) = some (some (.agg #[.int .i64 0, .int .i64 0, .int .i64 0]), 3, 24) := by kernel_rfl
theorem Tryz.infoUse : (Tryz.prog.info? 56).map (fun i => (i.zero, i.size, i.bytes)) = some (some (.agg #[.string ⟨#[]⟩, .string ⟨#[]⟩, .slice none 0 0]), 3, 56) := by kernel_rfl
theorem Tryz.infoString : (Tryz.prog.info? 9).map (fun i => (i.zero, i.size, i.bytes)) = some (some (.string ⟨#[]⟩), 1, 16) := by kernel_rfl
/- an element more -/
theorem wpList_elem {ops : Array Oper} {rest : List Oper} {o : Oper} {a : Act} {Q : Exit → Act → World → Prop} (hgd : o.guard = none) (sl x : Operand) (t : TypeId)
    (ho : o.op = .call { callee := .builtin .append, args := #[sl, x], argTypes := #[t, t] }) {w : World} {B e size bytes n : Nat} {z : Value}
    (ht : Tryz.prog.underlying t = some (.slice e)) (hi : (Tryz.prog.info? e).map (fun i => (i.zero, i.size, i.bytes)) = some (some z, size, bytes)) (hzs : z.cells.size = size) (hsz : 0 < size) (hby : bytes ≤ 100)
    {v : Value} {xs : List Value} (hs : a.eval sl = v) (hown : w.ownsRow B e size v n xs) (es : List Value) (hes : es.length = size) (h1 : ∀ u ∈ es, u.oneCell' = true)
    (hx : a.eval x = .slice (some ⟨w.heap.size, 0, none⟩) 1 1) (hn : n ≤ 1000000) (hB : B ≤ w.heap.size)
    (h : ∀ v' w', w'.ownsRow B e size v' (n + 1) (xs ++ es) → Exact v v' w w' → Below B w w' → wpList Tryz.prog ops Q rest (a.put o.dst v') w') : wpList Tryz.prog ops Q (o :: rest) a (w.alloc (.cells es.toArray e)) := by
  obtain ⟨i0, hi0, hz0, hz1, hz2⟩ := info_parts hi
  have hb : Below w.heap.size w (w.alloc (.cells es.toArray e)) := (Below.refl _ _).alloc (Nat.le_refl _) _
  have hown1 := owns_below hown hb
  have hmul : (n + 1) * bytes ≤ 140737488355328 := Nat.le_trans (Nat.mul_le_mul (show n + 1 ≤ 1000001 by omega) hby) (by omega)
  refine wpList_append_where _ hgd sl x t ho B e i0 z size bytes ht hi0 hz0 hz1 hz2 hzs hsz v n xs hs hown1 ⟨w.heap.size, 0, none⟩ 1 1 es hx (by omega) ?c1 h1 (by unfold maxLen; omega) hmul (Nat.le_trans hB hb.size) ?_
  case c1 =>
    intro j u hj
    rw [Addr.add_lit, cell_blk (new_blk _ _), Nat.zero_add]
    simpa using hj
  intro v' w' r1 r2 r3
  have hbg : Below B (w.alloc (.cells es.toArray e)) w' := (Below.refl _ _).grown r2 (Nat.le_trans hB hb.size) (owns_row hown1)
  exact h v' w' r1 (Exact.ahead hb (Exact.of r2 r3)) ((hb.mono hB).trans hbg)
set_option maxRecDepth 100000 in
set_option maxHeartbeats 1000000 in
theorem listSym_any {w : World} {rb : Nat} {l : Bs} (h : Rst w rb l) (most : Nat) (hm : most ≤ 10000) :
    Calls Tryz.prog 86 #[.pointer (some ⟨rb, 0, none⟩), .int .i64 (most : Int), .func (.func 87) #[.pointer (some ⟨rb, 0, none⟩)] #[]] w fun e w' =>
      Rp rb w (fun xs v w' => w'.ownsRow w.heap.size 52 3 v xs.length (cellsOf smC xs)) (Ob.listR most Ob.symR l) e w' := by
  have hrl := lt_of_cell h.c
  have HC := Lib.hid (many_any h most (by omega))
  have HR : Hid (Ob.listR most Ob.symR l = (Ob.manyR most l).bind fun x => Ob.repR Ob.symR x.1 x.2) := rfl
  have HB : Hid (∀ n r, Ob.manyR most l = some (n, r) → n ≤ most) := fun n r he => many_le he
  generalize Ob.listR most Ob.symR l = resT at *
  generalize Ob.manyR most l = res at *
  go_enter Tryz.func86, Tryz.ntmps86
  go_wp2_with fail
  refine HC.out.mono ?_
  intro e w1 hq
  rcases res with _ | ⟨n, r⟩
  · obtain ⟨rfl, hx⟩ := hq
    unfold thrown
    go_wp2_with fail
    rw [HR.out]
    exact ⟨rfl, rfl, hx⟩
  · obtain ⟨v, rfl, rfl, hst, hx⟩ := hq
    have hnm := HB.out n r rfl
    have HR1 : Hid (resT = Ob.repR Ob.symR n r) := HR
    have HST := Lib.hid hst
    have HX := Lib.hid hx
    clear HB HR HC hst hx h
    go_wp2_with fail
    go_loopg [7, 11] n (fun k v vi wr => ∃ (i : Nat) (xs : List Ob.Sm) (r' : Bs), i ≤ n ∧ k = n - i ∧ xs.length = i ∧ vi = .int .i64 (i : Int) ∧ Hid (wr.ownsRow w.heap.size 52 3 v i (cellsOf smC xs)) ∧ Hid (Rst wr rb r') ∧ Hid (Ext rb w wr) ∧ Hid (app xs (Ob.repR Ob.symR (n - i) r') = resT))
    case atStart => exact ⟨0, [], r, by omega, by omega, rfl, rfl, World.ownsRow_nil _ _ _ _, HST, HX, by rw [HR1.out, app_nil]; exact rfl⟩
    case round =>
      obtain ⟨i, xs, r', hid, hk, hxl, rfl, HO, HS, HE, HA⟩ := hrel
      clear HST HX HR1
      obtain ⟨ao, cap, rfl⟩ := owns_shape HO.out
      by_cases hlt : i < n
      · have hlt' : (i : Int) < (n : Int) := by omega
        have HC := Lib.hid (sym_any HS.out)
        have HA1 : Hid (app xs (Ob.repR Ob.symR ((n - (i + 1)) + 1) r') = resT) := by rw [show n - (i + 1) + 1 = n - i by omega]; exact HA
        obtain ⟨res, hres⟩ : ∃ res, Ob.symR r' = res := ⟨_, rfl⟩
        rw [hres] at HC
        have HRES := Lib.hid hres
        clear hres HS HA
        go_wp2_with fail
        refine HC.out.mono ?_
        intro e w2 hq
        rcases res with _ | ⟨x, r2⟩
        · obtain ⟨rfl, hx⟩ := hq
          unfold thrown
          go_wp2_with fail
          rw [← HA1.out, app_bad HRES.out]
          exact ⟨rfl, rfl, HE.out.trans hx⟩
        · obtain ⟨v, rfl, hv, hst2, hx2⟩ := hq
          have HV : Hid (v = .agg #[.string (bs x.name), .int .i64 x.len, .int .i64 x.args]) := hv
          clear hv
          rw [HV.out]
          have hown2 := owns_ext HO.out hx2 hrl
          have HE2 := Lib.hid (HE.out.trans hx2)
          have HST2 := Lib.hid hst2
          have HA2 : Hid (app (xs ++ [x]) (Ob.repR Ob.symR (n - (i + 1)) r2) = resT) := by rw [← HA1.out]; exact (app_next HRES.out).symm
          clear HC HA1 HRES HV HO HE hst2 hx2
          go_wp2_with (at_builtin; refine wpList_elem (size := 3) rfl _ _ 38 rfl Tryz.underlying38 Tryz.infoSym rfl (by decide) (by decide) rfl hown2 (smC x) rfl ?c1 rfl (by omega) HE2.out.size ?_)
          case c1 => intro u hu; simp [smC] at hu; rcases hu with rfl | rfl | rfl <;> rfl
          intro v' w3 hown3 hex3 hb3
          have HO3 : Hid (w3.ownsRow w.heap.size 52 3 v' (i + 1) (cellsOf smC (xs ++ [x]))) := by rw [cellsOf_snoc]; exact hown3
          have HE3 := Lib.hid (HE2.out.trans' hb3)
          have HS3 : Hid (Rst w3 rb r2) := HST2.out.belowB hb3 hrl
          clear hown3 hex3 hb3 hown2 HE2 HST2
          go_wp2_with fail
          go_roundg (n - (i + 1))
          case measure => omega
          case rel => exact ⟨i + 1, xs ++ [x], r2, by omega, rfl, by simp; omega, by go_num, HO3, HS3, HE3, HA2⟩
      · have hlt' : ¬ (i : Int) < (n : Int) := by omega
        have hei : i = n := by omega
        have HA1 : Hid (resT = some (xs, r')) := by
          show _ = _
          rw [← HA.out, hei, Nat.sub_self]
          simp [Ob.repR, app]
        clear HA hei
        subst hxl
        go_wp2_with fail
        go_ret
        rw [HA1.out]
        exact ⟨_, rfl, HO.out, HS.out, HE.out⟩
set_option maxRecDepth 100000 in
set_option maxHeartbeats 1000000 in
theorem listGlobal_any {w : World} {rb : Nat} {l : Bs} (h : Rst w rb l) (most : Nat) (hm : most ≤ 10000) :
    Calls Tryz.prog 90 #[.pointer (some ⟨rb, 0, none⟩), .int .i64 (most : Int), .func (.func 91) #[.pointer (some ⟨rb, 0, none⟩)] #[]] w fun e w' =>
      Rp rb w (fun xs v w' => w'.ownsRow w.heap.size 54 4 v xs.length (cellsOf glC xs)) (Ob.listR most Ob.glR l) e w' := by
  have hrl := lt_of_cell h.c
  have HC := Lib.hid (many_any h most (by omega))
  have HR : Hid (Ob.listR most Ob.glR l = (Ob.manyR most l).bind fun x => Ob.repR Ob.glR x.1 x.2) := rfl
  have HB : Hid (∀ n r, Ob.manyR most l = some (n, r) → n ≤ most) := fun n r he => many_le he
  generalize Ob.listR most Ob.glR l = resT at *
  generalize Ob.manyR most l = res at *
  go_enter Tryz.func90, Tryz.ntmps90
  go_wp2_with fail
  refine HC.out.mono ?_
  intro e w1 hq
  rcases res with _ | ⟨n, r⟩
  · obtain ⟨rfl, hx⟩ := hq
    unfold thrown
    go_wp2_with fail
    rw [HR.out]
    exact ⟨rfl, rfl, hx⟩
  · obtain ⟨v, rfl, rfl, hst, hx⟩ := hq
    have hnm := HB.out n r rfl
    have HR1 : Hid (resT = Ob.repR Ob.glR n r) := HR
    have HST := Lib.hid hst
    have HX := Lib.hid hx
    clear HB HR HC hst hx h
    go_wp2_with fail
    go_loopg [7, 11] n (fun k v vi wr => ∃ (i : Nat) (xs : List Ob.Gl) (r' : Bs), i ≤ n ∧ k = n - i ∧ xs.length = i ∧ vi = .int .i64 (i : Int) ∧ Hid (wr.ownsRow w.heap.size 54 4 v i (cellsOf glC xs)) ∧ Hid (Rst wr rb r') ∧ Hid (Ext rb w wr) ∧ Hid (app xs (Ob.repR Ob.glR (n - i) r') = resT))
    case atStart => exact ⟨0, [], r, by omega, by omega, rfl, rfl, World.ownsRow_nil _ _ _ _, HST, HX, by rw [HR1.out, app_nil]; exact rfl⟩
    case round =>
      obtain ⟨i, xs, r', hid, hk, hxl, rfl, HO, HS, HE, HA⟩ := hrel
      clear HST HX HR1
      obtain ⟨ao, cap, rfl⟩ := owns_shape HO.out
      by_cases hlt : i < n
      · have hlt' : (i : Int) < (n : Int) := by omega
        have HC := Lib.hid (global_any HS.out)
        have HA1 : Hid (app xs (Ob.repR Ob.glR ((n - (i + 1)) + 1) r') = resT) := by rw [show n - (i + 1) + 1 = n - i by omega]; exact HA
        obtain ⟨res, hres⟩ : ∃ res, Ob.glR r' = res := ⟨_, rfl⟩
        rw [hres] at HC
        have HRES := Lib.hid hres
        clear hres HS HA
        go_wp2_with fail
        refine HC.out.mono ?_
        intro e w2 hq
        rcases res with _ | ⟨x, r2⟩
        · obtain ⟨rfl, hx⟩ := hq
          unfold thrown
          go_wp2_with fail
          rw [← HA1.out, app_bad HRES.out]
          exact ⟨rfl, rfl, HE.out.trans hx⟩
        · obtain ⟨v, rfl, hv, hst2, hx2⟩ := hq
          have HV : Hid (v = .agg #[.string (bs x.name), .int .i64 x.at', .int .i64 x.len, .bool x.seen]) := hv
          clear hv
          rw [HV.out]
          have hown2 := owns_ext HO.out hx2 hrl
          have HE2 := Lib.hid (HE.out.trans hx2)
          have HST2 := Lib.hid hst2
          have HA2 : Hid (app (xs ++ [x]) (Ob.repR Ob.glR (n - (i + 1)) r2) = resT) := by rw [← HA1.out]; exact (app_next HRES.out).symm
          clear HC HA1 HRES HV HO HE hst2 hx2
          go_wp2_with (at_builtin; refine wpList_elem (size := 4) rfl _ _ 40 rfl Tryz.underlying40 Tryz.infoGlobal rfl (by decide) (by decide) rfl hown2 (glC x) rfl ?c1 rfl (by omega) HE2.out.size ?_)
          case c1 => intro u hu; simp [glC] at hu; rcases hu with rfl | rfl | rfl | rfl <;> rfl
          intro v' w3 hown3 hex3 hb3
          have HO3 : Hid (w3.ownsRow w.heap.size 54 4 v' (i + 1) (cellsOf glC (xs ++ [x]))) := by rw [cellsOf_snoc]; exact hown3
          have HE3 := Lib.hid (HE2.out.trans' hb3)
          have HS3 : Hid (Rst w3 rb r2) := HST2.out.belowB hb3 hrl
          clear hown3 hex3 hb3 hown2 HE2 HST2
          go_wp2_with fail
          go_roundg (n - (i + 1))
          case measure => omega
          case rel => exact ⟨i + 1, xs ++ [x], r2, by omega, rfl, by simp; omega, by go_num, HO3, HS3, HE3, HA2⟩
      · have hlt' : ¬ (i : Int) < (n : Int) := by omega
        have hei : i = n := by omega
        have HA1 : Hid (resT = some (xs, r')) := by
          show _ = _
          rw [← HA.out, hei, Nat.sub_self]
          simp [Ob.repR, app]
        clear HA hei
        subst hxl
        go_wp2_with fail
        go_ret
        rw [HA1.out]
        exact ⟨_, rfl, HO.out, HS.out, HE.out⟩
set_option maxRecDepth 100000 in
set_option maxHeartbeats 1000000 in
theorem listInst_any {w : World} {rb : Nat} {l : Bs} (h : Rst w rb l) (most : Nat) (hm : most ≤ 10000) :
    Calls Tryz.prog 94 #[.pointer (some ⟨rb, 0, none⟩), .int .i64 (most : Int), .func (.func 95) #[.pointer (some ⟨rb, 0, none⟩)] #[]] w fun e w' =>
      Rp rb w (fun xs v w' => w'.ownsRow w.heap.size 49 3 v xs.length (cellsOf inC xs)) (Ob.listR most Ob.inR l) e w' := by
  have hrl := lt_of_cell h.c
  have HC := Lib.hid (many_any h most (by omega))
  have HR : Hid (Ob.listR most Ob.inR l = (Ob.manyR most l).bind fun x => Ob.repR Ob.inR x.1 x.2) := rfl
  have HB : Hid (∀ n r, Ob.manyR most l = some (n, r) → n ≤ most) := fun n r he => many_le he
  generalize Ob.listR most Ob.inR l = resT at *
  generalize Ob.manyR most l = res at *
  go_enter Tryz.func94, Tryz.ntmps94
  go_wp2_with fail
  refine HC.out.mono ?_
  intro e w1 hq
  rcases res with _ | ⟨n, r⟩
  · obtain ⟨rfl, hx⟩ := hq
    unfold thrown
    go_wp2_with fail
    rw [HR.out]
    exact ⟨rfl, rfl, hx⟩
  · obtain ⟨v, rfl, rfl, hst, hx⟩ := hq
    have hnm := HB.out n r rfl
    have HR1 : Hid (resT = Ob.repR Ob.inR n r) := HR
    have HST := Lib.hid hst
    have HX := Lib.hid hx
    clear HB HR HC hst hx h
    go_wp2_with fail
    go_loopg [7, 11] n (fun k v vi wr => ∃ (i : Nat) (xs : List Ob.In) (r' : Bs), i ≤ n ∧ k = n - i ∧ xs.length = i ∧ vi = .int .i64 (i : Int) ∧ Hid (wr.ownsRow w.heap.size 49 3 v i (cellsOf inC xs)) ∧ Hid (Rst wr rb r') ∧ Hid (Ext rb w wr) ∧ Hid (app xs (Ob.repR Ob.inR (n - i) r') = resT))
    case atStart => exact ⟨0, [], r, by omega, by omega, rfl, rfl, World.ownsRow_nil _ _ _ _, HST, HX, by rw [HR1.out, app_nil]; exact rfl⟩
    case round =>
      obtain ⟨i, xs, r', hid, hk, hxl, rfl, HO, HS, HE, HA⟩ := hrel
      clear HST HX HR1
      obtain ⟨ao, cap, rfl⟩ := owns_shape HO.out
      by_cases hlt : i < n
      · have hlt' : (i : Int) < (n : Int) := by omega
        have HC := Lib.hid (inst_any HS.out)
        have HA1 : Hid (app xs (Ob.repR Ob.inR ((n - (i + 1)) + 1) r') = resT) := by rw [show n - (i + 1) + 1 = n - i by omega]; exact HA
        obtain ⟨res, hres⟩ : ∃ res, Ob.inR r' = res := ⟨_, rfl⟩
        rw [hres] at HC
        have HRES := Lib.hid hres
        clear hres HS HA
        go_wp2_with fail
        refine HC.out.mono ?_
        intro e w2 hq
        rcases res with _ | ⟨x, r2⟩
        · obtain ⟨rfl, hx⟩ := hq
          unfold thrown
          go_wp2_with fail
          rw [← HA1.out, app_bad HRES.out]
          exact ⟨rfl, rfl, HE.out.trans hx⟩
        · obtain ⟨v, rfl, hv, hst2, hx2⟩ := hq
          have HV : Hid (v = .agg #[.int .i64 x.op, .int .i64 x.a, .int .i64 x.b]) := hv
          clear hv
          rw [HV.out]
          have hown2 := owns_ext HO.out hx2 hrl
          have HE2 := Lib.hid (HE.out.trans hx2)
          have HST2 := Lib.hid hst2
          have HA2 : Hid (app (xs ++ [x]) (Ob.repR Ob.inR (n - (i + 1)) r2) = resT) := by rw [← HA1.out]; exact (app_next HRES.out).symm
          clear HC HA1 HRES HV HO HE hst2 hx2
          go_wp2_with (at_builtin; refine wpList_elem (size := 3) rfl _ _ 43 rfl Tryz.underlying43 Tryz.infoInst rfl (by decide) (by decide) rfl hown2 (inC x) rfl ?c1 rfl (by omega) HE2.out.size ?_)
          case c1 => intro u hu; simp [inC] at hu; rcases hu with rfl | rfl | rfl <;> rfl
          intro v' w3 hown3 hex3 hb3
          have HO3 : Hid (w3.ownsRow w.heap.size 49 3 v' (i + 1) (cellsOf inC (xs ++ [x]))) := by rw [cellsOf_snoc]; exact hown3
          have HE3 := Lib.hid (HE2.out.trans' hb3)
          have HS3 : Hid (Rst w3 rb r2) := HST2.out.belowB hb3 hrl
          clear hown3 hex3 hb3 hown2 HE2 HST2
          go_wp2_with fail
          go_roundg (n - (i + 1))
          case measure => omega
          case rel => exact ⟨i + 1, xs ++ [x], r2, by omega, rfl, by simp; omega, by go_num, HO3, HS3, HE3, HA2⟩
      · have hlt' : ¬ (i : Int) < (n : Int) := by omega
        have hei : i = n := by omega
        have HA1 : Hid (resT = some (xs, r')) := by
          show _ = _
          rw [← HA.out, hei, Nat.sub_self]
          simp [Ob.repR, app]
        clear HA hei
        subst hxl
        go_wp2_with fail
        go_ret
        rw [HA1.out]
        exact ⟨_, rfl, HO.out, HS.out, HE.out⟩
set_option maxRecDepth 100000 in
set_option maxHeartbeats 1000000 in
theorem listStr_any {w : World} {rb : Nat} {l : Bs} (h : Rst w rb l) (most : Nat) (hm : most ≤ 10000) :
    Calls Tryz.prog 92 #[.pointer (some ⟨rb, 0, none⟩), .int .i64 (most : Int), .func (.func 85) #[.pointer (some ⟨rb, 0, none⟩)] #[]] w fun e w' =>
      Rp rb w (fun xs v w' => w'.ownsRow w.heap.size 9 1 v xs.length (cellsOf stC xs)) (Ob.listR most Ob.txtR l) e w' := by
  have hrl := lt_of_cell h.c
  have HC := Lib.hid (many_any h most (by omega))
  have HR : Hid (Ob.listR most Ob.txtR l = (Ob.manyR most l).bind fun x => Ob.repR Ob.txtR x.1 x.2) := rfl
  have HB : Hid (∀ n r, Ob.manyR most l = some (n, r) → n ≤ most) := fun n r he => many_le he
  generalize Ob.listR most Ob.txtR l = resT at *
  generalize Ob.manyR most l = res at *
  go_enter Tryz.func92, Tryz.ntmps92
  go_wp2_with fail
  refine HC.out.mono ?_
  intro e w1 hq
  rcases res with _ | ⟨n, r⟩
  · obtain ⟨rfl, hx⟩ := hq
    unfold thrown
    go_wp2_with fail
    rw [HR.out]
    exact ⟨rfl, rfl, hx⟩
  · obtain ⟨v, rfl, rfl, hst, hx⟩ := hq
    have hnm := HB.out n r rfl
    have HR1 : Hid (resT = Ob.repR Ob.txtR n r) := HR
    have HST := Lib.hid hst
    have HX := Lib.hid hx
    clear HB HR HC hst hx h
    go_wp2_with fail
    go_loopg [7, 11] n (fun k v vi wr => ∃ (i : Nat) (xs : List Bs) (r' : Bs), i ≤ n ∧ k = n - i ∧ xs.length = i ∧ vi = .int .i64 (i : Int) ∧ Hid (wr.ownsRow w.heap.size 9 1 v i (cellsOf stC xs)) ∧ Hid (Rst wr rb r') ∧ Hid (Ext rb w wr) ∧ Hid (app xs (Ob.repR Ob.txtR (n - i) r') = resT))
    case atStart => exact ⟨0, [], r, by omega, by omega, rfl, rfl, World.ownsRow_nil _ _ _ _, HST, HX, by rw [HR1.out, app_nil]; exact rfl⟩
    case round =>
      obtain ⟨i, xs, r', hid, hk, hxl, rfl, HO, HS, HE, HA⟩ := hrel
      clear HST HX HR1
      obtain ⟨ao, cap, rfl⟩ := owns_shape HO.out
      by_cases hlt : i < n
      · have hlt' : (i : Int) < (n : Int) := by omega
        have HC := Lib.hid (text_any HS.out)
        have HA1 : Hid (app xs (Ob.repR Ob.txtR ((n - (i + 1)) + 1) r') = resT) := by rw [show n - (i + 1) + 1 = n - i by omega]; exact HA
        obtain ⟨res, hres⟩ : ∃ res, Ob.txtR r' = res := ⟨_, rfl⟩
        rw [hres] at HC
        have HRES := Lib.hid hres
        clear hres HS HA
        go_wp2_with fail
        refine HC.out.mono ?_
        intro e w2 hq
        rcases res with _ | ⟨x, r2⟩
        · obtain ⟨rfl, hx⟩ := hq
          unfold thrown
          go_wp2_with fail
          rw [← HA1.out, app_bad HRES.out]
          exact ⟨rfl, rfl, HE.out.trans hx⟩
        · obtain ⟨v, rfl, hv, hst2, hx2⟩ := hq
          have HV : Hid (v = .string (bs x)) := hv
          clear hv
          rw [HV.out]
          have hown2 := owns_ext HO.out hx2 hrl
          have HE2 := Lib.hid (HE.out.trans hx2)
          have HST2 := Lib.hid hst2
          have HA2 : Hid (app (xs ++ [x]) (Ob.repR Ob.txtR (n - (i + 1)) r2) = resT) := by rw [← HA1.out]; exact (app_next HRES.out).symm
          clear HC HA1 HRES HV HO HE hst2 hx2
          go_wp2_with (at_builtin; refine wpList_elem (size := 1) rfl _ _ 42 rfl Tryz.underlying42 Tryz.infoString rfl (by decide) (by decide) rfl hown2 (stC x) rfl ?c1 rfl (by omega) HE2.out.size ?_)
          case c1 => intro u hu; simp [stC] at hu; subst hu; rfl
          intro v' w3 hown3 hex3 hb3
          have HO3 : Hid (w3.ownsRow w.heap.size 9 1 v' (i + 1) (cellsOf stC (xs ++ [x]))) := by rw [cellsOf_snoc]; exact hown3
          have HE3 := Lib.hid (HE2.out.trans' hb3)
          have HS3 : Hid (Rst w3 rb r2) := HST2.out.belowB hb3 hrl
          clear hown3 hex3 hb3 hown2 HE2 HST2
          go_wp2_with fail
          go_roundg (n - (i + 1))
          case measure => omega
          case rel => exact ⟨i + 1, xs ++ [x], r2, by omega, rfl, by simp; omega, by go_num, HO3, HS3, HE3, HA2⟩
      · have hlt' : ¬ (i : Int) < (n : Int) := by omega
        have hei : i = n := by omega
        have HA1 : Hid (resT = some (xs, r')) := by
          show _ = _
          rw [← HA.out, hei, Nat.sub_self]
          simp [Ob.repR, app]
        clear HA hei
        subst hxl
        go_wp2_with fail
        go_ret
        rw [HA1.out]
        exact ⟨_, rfl, HO.out, HS.out, HE.out⟩
end Go.Proofs.YtijhpokclpdjpaaGreatDoor
/- Reading: what is used of others. -/
namespace Go.Proofs.YtijhpokclpdjpaaGreatDoor
open Go.RowKit
open Ob (Bs)

/- a row of cells, by the blocks that D tells -/
def Row (w : World) (D : Nat → Prop) (e size : Nat) (v : Value) (n : Nat) (cs : List Value) : Prop :=
  v = .slice none 0 0 ∧ n = 0 ∧ cs = [] ∨ ∃ g cap cur, v = .slice (some ⟨g, 0, none⟩) n cap ∧ D g ∧ w.heap[g]? = some (.cells cur e (0, 0)) ∧ n ≤ cap ∧ cap ≤ maxLen ∧ cur.size = cap * size ∧ cur.toList.take (n * size) = cs
theorem Row.mono {w w' : World} {D D' : Nat → Prop} (hw : ∀ b, D b → b < w.heap.size → w'.heap[b]? = w.heap[b]? ∧ D' b) {e size : Nat} {v : Value} {n : Nat} {cs : List Value} (h : Row w D e size v n cs) : Row w' D' e size v n cs := by
  rcases h with h | ⟨g, cap, cur, h1, h2, h3, h4⟩
  · exact Or.inl h
  · obtain ⟨e1, e2⟩ := hw g h2 (lt_blk h3)
    exact Or.inr ⟨g, cap, cur, h1, e2, e1.trans h3, h4⟩
theorem Row.of_owns {w : World} {base e size n : Nat} {v : Value} {cs : List Value} (h : w.ownsRow base e size v n cs) : Row w (fun b => base ≤ b ∧ v.ownBlock = some b) e size v n cs := by
  rcases h.2 with ⟨rfl, rfl⟩ | ⟨g, cap, cur, rfl, q1, q2, q3, q4, q5, q6⟩
  · exact Or.inl ⟨rfl, rfl, List.eq_nil_of_length_eq_zero (by simpa using h.1)⟩
  · exact Or.inr ⟨g, cap, cur, rfl, ⟨q1, rfl⟩, q2, q3, q4, q5, q6⟩
def RepU (w : World) (D : Nat → Prop) : List Ob.Us → List Value → Prop
  | [], cs => cs = []
  | u :: l, cs => ∃ (nv : Value) (cs' : List Value), cs = [.string (bs u.name), .string (bs u.need), nv] ++ cs' ∧ Row w D 9 1 nv u.names.length (cellsOf stC u.names) ∧ RepU w D l cs'
theorem RepU.mono {w w' : World} {D D' : Nat → Prop} (hw : ∀ b, D b → b < w.heap.size → w'.heap[b]? = w.heap[b]? ∧ D' b) : ∀ (l : List Ob.Us) (cs : List Value), RepU w D l cs → RepU w' D' l cs := by
  intro l
  induction l with
  | nil => intro cs h; exact h
  | cons c l ih =>
    intro cs h
    obtain ⟨nv, cs', h1, h2, h3⟩ := h
    exact ⟨nv, cs', h1, h2.mono hw, ih cs' h3⟩
theorem RepU.app {w : World} {D : Nat → Prop} : ∀ (l m : List Ob.Us) (cs us : List Value), RepU w D l cs → RepU w D m us → RepU w D (l ++ m) (cs ++ us) := by
  intro l
  induction l with
  | nil => intro m cs us h k; rw [show cs = [] from h]; exact k
  | cons c l ih =>
    intro m cs us h k
    obtain ⟨nv, cs', h1, h2, h3⟩ := h
    exact ⟨nv, cs' ++ us, by rw [h1, List.append_assoc], h2, ih m cs' us h3 k⟩
def VUs (B : Nat) (u : Ob.Us) (v : Value) (w : World) : Prop := ∃ (na : Option Addr) (nc : Nat), v = .agg #[.string (bs u.name), .string (bs u.need), .slice na u.names.length nc] ∧ w.ownsRow B 9 1 (.slice na u.names.length nc) u.names.length (cellsOf stC u.names)
theorem listStr_100 {w : World} {rb : Nat} {l : Bs} (h : Rst w rb l) :
    Calls Tryz.prog 92 #[.pointer (some ⟨rb, 0, none⟩), .int .i64 100, .func (.func 85) #[.pointer (some ⟨rb, 0, none⟩)] #[]] w fun e w' =>
      Rp rb w (fun xs v w' => w'.ownsRow w.heap.size 9 1 v xs.length (cellsOf stC xs)) (Ob.listR 100 Ob.txtR l) e w' := listStr_any h 100 (by omega)
set_option maxRecDepth 100000 in
set_option maxHeartbeats 400000 in
theorem use_any {w : World} {rb : Nat} {l : Bs} (h : Rst w rb l) :
    Calls Tryz.prog 89 #[.pointer (some ⟨rb, 0, none⟩)] w fun e w' => Rp rb w (VUs w.heap.size) (Ob.useR l) e w' := by
  have hrl := lt_of_cell h.c
  have hb0 : Below w.heap.size w (w.alloc (.cells #[.string ⟨#[]⟩, .string ⟨#[]⟩, .slice none 0 0] 56)) := (Below.refl _ _).alloc (Nat.le_refl _) _
  have hk0 : (w.alloc (.cells #[.string ⟨#[]⟩, .string ⟨#[]⟩, .slice none 0 0] 56)).heap[w.heap.size]? = some (.cells #[.string ⟨#[]⟩, .string ⟨#[]⟩, .slice none 0 0] 56 (0, 0)) := new_blk _ _
  have hR : Ob.useR l = (Ob.txtR l).bind fun x => (Ob.txtR x.2).bind fun y => (Ob.listR 100 Ob.txtR y.2).map fun z => (⟨x.1, y.1, z.1⟩, z.2) := rfl
  have HR := Lib.hid hR
  clear hR
  generalize Ob.useR l = resT at *
  have hmf : ∀ (fn : Fn) (first cap : Array Value) (w : World), (Instr.makeFunc fn first cap).run Tryz.prog w = .ok (.func fn first cap) w := fun _ _ _ _ => rfl
  go_enter Tryz.func89, Tryz.ntmps89
  go_wp2_with fail
  generalize w.alloc (.cells #[.string ⟨#[]⟩, .string ⟨#[]⟩, .slice none 0 0] 56) = w0 at *
  have HX0 : Hid (Ext rb w w0) := Ext.below hb0
  have HK0 := Lib.hid hk0
  have HC := Lib.hid (text_any (h.ext hb0))
  clear h hb0 hk0
  generalize Ob.txtR l = res at *
  refine HC.out.mono ?_
  intro e w1 hq
  rcases res with _ | ⟨x, r1⟩
  · obtain ⟨rfl, hx⟩ := hq
    unfold thrown
    go_wp2_with fail
    rw [HR.out]
    exact ⟨rfl, rfl, HX0.out.trans hx⟩
  · obtain ⟨v, rfl, rfl, hst, hx⟩ := hq
    have HX1 := Lib.hid (HX0.out.trans hx)
    have HK1 : Hid (w1.heap[w.heap.size]? = some (.cells #[.string ⟨#[]⟩, .string ⟨#[]⟩, .slice none 0 0] 56 (0, 0))) := (hx.block _ (lt_blk HK0.out) (by omega)).trans HK0.out
    have HC1 := Lib.hid (text_any hst)
    have HR1 : Hid (resT = (Ob.txtR r1).bind fun y => (Ob.listR 100 Ob.txtR y.2).map fun z => (⟨x, y.1, z.1⟩, z.2)) := HR
    clear hx hst HC HR HX0 HK0
    generalize Ob.txtR r1 = res at *
    go_wp2_with fail
    refine HC1.out.mono ?_
    intro e w2 hq
    rcases res with _ | ⟨y, r2⟩
    · obtain ⟨rfl, hx⟩ := hq
      unfold thrown
      go_wp2_with fail
      rw [HR1.out]
      exact ⟨rfl, rfl, HX1.out.trans hx⟩
    · obtain ⟨v, rfl, rfl, hst, hx⟩ := hq
      have HX2 := Lib.hid (HX1.out.trans hx)
      have HK2 : Hid (w2.heap[w.heap.size]? = some (.cells #[.string ⟨#[]⟩, .string ⟨#[]⟩, .slice none 0 0] 56 (0, 0))) := (hx.block _ (lt_blk HK1.out) (by omega)).trans HK1.out
      have HC2 := Lib.hid (listStr_100 hst)
      have HR2 : Hid (resT = (Ob.listR 100 Ob.txtR r2).map fun z => (⟨x, y, z.1⟩, z.2)) := HR1
      clear hx hst HC1 HR1 HX1 HK1
      generalize Ob.listR 100 Ob.txtR r2 = res at *
      go_wp2_with fail
      refine HC2.out.mono ?_
      intro e w3 hq
      rcases res with _ | ⟨z, r3⟩
      · obtain ⟨rfl, hx⟩ := hq
        unfold thrown
        go_wp2_with fail
        rw [HR2.out]
        exact ⟨rfl, rfl, HX2.out.trans hx⟩
      · obtain ⟨v, rfl, hv, hst, hx⟩ := hq
        obtain ⟨na, nc, rfl⟩ := owns_shape hv
        have HV := Lib.hid hv
        have hs02 := HX2.out.size
        have hs2s := lt_blk HK2.out
        clear hv
        have HX3 := Lib.hid (HX2.out.trans hx)
        have hk3 := (hx.block _ (lt_blk HK2.out) (by omega)).trans HK2.out
        have HST := Lib.hid hst
        have k0 : w3.cell? ⟨w.heap.size, 0, none⟩ = some (.string ⟨#[]⟩) := cell_blk hk3
        have k1 : w3.cell? ⟨w.heap.size, 1, none⟩ = some (.string ⟨#[]⟩) := cell_blk hk3
        have k2 : w3.cell? ⟨w.heap.size, 2, none⟩ = some (.slice none 0 0) := cell_blk hk3
        have kf : ∀ i, w3.frozen? ⟨w.heap.size, i, none⟩ = false := fun i => frozen_blk hk3
        have HK3 := Lib.hid hk3
        clear hx hst HC2 HX2 HK2 hk3
        go_wp2_with fail
        obtain ⟨hs1, hs2⟩ := set3_out (.string (bs x)) (.string (bs y)) (.slice na z.length nc) HK3.out
        have hown' : (((w3.setCell ⟨w.heap.size, 0, none⟩ (.string (bs x))).setCell ⟨w.heap.size, 1, none⟩ (.string (bs y))).setCell ⟨w.heap.size, 2, none⟩ (.slice na z.length nc)).ownsRow w.heap.size 9 1 (.slice na z.length nc) z.length (cellsOf stC z) := by
          rcases HV.out.2 with q | ⟨g, cap, cur, q0, q1, q2, q3⟩
          · exact ⟨HV.out.1, Or.inl q⟩
          · exact ⟨HV.out.1, Or.inr ⟨g, cap, cur, q0, by omega, (hs2.block g (lt_blk q2) (by omega)).trans q2, q3⟩⟩
        have hst' := HST.out.other hs2 (by omega)
        have hx' := HX3.out.new hs2 (Nat.le_refl _)
        generalize ((w3.setCell ⟨w.heap.size, 0, none⟩ (.string (bs x))).setCell ⟨w.heap.size, 1, none⟩ (.string (bs y))).setCell ⟨w.heap.size, 2, none⟩ (.slice na z.length nc) = wd at *
        have d0 : wd.cell? ⟨w.heap.size, 0, none⟩ = some (.string (bs x)) := cell_blk hs1
        have d1 : wd.cell? ⟨w.heap.size, 1, none⟩ = some (.string (bs y)) := cell_blk hs1
        have d2 : wd.cell? ⟨w.heap.size, 2, none⟩ = some (.slice na z.length nc) := cell_blk hs1
        refine bodyPost_ret (v := .agg #[.string (bs x), .string (bs y), .slice na z.length nc]) (by simp [results, Tryz.results89, go_sem, d0, d1, d2]) rfl ?_
        rw [HR2.out]
        exact ⟨_, rfl, ⟨na, nc, rfl, hown'⟩, hst', hx'⟩
end Go.Proofs.YtijhpokclpdjpaaGreatDoor
/- Reading: the list of what is used of others. -/
namespace Go.Proofs.YtijhpokclpdjpaaGreatDoor
open Go.RowKit
open Ob (Bs)

def VUL (B : Nat) (us : List Ob.Us) (v : Value) (w : World) : Prop := ∃ cs, RepU w (fun b => B ≤ b ∧ v.ownBlock ≠ some b) us cs ∧ w.ownsRow B 56 3 v us.length cs
theorem VUL.ext {B rb : Nat} {us : List Ob.Us} {v : Value} {w w' : World} (h : VUL B us v w) (k : Ext rb w w') (hb : rb < B) : VUL B us v w' := by
  obtain ⟨cs, h1, h2⟩ := h
  exact ⟨cs, RepU.mono (fun b hb hl => ⟨k.block b hl (by omega), hb⟩) _ _ h1, owns_ext h2 k hb⟩
theorem VUL.next {B C : Nat} {us : List Ob.Us} {v v' : Value} {w w' : World} {u : Ob.Us} {na : Option Addr} {nc : Nat} (hC : ∀ g, v.ownBlock = some g → g < C) (hBC : B ≤ C) (cs : List Value) (h : RepU w (fun b => B ≤ b ∧ v.ownBlock ≠ some b) us cs)
    (hn : w.ownsRow C 9 1 (.slice na u.names.length nc) u.names.length (cellsOf stC u.names)) (hx : Exact v v' w w') (ho : w'.ownsRow B 56 3 v' (us.length + 1) (cs ++ [.string (bs u.name), .string (bs u.need), .slice na u.names.length nc])) : VUL B (us ++ [u]) v' w' := by
  have hD : ∀ b, (B ≤ b ∧ v.ownBlock ≠ some b) → b < w.heap.size → w'.heap[b]? = w.heap[b]? ∧ (B ≤ b ∧ v'.ownBlock ≠ some b) := fun b hb hl => ⟨hx.block b hl hb.2, hb.1, fun e => (hx.lies b e).elim hb.2 (Nat.not_le.2 hl)⟩
  refine ⟨_, RepU.app _ [u] _ _ (RepU.mono hD _ _ h) ⟨_, [], rfl, ?_, rfl⟩, by simpa using ho⟩
  exact (Row.of_owns hn).mono (fun b hb hl => hD b ⟨by omega, fun e => by have := hC b e; omega⟩ hl)
set_option maxRecDepth 100000 in
set_option maxHeartbeats 1000000 in
theorem listUse_any {w : World} {rb : Nat} {l : Bs} (h : Rst w rb l) (most : Nat) (hm : most ≤ 10000) :
    Calls Tryz.prog 88 #[.pointer (some ⟨rb, 0, none⟩), .int .i64 (most : Int), .func (.func 89) #[.pointer (some ⟨rb, 0, none⟩)] #[]] w fun e w' =>
      Rp rb w (VUL w.heap.size) (Ob.listR most Ob.useR l) e w' := by
  have hrl := lt_of_cell h.c
  have HC := Lib.hid (many_any h most (by omega))
  have HR : Hid (Ob.listR most Ob.useR l = (Ob.manyR most l).bind fun x => Ob.repR Ob.useR x.1 x.2) := rfl
  have HB : Hid (∀ n r, Ob.manyR most l = some (n, r) → n ≤ most) := fun n r he => many_le he
  generalize Ob.listR most Ob.useR l = resT at *
  generalize Ob.manyR most l = res at *
  go_enter Tryz.func88, Tryz.ntmps88
  go_wp2_with fail
  refine HC.out.mono ?_
  intro e w1 hq
  rcases res with _ | ⟨n, r⟩
  · obtain ⟨rfl, hx⟩ := hq
    unfold thrown
    go_wp2_with fail
    rw [HR.out]
    exact ⟨rfl, rfl, hx⟩
  · obtain ⟨v, rfl, rfl, hst, hx⟩ := hq
    have hnm := HB.out n r rfl
    have HR1 : Hid (resT = Ob.repR Ob.useR n r) := HR
    have HST := Lib.hid hst
    have HX := Lib.hid hx
    clear HB HR HC hst hx h
    go_wp2_with fail
    go_loopg [7, 11] n (fun k v vi wr => ∃ (i : Nat) (xs : List Ob.Us) (r' : Bs), i ≤ n ∧ k = n - i ∧ xs.length = i ∧ vi = .int .i64 (i : Int) ∧ Hid (VUL w.heap.size xs v wr) ∧ Hid (Rst wr rb r') ∧ Hid (Ext rb w wr) ∧ Hid (app xs (Ob.repR Ob.useR (n - i) r') = resT))
    case atStart => exact ⟨0, [], r, by omega, by omega, rfl, rfl, ⟨[], rfl, World.ownsRow_nil _ _ _ _⟩, HST, HX, by rw [HR1.out, app_nil]; exact rfl⟩
    case round =>
      obtain ⟨i, xs, r', hid, hk, hxl, rfl, HO, HS, HE, HA⟩ := hrel
      clear HST HX HR1
      obtain ⟨cs, hrep, hown⟩ := HO.out
      obtain ⟨ao, cap, rfl⟩ := owns_shape hown
      by_cases hlt : i < n
      · have hlt' : (i : Int) < (n : Int) := by omega
        have HC := Lib.hid (use_any HS.out)
        have HA1 : Hid (app xs (Ob.repR Ob.useR ((n - (i + 1)) + 1) r') = resT) := by rw [show n - (i + 1) + 1 = n - i by omega]; exact HA
        obtain ⟨res, hres⟩ : ∃ res, Ob.useR r' = res := ⟨_, rfl⟩
        rw [hres] at HC
        have HRES := Lib.hid hres
        have HREP := Lib.hid hrep
        have HOWN := Lib.hid hown
        clear hres HS HA hrep hown HO
        go_wp2_with fail
        refine HC.out.mono ?_
        intro e w2 hq
        rcases res with _ | ⟨x, r2⟩
        · obtain ⟨rfl, hx⟩ := hq
          unfold thrown
          go_wp2_with fail
          rw [← HA1.out, app_bad HRES.out]
          exact ⟨rfl, rfl, HE.out.trans hx⟩
        · obtain ⟨v, rfl, hv, hst2, hx2⟩ := hq
          obtain ⟨na, nc, hv, hnown⟩ := hv
          have HV := Lib.hid hv
          clear hv
          rw [HV.out]
          have hown2 := owns_ext HOWN.out hx2 hrl
          rw [hxl] at hown2
          have HREP2 := Lib.hid (RepU.mono (D' := fun b => w.heap.size ≤ b ∧ (Value.slice ao xs.length cap).ownBlock ≠ some b) (fun b hb hl => ⟨hx2.block b hl (by omega), hb⟩) _ _ HREP.out)
          have HLT := Lib.hid (owns_lt HOWN.out)
          have HNO := Lib.hid hnown
          have HSZ := Lib.hid HE.out.size
          have HE2 := Lib.hid (HE.out.trans hx2)
          have HST2 := Lib.hid hst2
          have HA2 : Hid (app (xs ++ [x]) (Ob.repR Ob.useR (n - (i + 1)) r2) = resT) := by rw [← HA1.out]; exact (app_next HRES.out).symm
          clear HC HA1 HRES HV HE hst2 hx2 HREP HOWN hnown
          subst hxl
          go_wp2_with (at_builtin; refine wpList_elem (size := 3) rfl _ _ 39 rfl Tryz.underlying39 Tryz.infoUse rfl (by decide) (by decide) rfl hown2 [.string (bs x.name), .string (bs x.need), .slice na x.names.length nc] rfl ?c1 rfl (by omega) HE2.out.size ?_)
          case c1 => intro u hu; simp at hu; rcases hu with rfl | rfl | rfl <;> rfl
          intro v' w3 hown3 hex3 hb3
          have HO3 : Hid (VUL w.heap.size (xs ++ [x]) v' w3) := VUL.next HLT.out HSZ.out cs HREP2.out HNO.out hex3 hown3
          have HE3 := Lib.hid (HE2.out.trans' hb3)
          have HS3 : Hid (Rst w3 rb r2) := HST2.out.belowB hb3 hrl
          clear hown3 hex3 hb3 hown2 HE2 HST2 HREP2 HNO HLT
          go_wp2_with fail
          go_roundg (n - (xs.length + 1))
          case measure => omega
          case rel => exact ⟨xs.length + 1, xs ++ [x], r2, by omega, rfl, by simp, by go_num, HO3, HS3, HE3, HA2⟩
      · have hlt' : ¬ (i : Int) < (n : Int) := by omega
        have hei : i = n := by omega
        have HA1 : Hid (resT = some (xs, r')) := by
          show _ = _
          rw [← HA.out, hei, Nat.sub_self]
          simp [Ob.repR, app]
        clear HA hei hrep hown
        subst hxl
        go_wp2_with fail
        go_ret
        rw [HA1.out]
        exact ⟨_, rfl, HO.out, HS.out, HE.out⟩
end Go.Proofs.YtijhpokclpdjpaaGreatDoor
/- Reading an object: what is there of it so far. -/
namespace Go.Proofs.YtijhpokclpdjpaaGreatDoor
open Go.RowKit
open Ob (Bs)

abbrev nl : Value := .slice none 0 0
structure Parts (w : World) (D : Nat → Prop) (ss : List Ob.Sm) (us : List Ob.Us) (vs : List Ob.Gl) (ns : List Bs) (sv uv vv nv : Value) : Prop where
  s : Row w D 52 3 sv ss.length (cellsOf smC ss)
  u : ∃ ucs, RepU w D us ucs ∧ Row w D 56 3 uv us.length ucs
  v : Row w D 54 4 vv vs.length (cellsOf glC vs)
  n : Row w D 9 1 nv ns.length (cellsOf stC ns)
theorem Parts.mono {w w' : World} {D D' : Nat → Prop} {ss : List Ob.Sm} {us : List Ob.Us} {vs : List Ob.Gl} {ns : List Bs} {sv uv vv nv : Value} (h : Parts w D ss us vs ns sv uv vv nv) (hw : ∀ b, D b → b < w.heap.size → w'.heap[b]? = w.heap[b]? ∧ D' b) : Parts w' D' ss us vs ns sv uv vv nv :=
  ⟨h.s.mono hw, let ⟨ucs, h1, h2⟩ := h.u; ⟨ucs, RepU.mono hw _ _ h1, h2.mono hw⟩, h.v.mono hw, h.n.mono hw⟩
structure OS (w0 w : World) (rb ob C : Nat) (r : Bs) (nm : Bs) (ss : List Ob.Sm) (us : List Ob.Us) (vs : List Ob.Gl) (ns : List Bs) (ps : List Ob.En) (sv uv vv pv nv : Value) : Prop where
  blk : w.heap[ob]? = some (.cells #[.string (bs nm), sv, uv, vv, pv, nv, nl] 45 (0, 0))
  pt : Parts w (fun b => w0.heap.size ≤ b ∧ b ≠ ob ∧ b < C) ss us vs ns sv uv vv nv
  po : w.ownsRow C 47 3 pv ps.length (cellsOf enC ps)
  rst : Rst w rb r
  ext : Ext rb w0 w
  rbl : rb < w0.heap.size
  obl : w0.heap.size ≤ ob
  obC : ob < C
  CC : C ≤ w.heap.size
theorem OS.start {w0 w1 : World} {rb : Nat} {r nm : Bs} (hr : rb < w0.heap.size) (h : Rst w1 rb r) (hx : Ext rb w0 w1) :
    OS w0 (w1.alloc (.cells #[.string (bs nm), nl, nl, nl, nl, nl, nl] 45)) rb w1.heap.size (w1.heap.size + 1) r nm [] [] [] [] [] nl nl nl nl nl :=
  have hb : Below w1.heap.size w1 (w1.alloc (.cells #[.string (bs nm), nl, nl, nl, nl, nl, nl] 45)) := (Below.refl _ _).alloc (Nat.le_refl _) _
  ⟨new_blk _ _, ⟨Or.inl ⟨rfl, rfl, rfl⟩, ⟨[], rfl, Or.inl ⟨rfl, rfl, rfl⟩⟩, Or.inl ⟨rfl, rfl, rfl⟩, Or.inl ⟨rfl, rfl, rfl⟩⟩, World.ownsRow_nil _ _ _ _, h.ext hb, hx.trans (Ext.below hb), hr, hx.size, by omega, by simp⟩
theorem OS.base {w0 w w' : World} {rb ob C i : Nat} {r r' nm : Bs} {ss : List Ob.Sm} {us : List Ob.Us} {vs : List Ob.Gl} {ns : List Bs} {sv uv vv nv x : Value}
    (h : OS w0 w rb ob C r nm ss us vs ns [] sv uv vv nl nv) (hx : Ext rb w w') (hr : Rst w' rb r') :
    Parts (w'.setCell ⟨ob, i, none⟩ x) (fun b => w0.heap.size ≤ b ∧ b ≠ ob ∧ b < w'.heap.size) ss us vs ns sv uv vv nv ∧ w'.heap[ob]? = some (.cells #[.string (bs nm), sv, uv, vv, nl, nv, nl] 45 (0, 0)) ∧ Rst (w'.setCell ⟨ob, i, none⟩ x) rb r' ∧ Ext rb w0 (w'.setCell ⟨ob, i, none⟩ x) ∧ ob < w'.heap.size := by
  have hob := lt_blk h.blk
  have hne : ob ≠ rb := by have := h.rbl; have := h.obl; omega
  have hss := hx.size
  refine ⟨h.pt.mono (fun b hb hl => ⟨?_, hb.1, hb.2.1, by omega⟩), (hx.block ob hob hne).trans h.blk, hr.other ((Ext.refl ob w').set i x) (Ne.symm hne), (h.ext.trans hx).new ((Ext.refl ob w').set i x) h.obl, by omega⟩
  rw [Below.heap_setCell _ _ _ _ (by simpa using hb.2.1)]
  exact hx.block b hl (by have := h.rbl; omega)
theorem row_new {w0 w w' : World} {ob i e k n : Nat} {x y : Value} {cs : List Value} (h : w'.ownsRow w.heap.size e k y n cs) (hob : ob < w.heap.size) (h0 : w0.heap.size ≤ w.heap.size) : Row (w'.setCell ⟨ob, i, none⟩ x) (fun b => w0.heap.size ≤ b ∧ b ≠ ob ∧ b < w'.heap.size) e k y n cs :=
  (Row.of_owns h).mono (fun b hb hl => ⟨Below.heap_setCell _ _ _ _ (by simp; omega), by omega, by omega, hl⟩)
theorem OS.setS {w0 w w' : World} {rb ob C : Nat} {r r' nm : Bs} {ss : List Ob.Sm} {sv : Value} (h : OS w0 w rb ob C r nm [] [] [] [] [] nl nl nl nl nl) (hx : Ext rb w w') (hr : Rst w' rb r') (ho : w'.ownsRow w.heap.size 52 3 sv ss.length (cellsOf smC ss)) :
    OS w0 (w'.setCell ⟨ob, 1, none⟩ sv) rb ob w'.heap.size r' nm ss [] [] [] [] sv nl nl nl nl := by
  obtain ⟨h1, h2, h3, h4, h5⟩ := h.base (i := 1) (x := sv) hx hr
  exact ⟨set_blk 1 sv h2, ⟨row_new ho (lt_blk h.blk) h.ext.size, h1.u, h1.v, h1.n⟩, World.ownsRow_nil _ _ _ _, h3, h4, h.rbl, h.obl, h5, by simp⟩
theorem OS.setU {w0 w w' : World} {rb ob C : Nat} {r r' nm : Bs} {ss : List Ob.Sm} {us : List Ob.Us} {sv uv : Value} (h : OS w0 w rb ob C r nm ss [] [] [] [] sv nl nl nl nl) (hx : Ext rb w w') (hr : Rst w' rb r') (ho : VUL w.heap.size us uv w') :
    OS w0 (w'.setCell ⟨ob, 2, none⟩ uv) rb ob w'.heap.size r' nm ss us [] [] [] sv uv nl nl nl := by
  obtain ⟨h1, h2, h3, h4, h5⟩ := h.base (i := 2) (x := uv) hx hr
  obtain ⟨ucs, q1, q2⟩ := ho
  have hob := lt_blk h.blk
  have h0 := h.ext.size
  exact ⟨set_blk 2 uv h2, ⟨h1.s, ⟨ucs, RepU.mono (fun b hb hl => ⟨Below.heap_setCell _ _ _ _ (by simp; omega), by omega, by omega, hl⟩) _ _ q1, row_new q2 hob h0⟩, h1.v, h1.n⟩, World.ownsRow_nil _ _ _ _, h3, h4, h.rbl, h.obl, h5, by simp⟩
theorem OS.setV {w0 w w' : World} {rb ob C : Nat} {r r' nm : Bs} {ss : List Ob.Sm} {us : List Ob.Us} {vs : List Ob.Gl} {sv uv vv : Value} (h : OS w0 w rb ob C r nm ss us [] [] [] sv uv nl nl nl) (hx : Ext rb w w') (hr : Rst w' rb r') (ho : w'.ownsRow w.heap.size 54 4 vv vs.length (cellsOf glC vs)) :
    OS w0 (w'.setCell ⟨ob, 3, none⟩ vv) rb ob w'.heap.size r' nm ss us vs [] [] sv uv vv nl nl := by
  obtain ⟨h1, h2, h3, h4, h5⟩ := h.base (i := 3) (x := vv) hx hr
  exact ⟨set_blk 3 vv h2, ⟨h1.s, h1.u, row_new ho (lt_blk h.blk) h.ext.size, h1.n⟩, World.ownsRow_nil _ _ _ _, h3, h4, h.rbl, h.obl, h5, by simp⟩
theorem OS.setN {w0 w w' : World} {rb ob C : Nat} {r r' nm : Bs} {ss : List Ob.Sm} {us : List Ob.Us} {vs : List Ob.Gl} {ns : List Bs} {sv uv vv nv : Value} (h : OS w0 w rb ob C r nm ss us vs [] [] sv uv vv nl nl) (hx : Ext rb w w') (hr : Rst w' rb r') (ho : w'.ownsRow w.heap.size 9 1 nv ns.length (cellsOf stC ns)) :
    OS w0 (w'.setCell ⟨ob, 5, none⟩ nv) rb ob w'.heap.size r' nm ss us vs ns [] sv uv vv nl nv := by
  obtain ⟨h1, h2, h3, h4, h5⟩ := h.base (i := 5) (x := nv) hx hr
  exact ⟨set_blk 5 nv h2, ⟨h1.s, h1.u, h1.v, row_new ho (lt_blk h.blk) h.ext.size⟩, World.ownsRow_nil _ _ _ _, h3, h4, h.rbl, h.obl, h5, by simp⟩
/- a procedure more: read at w', laid at w2, stored -/
theorem OS.read {w0 w w' : World} {rb ob C : Nat} {r r' nm : Bs} {ss : List Ob.Sm} {us : List Ob.Us} {vs : List Ob.Gl} {ns : List Bs} {ps : List Ob.En} {sv uv vv pv nv : Value} (h : OS w0 w rb ob C r nm ss us vs ns ps sv uv vv pv nv) (hx : Ext rb w w') (hr : Rst w' rb r') : OS w0 w' rb ob C r' nm ss us vs ns ps sv uv vv pv nv := by
  have hne : ob ≠ rb := by have := h.rbl; have := h.obl; omega
  have hC := h.obC
  exact ⟨(hx.block ob (lt_blk h.blk) hne).trans h.blk, h.pt.mono (fun b hb hl => ⟨hx.block b hl (by have := h.rbl; omega), hb⟩), owns_ext h.po hx (by have := h.rbl; have := h.obl; omega), hr, h.ext.trans hx, h.rbl, h.obl, hC, Nat.le_trans h.CC hx.size⟩
theorem OS.snoc {w0 w w' : World} {rb ob C : Nat} {r nm : Bs} {ss : List Ob.Sm} {us : List Ob.Us} {vs : List Ob.Gl} {ns : List Bs} {ps : List Ob.En} {sv uv vv pv pv' nv : Value} {x : Ob.En} (h : OS w0 w rb ob C r nm ss us vs ns ps sv uv vv pv nv) (hb : Below C w w') (ho : w'.ownsRow C 47 3 pv' (ps.length + 1) (cellsOf enC ps ++ enC x)) :
    OS w0 (w'.setCell ⟨ob, 4, none⟩ pv') rb ob C r nm ss us vs ns (ps ++ [x]) sv uv vv pv' nv := by
  have hne : ob ≠ rb := by have := h.rbl; have := h.obl; omega
  have hC := h.obC
  have h0 := h.obl
  have hr := h.rbl
  have hB : Below w0.heap.size w w' := hb.mono (by omega)
  refine ⟨set_blk 4 pv' ((hb.block ob hC).trans h.blk), h.pt.mono (fun b hb' hl => ⟨(Below.heap_setCell _ _ _ _ (by simpa using hb'.2.1)).trans (hb.block b hb'.2.2), hb'⟩), ?_, (h.rst.belowB hb (by omega)).other ((Ext.refl ob w').set 4 pv') (Ne.symm hne), (h.ext.trans' hB).new ((Ext.refl ob w').set 4 pv') h0, hr, h0, hC, by simpa using Nat.le_trans h.CC hb.size⟩
  rw [cellsOf_snoc, List.length_append]
  exact owns_keep ho (fun b h1 _ _ => Below.heap_setCell _ _ _ _ (by simp; omega))
end Go.Proofs.YtijhpokclpdjpaaGreatDoor
