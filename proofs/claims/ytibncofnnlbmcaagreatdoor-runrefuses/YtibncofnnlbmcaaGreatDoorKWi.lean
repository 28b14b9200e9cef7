import Derived.Test.YtibncofnnlbmcaaGreatDoorKWh
import Derived.Deep.RegionLawGrows
/- level: a level of EXPRs. -/
namespace Go.Proofs.YtibncofnnlbmcaaGreatDoor
open Go.RowKit
open Tp (Tok hd tx at' stp X)

theorem ex_lv_bad {f n o : Nat} {r : List Tok} {er : Tp.Er} (hn : n < 5) (h : Tp.ex f (n + 1) o 0 [] r = .error er) : Tp.ex (f + 1) n o 0 [] r = .error er := by
  rw [Tp.ex, if_pos hn, h]; rfl
theorem ex_lv_ok {f n o : Nat} {r r1 : List Tok} {x : List X} (hn : n < 5) (h : Tp.ex f (n + 1) o 0 [] r = .ok (x, r1)) : Tp.ex (f + 1) n o 0 [] r = Tp.ex f (10 + n) o (at' r) x r1 := by
  rw [Tp.ex, if_pos hn, h]; rfl
theorem ex_lp_end {k n o a : Nat} {acc : List X} {r : List Tok} (h : Tp.lvl (tx r) ≠ n) : Tp.ex (k + 1) (10 + n) o a acc r = .ok (acc, r) := by
  rw [Tp.ex, if_neg (by omega), if_neg (by omega), if_neg (by omega), if_neg (by omega), if_neg (by omega)]
theorem ex_lp_bad {k n o a : Nat} {acc : List X} {r : List Tok} {er : Tp.Er} (h : Tp.lvl (tx r) = n) (h2 : Tp.ex k (n + 1) o 0 [] (stp r) = .error er) : Tp.ex (k + 1) (10 + n) o a acc r = .error er := by
  rw [Tp.ex, if_neg (by omega), if_neg (by omega), if_neg (by omega), if_neg (by omega), if_pos (by omega), show 10 + n - 10 + 1 = n + 1 by omega, h2]; rfl
theorem ex_lp_ok {k n o a : Nat} {acc y : List X} {r r1 : List Tok} (h : Tp.lvl (tx r) = n) (h2 : Tp.ex k (n + 1) o 0 [] (stp r) = .ok (y, r1)) : Tp.ex (k + 1) (10 + n) o a acc r = Tp.ex k (10 + n) o a [⟨5, a, 0, [], [], tx r, acc, y, []⟩] r1 := by
  rw [Tp.ex, if_neg (by omega), if_neg (by omega), if_neg (by omega), if_neg (by omega), if_pos (by omega), show 10 + n - 10 + 1 = n + 1 by omega, h2]; rfl

set_option maxRecDepth 100000 in
set_option maxHeartbeats 1000000 in
theorem level_one {p : Ps} {ts : List Tok} {f : Nat} (hO : OneC p ts f) {w : World} {r : List Tok} {o b : Nat} (h : St w p ts r o b) (ho : o ≤ 11) (hn : Tp.ex f 5 o 0 [] r ≠ .error (99, 0)) :
    Calls Tryz.prog 189 #[.pointer (some ⟨p.pb, 0, none⟩), .int .i64 5] w fun e w' => Post p ts o b w (VX w.heap.size) (Tp.ex f 5 o 0 [] r) e w' := by
  have hcall := hO w r o b h ho hn
  generalize hres : Tp.ex f 5 o 0 [] r = res at hcall
  have HC : Hid (Calls Tryz.prog 207 #[.pointer (some ⟨p.pb, 0, none⟩)] w fun e w' => Post p ts o b w (VX w.heap.size) res e w') := hcall
  clear hcall hres hn hO
  go_enter Tryz.func189, Tryz.ntmps189
  go_wp2_with fail
  refine HC.out.mono ?_
  intro e w5 hq
  rcases res with er | ⟨x, r1⟩
  · obtain ⟨ht, hx5⟩ := hq
    obtain ⟨ab, h1, rfl, h2, h3⟩ := ht.out
    go_wp2_with fail
    exact ⟨rfl, ht, hx5⟩
  · obtain ⟨v, rfl, hv, hst5, hx5⟩ := hq
    go_wp2_with fail
    go_ret
    exact ⟨_, rfl, hv, hst5, hx5⟩

set_option maxRecDepth 100000 in
set_option maxHeartbeats 2000000 in
theorem level_some {p : Ps} {ts : List Tok} {f : Nat} (hL : LevelC p ts f) {w : World} {r : List Tok} {o b n : Nat} (h : St w p ts r o b) (ho : o ≤ 11) (hn5 : n < 5) (hn : Tp.ex (f + 1) n o 0 [] r ≠ .error (99, 0)) :
    Calls Tryz.prog 189 #[.pointer (some ⟨p.pb, 0, none⟩), .int .i64 (n : Int)] w fun e w' => Post p ts o b w (VX w.heap.size) (Tp.ex (f + 1) n o 0 [] r) e w' := by
  have hpl := lt_of_cell h.c0
  have hni : (n : Int) < 5 := by omega
  have hne : ((n : Int) == 5) = false := by simp; omega
  have HN5 : Hid (n < 5) := hn5
  have HL : Hid (∀ g, g ≤ f → ∀ W q, St W p ts q o b → Tp.ex g (n + 1) o 0 [] q ≠ .error (99, 0) → Calls Tryz.prog 189 #[.pointer (some ⟨p.pb, 0, none⟩), .int .i64 ((n : Int) + 1)] W fun e w' => Post p ts o b W (VX W.heap.size) (Tp.ex g (n + 1) o 0 [] q) e w') :=
    fun g hg W q hW hq => (hL.mono hg) W q o b (n + 1) hW ho (by omega) hq
  have HN : Hid (Tp.ex (f + 1) n o 0 [] r ≠ .error (99, 0)) := hn
  clear hL hn hn5
  go_enter Tryz.func189, Tryz.ntmps189
  go_wp2_with fail
  refine (now_any h).mono ?_
  rintro e w1 ⟨rfl, hb1⟩
  have hst1 := h.below hb1
  have hsz1 := hb1.size
  go_wp2_with fail
  have hno : Tp.ex f (n + 1) o 0 [] r ≠ .error (99, 0) := fun e => HN.out (ex_lv_bad HN5.out e)
  refine (HL.out f (Nat.le_refl _) _ r hst1 hno).mono ?_
  intro e w2 hq
  generalize hres : Tp.ex f (n + 1) o 0 [] r = res at hq
  have HRX : Hid (Tp.ex f (n + 1) o 0 [] r = res) := hres
  clear hres hno
  rcases res with er | ⟨x, r1⟩
  · obtain ⟨ht, hx2⟩ := hq
    obtain ⟨ab, h1, rfl, h2, h3⟩ := ht.out
    go_wp2_with fail
    refine ⟨rfl, ?_⟩
    rw [ex_lv_bad HN5.out HRX.out]
    exact thrown_up (Ext.below hb1) ht hx2
  · obtain ⟨v, rfl, hv, hst2, hx2⟩ := hq
    obtain ⟨bb, rfl⟩ := hv.ptr
    have hx2' : Ext p.pb w w2 := (Ext.below hb1).trans hx2
    have hv2 : VX w.heap.size x (.pointer (some ⟨bb, 0, none⟩)) w2 := hv.base hsz1
    have HS0 : Hid (Tp.ex f (10 + n) o (at' r) x r1 = Tp.ex (f + 1) n o 0 [] r) := (ex_lv_ok HN5.out HRX.out).symm
    go_wp2_with fail
    clear hst1 hb1 hx2 hv
    go_loopg [6] f (fun k v wr => ∃ (acc : List X) (r' : List Tok) (ab : Nat), k ≤ f ∧ v = .pointer (some ⟨ab, 0, none⟩) ∧ VX w.heap.size acc v wr ∧ St wr p ts r' o b ∧ Ext p.pb w wr ∧ Hid (Tp.ex k (10 + n) o (at' r) acc r' = Tp.ex (f + 1) n o 0 [] r))
    case atStart => exact ⟨x, r1, bb, Nat.le_refl _, rfl, hv2, hst2, hx2', HS0⟩
    case round =>
      obtain ⟨acc, r', ab, hk, rfl, hvx, hst, hext, HS⟩ := hrel
      clear hst2 hx2' hv2
      obtain ⟨g, rfl⟩ : ∃ g, gk = g + 1 := by
        cases gk with
        | zero => exact absurd HS.out.symm HN.out
        | succ g => exact ⟨g, rfl⟩
      go_wp2_with fail
      refine (now_any hst).mono ?_
      rintro e w3 ⟨rfl, hb3⟩
      have hst3 := hst.below hb3
      have hext3 := hext.trans (Ext.below hb3)
      have hv3 := VX.ext (Ext.below (b := p.pb) hb3) hpl hvx
      clear hst hext hvx
      go_wp2_with fail
      refine (levelOf_raw w3 (hd r').text hst3.lv).mono ?_
      rintro e w4 ⟨rfl, hb4⟩
      have hst4 := hst3.below hb4
      have hext4 := hext3.trans (Ext.below hb4)
      have hv4 := VX.ext (Ext.below (b := p.pb) hb4) hpl hv3
      clear hst3 hext3 hv3
      by_cases hl : Tp.lvl (tx r') = n
      · have hle : ((Tp.lvl (hd r').text : Int) == (n : Int)) = true := by have := (show Tp.lvl (hd r').text = n from hl); simp; omega
        have HLV : Hid (Tp.lvl (tx r') = n) := hl
        clear hl
        go_wp2_with fail
        refine (now_any hst4).mono ?_
        rintro e w5 ⟨rfl, hb5⟩
        have hst5 := hst4.below hb5
        have hext5 := hext4.trans (Ext.below hb5)
        have hv5 := VX.ext (Ext.below (b := p.pb) hb5) hpl hv4
        clear hst4 hext4 hv4
        go_wp2_with fail
        refine (step_any hst5).mono ?_
        rintro e w6 ⟨rfl, hst6, hx6⟩
        have hext6 := hext5.trans hx6
        have hv6 := VX.ext hx6 hpl hv5
        clear hst5 hext5 hv5
        have hno : Tp.ex g (n + 1) o 0 [] (stp r') ≠ .error (99, 0) := by
          intro e; apply HN.out; rw [← HS.out]; exact ex_lp_bad HLV.out e
        have hcall := HL.out g (by omega) w6 (stp r') hst6 hno
        generalize hres : Tp.ex g (n + 1) o 0 [] (stp r') = res at hcall
        have HR : Hid (Tp.ex g (n + 1) o 0 [] (stp r') = res) := hres
        have HCL : Hid (Calls Tryz.prog 189 #[.pointer (some ⟨p.pb, 0, none⟩), .int .i64 ((n : Int) + 1)] w6 fun e w' => Post p ts o b w6 (VX w6.heap.size) res e w') := hcall
        clear hno hres hcall
        go_wp2_with fail
        refine HCL.out.mono ?_
        intro e w7 hq
        rcases res with er | ⟨y, r2⟩
        · obtain ⟨ht, hx7⟩ := hq
          obtain ⟨ab, h1, rfl, h2, h3⟩ := ht.out
          go_wp2_with fail
          refine ⟨rfl, ?_⟩
          rw [← HS.out, ex_lp_bad HLV.out HR.out]
          exact thrown_up hext6 ht hx7
        · obtain ⟨u, rfl, hu, hst7, hx7⟩ := hq
          obtain ⟨ub, rfl⟩ := hu.ptr
          have hsz6 := hext6.size
          have hext7 := hext6.trans hx7
          have hsz7 := hext7.size
          have hv7 := VX.ext hx7 hpl hv6
          clear hst6 hext6 hv6
          go_wp2_with fail
          go_roundg g
          case rel =>
            have hal : Below w7.heap.size w7 (w7.alloc (.cells (xcells 5 (hd r).pos 0 ⟨#[]⟩ ⟨#[]⟩ (bs (hd r').text) (.pointer (some ⟨ab, 0, none⟩)) (.pointer (some ⟨ub, 0, none⟩)) (.slice none 0 0)) 216)) := (Below.refl _ _).alloc (Nat.le_refl _) _
            refine ⟨[⟨5, at' r, 0, [], [], tx r', acc, y, []⟩], r2, w7.heap.size, by omega, rfl, ?_, hst7.below hal, hext7.trans (Ext.below hal), ?_⟩
            · exact VX.node hsz7 (new_blk w7 _) (Or.inr (VX.ext (b := p.pb) (Ext.below hal) hpl hv7)) (Or.inr ((VX.ext (b := p.pb) (Ext.below hal) (by omega) hu).base hsz6)) (Or.inl ⟨rfl, rfl⟩)
            · show _ = _
              rw [← HS.out]
              exact (ex_lp_ok HLV.out HR.out).symm
          all_goals omega
      · have hle : ((Tp.lvl (hd r').text : Int) == (n : Int)) = false := by have := (show ¬ Tp.lvl (hd r').text = n from hl); simp; omega
        have HLV : Hid (¬ Tp.lvl (tx r') = n) := hl
        clear hl
        go_wp2_with fail
        go_ret
        rw [← HS.out, ex_lp_end HLV.out]
        exact ⟨_, rfl, hv4, hst4, hext4⟩
theorem level_post {p : Ps} {ts : List Tok} {f : Nat} (hL : LevelC p ts f) (hO : OneC p ts (f + 1)) : LevelC p ts (f + 1) := by
  intro w r o b n h ho hn hx
  by_cases h5 : n = 5
  · subst h5
    exact level_one hO h ho hx
  · exact level_some hL h ho (by omega) hx
/- all together, by fuel -/
theorem zero_all (p : Ps) (ts : List Tok) : LevelC p ts 0 ∧ OneC p ts 0 ∧ NamedC p ts 0 :=
  ⟨fun _ _ _ _ _ _ _ _ h => absurd rfl h, fun _ _ _ _ _ _ h => absurd rfl h, fun _ _ _ _ _ _ h => absurd rfl h⟩
theorem expr_all (p : Ps) (ts : List Tok) : ∀ f, f ≤ 100000 → LevelC p ts f ∧ OneC p ts f ∧ NamedC p ts f := by
  intro f
  induction f with
  | zero => intro _; exact zero_all p ts
  | succ f ih =>
    intro hf
    obtain ⟨hL, hO, hM⟩ := ih (by omega)
    have hA := args_post (by omega) hL
    have hO' := one_post hL hO hM
    exact ⟨level_post hL hO', hO', fun w r o b h ho hn => named_post hL hA h ho hn⟩
theorem stmt_all (p : Ps) (ts : List Tok) : ∀ f, f ≤ 100000 → StmtsC p ts f ∧ StmtC p ts f ∧ BranchC p ts f := by
  intro f
  induction f with
  | zero => intro _; exact ⟨fun _ _ _ _ _ h => absurd rfl h, fun _ _ _ _ _ h => absurd rfl h, fun _ _ _ _ _ h => absurd rfl h⟩
  | succ f ih =>
    intro hf
    obtain ⟨hS, hT, hB⟩ := ih (by omega)
    obtain ⟨hL, hO, hM⟩ := expr_all p ts f (by omega)
    exact ⟨stmts_post (by omega) hT, stmt_post hL hM hS hB, branch_post hL hS hB⟩
end Go.Proofs.YtibncofnnlbmcaaGreatDoor
/- A MODULE in memory. -/
namespace Go.Proofs.YtibncofnnlbmcaaGreatDoor
open Go.RowKit
open Tp (Tok hd tx at' stp X S G Pr)

/- append within a region that draws: where the new slice lies -/
theorem step_append_where {P : Program} {ops : Array Oper} {o : Oper} {a : Act} {w : World} {K : Act → World → Prop} {Q : Exit → Act → World → Prop} {E : Prop}
    (hg : o.guard = none) (s x : Operand) (t : TypeId) (hop : o.op = Op.call { callee := Callee.builtin Builtin.append, args := #[s, x], argTypes := #[t, t] })
    (base : Nat) (e : TypeId) (i : TypeInfo) (z : Value) (size bytes : Nat) (ht : P.underlying t = some (.slice e)) (hi : P.info? e = some i) (hz : i.zero = some z)
    (hsize : i.size = size) (hby : i.bytes = bytes) (hzs : z.cells.size = size) (hsz : 0 < size)
    (v : Value) (n : Nat) (xs : List Value) (hs : a.eval s = v) (hown : w.ownsRow base e size v n xs)
    (ad : Addr) (m c : Nat) (news : List Value) (hx : a.eval x = .slice (some ad) m c) (hl : news.length = m * size) (hnews : ∀ j u, news[j]? = some u → w.cell? (ad.add j) = some u) (h1 : ∀ u ∈ news, u.oneCell' = true)
    (h63 : n + m ≤ maxLen) (hbytes : (n + m) * bytes ≤ 140737488355328) (hbase : base ≤ w.heap.size)
    (hK : ∀ v' w', w'.ownsRow base e size v' (n + m) (xs ++ news) → w.grownBy w' v.ownBlock → (∀ g, v'.ownBlock = some g → v.ownBlock = some g ∨ w.heap.size ≤ g) → K (a.put o.dst v') w') :
    if Region.wanted o (yielded ops a.tmps) = true then Oper.wp P o a w K Q else E := by
  have hw : Region.wanted o (yielded ops a.tmps) = true := by simp [Region.wanted, hg]
  rw [if_pos hw]
  obtain ⟨v', w', r1, r2, r3, r4⟩ := run_append_where (P := P) w base t o.type e i z size bytes ht hi hz hsize hby hzs hsz v n xs hown ad m c news hl hnews h1 h63 hbytes hbase
  unfold Oper.wp
  simp [execOp, hop, resolve, invoke, builtin, hs, hx, r1, Result.andThen]
  exact hK v' w' r2 r3 r4

/- a row of cells, by the blocks that D tells -/
def Row (w : World) (D : Nat → Prop) (e size : Nat) (v : Value) (n : Nat) (cs : List Value) : Prop :=
  v = .slice none 0 0 ∧ n = 0 ∧ cs = [] ∨ ∃ g cap cur, v = .slice (some ⟨g, 0, none⟩) n cap ∧ D g ∧ w.heap[g]? = some (.cells cur e (0, 0)) ∧ n ≤ cap ∧ cap ≤ maxLen ∧ cur.size = cap * size ∧ cur.toList.take (n * size) = cs
theorem Row.mono {w w' : World} {D D' : Nat → Prop} (hw : ∀ b, D b → b < w.heap.size → w'.heap[b]? = w.heap[b]? ∧ D' b) {e size : Nat} {v : Value} {n : Nat} {cs : List Value} (h : Row w D e size v n cs) : Row w' D' e size v n cs := by
  rcases h with h | ⟨g, cap, cur, h1, h2, h3, h4⟩
  · exact Or.inl h
  · obtain ⟨e1, e2⟩ := hw g h2 (lt_blk h3)
    exact Or.inr ⟨g, cap, cur, h1, e2, e1.trans h3, h4⟩
theorem Row.of_owns {w : World} {base e size n : Nat} {v : Value} {cs : List Value} (h : w.ownsRow base e size v n cs) : Row w (fun b => base ≤ b ∧ v.ownBlock = some b) e size v n cs := by
  rcases h.2 with ⟨rfl, rfl⟩ | ⟨g, cap, cur, rfl, q1, q2, q3, q4, q5, q6⟩
  · exact Or.inl ⟨rfl, rfl, List.eq_nil_of_length_eq_zero (by simpa using h.1)⟩
  · exact Or.inr ⟨g, cap, cur, rfl, ⟨q1, rfl⟩, q2, q3, q4, q5, q6⟩
def RepP (w : World) (D : Nat → Prop) : List Pr → List Value → Prop
  | [], cs => cs = []
  | c :: l, cs => ∃ (pv vv bv : Value) (bcs cs' : List Value),
      cs = (pcells (bs c.name) (c.pos : Int) c.seen pv vv bv).toList ++ cs' ∧ Row w D 9 1 pv c.params.length (strs c.params) ∧ Row w D 9 1 vv c.vars.length (strs c.vars) ∧
      RepS w D c.body bcs ∧ OwnS w D bv c.body.length bcs ∧ RepP w D l cs'
theorem RepP.mono {w w' : World} {D D' : Nat → Prop} (hw : ∀ b, D b → b < w.heap.size → w'.heap[b]? = w.heap[b]? ∧ D' b) : ∀ (l : List Pr) (cs : List Value), RepP w D l cs → RepP w' D' l cs := by
  intro l
  induction l with
  | nil => intro cs h; exact h
  | cons c l ih =>
    intro cs h
    obtain ⟨pv, vv, bv, bcs, cs', h1, h2, h3, h4, h5, h6⟩ := h
    exact ⟨pv, vv, bv, bcs, cs', h1, h2.mono hw, h3.mono hw, h4.mono' hw, h5.mono hw, ih cs' h6⟩
theorem RepP.app {w : World} {D : Nat → Prop} : ∀ (l m : List Pr) (cs us : List Value), RepP w D l cs → RepP w D m us → RepP w D (l ++ m) (cs ++ us) := by
  intro l
  induction l with
  | nil => intro m cs us h k; rw [show cs = [] from h]; exact k
  | cons c l ih =>
    intro m cs us h k
    obtain ⟨pv, vv, bv, bcs, cs', h1, h2, h3, h4, h5, h6⟩ := h
    exact ⟨pv, vv, bv, bcs, cs' ++ us, by rw [h1, List.append_assoc], h2, h3, h4, h5, ih m cs' us h6 k⟩
def gcs (l : List G) : List Value := (l.map fun g => (gcells (bs g.name) (g.pos : Int) (g.len : Int) g.seen).toList).flatten
theorem gcs_app (l m : List G) : gcs (l ++ m) = gcs l ++ gcs m := by simp [gcs]
def mcells (name : ByteArray) (iv gv pv bv : Value) : Array Value := #[.string name, iv, gv, pv, bv]
/- a module that is being read, in its own block rb -/
structure MS (w : World) (rb : Nat) (nm : List UInt8) (is : List (List UInt8)) (gs : List G) (ps : List Pr) (iv gv pv : Value) (pcs : List Value) : Prop where
  blk : w.heap[rb]? = some (.cells (mcells (bs nm) iv gv pv (.slice none 0 0)) 36 (0, 0))
  im : Row w (fun b => rb < b ∧ gv.ownBlock ≠ some b ∧ pv.ownBlock ≠ some b) 9 1 iv is.length (strs is)
  gl : w.ownsRow (rb + 1) 61 4 gv gs.length (gcs gs)
  pl : w.ownsRow (rb + 1) 65 6 pv ps.length pcs
  ne : ∀ g, gv.ownBlock = some g → pv.ownBlock ≠ some g
  rp : RepP w (fun b => rb < b ∧ gv.ownBlock ≠ some b ∧ pv.ownBlock ≠ some b) ps pcs
theorem owns_keep {w w' : World} {base e size n : Nat} {v : Value} {xs : List Value} (h : w.ownsRow base e size v n xs) (hk : ∀ b, base ≤ b → b < w.heap.size → v.ownBlock = some b → w'.heap[b]? = w.heap[b]?) : w'.ownsRow base e size v n xs := by
  refine ⟨h.1, ?_⟩
  rcases h.2 with q | ⟨g, cap, cur, rfl, q1, q2, q3⟩
  · exact Or.inl q
  · exact Or.inr ⟨g, cap, cur, rfl, q1, (hk g q1 (lt_blk q2) rfl).trans q2, q3⟩
theorem MS.mono {w w' : World} {rb : Nat} {nm : List UInt8} {is : List (List UInt8)} {gs : List G} {ps : List Pr} {iv gv pv : Value} {pcs : List Value} (h : MS w rb nm is gs ps iv gv pv pcs) (hk : ∀ b, rb ≤ b → b < w.heap.size → w'.heap[b]? = w.heap[b]?) : MS w' rb nm is gs ps iv gv pv pcs :=
  ⟨(hk rb (Nat.le_refl _) (lt_blk h.blk)).trans h.blk, h.im.mono (fun b hb hl => ⟨hk b (by omega) hl, hb⟩), owns_keep h.gl (fun b h1 h2 _ => hk b (by omega) h2), owns_keep h.pl (fun b h1 h2 _ => hk b (by omega) h2), h.ne, RepP.mono (fun b hb hl => ⟨hk b (by omega) hl, hb⟩) _ _ h.rp⟩
theorem MS.ext {w w' : World} {rb pb : Nat} {nm : List UInt8} {is : List (List UInt8)} {gs : List G} {ps : List Pr} {iv gv pv : Value} {pcs : List Value} (h : MS w rb nm is gs ps iv gv pv pcs) (k : Ext pb w w') (hp : pb < rb) : MS w' rb nm is gs ps iv gv pv pcs :=
  h.mono (fun b h1 h2 => k.block b h2 (by omega))
theorem MS.below {w w' : World} {rb : Nat} {nm : List UInt8} {is : List (List UInt8)} {gs : List G} {ps : List Pr} {iv gv pv : Value} {pcs : List Value} (h : MS w rb nm is gs ps iv gv pv pcs) (k : Below w.heap.size w w') : MS w' rb nm is gs ps iv gv pv pcs :=
  h.mono (fun b _ h2 => k.block b h2)
/- behind an append to the variables, and its store -/
theorem MS.addG {w w5 : World} {rb : Nat} {nm : List UInt8} {is : List (List UInt8)} {gs : List G} {iv gv gv' : Value} {g : G} (h : MS w rb nm is gs [] iv gv (.slice none 0 0) [])
    (hown : w5.ownsRow (rb + 1) 61 4 gv' (gs.length + 1) (gcs gs ++ (gcells (bs g.name) (g.pos : Int) (g.len : Int) g.seen).toList)) (hgrow : w.grownBy w5 gv.ownBlock) (hw : ∀ b, gv'.ownBlock = some b → gv.ownBlock = some b ∨ w.heap.size ≤ b) :
    MS (w5.setCell ⟨rb, 2, none⟩ gv') rb nm is (gs ++ [g]) [] iv gv' (.slice none 0 0) [] := by
  have hrl := lt_blk h.blk
  have hr : gv.ownBlock ≠ some rb := fun e => by have := owns_row h.gl rb e; omega
  have hb5 : w5.heap[rb]? = w.heap[rb]? := hgrow.block rb hrl (fun e => hr e.symm)
  have hset := set_blk 2 gv' (hb5.trans h.blk)
  have hx : ∀ b, b ≠ rb → (w5.setCell ⟨rb, 2, none⟩ gv').heap[b]? = w5.heap[b]? := fun b hb => Below.heap_setCell _ _ _ _ (by simpa using hb)
  refine ⟨hset, ?_, ?_, World.ownsRow_nil _ _ _ _, fun b hb e => (by cases e), rfl⟩
  · refine h.im.mono (fun b hb hl => ⟨(hx b (by omega)).trans (hgrow.block b hl (fun e => hb.2.1 e.symm)), hb.1, fun e => ?_, hb.2.2⟩)
    rcases hw b e with q | q
    · exact hb.2.1 q
    · omega
  · rw [gcs_app, List.length_append]
    have : gcs [g] = (gcells (bs g.name) (g.pos : Int) (g.len : Int) g.seen).toList := by simp [gcs]
    rw [this]
    exact owns_keep hown (fun b h1 _ _ => hx b (by omega))
theorem MS.addP {w w5 : World} {rb : Nat} {nm : List UInt8} {is : List (List UInt8)} {gs : List G} {ps : List Pr} {iv gv pv pv' : Value} {pcs : List Value} {c : Pr} {us : List Value} (h : MS w rb nm is gs ps iv gv pv pcs)
    (hc : RepP w (fun b => rb < b ∧ gv.ownBlock ≠ some b ∧ pv.ownBlock ≠ some b) [c] us)
    (hown : w5.ownsRow (rb + 1) 65 6 pv' (ps.length + 1) (pcs ++ us)) (hgrow : w.grownBy w5 pv.ownBlock) (hw : ∀ b, pv'.ownBlock = some b → pv.ownBlock = some b ∨ w.heap.size ≤ b) :
    MS (w5.setCell ⟨rb, 3, none⟩ pv') rb nm is gs (ps ++ [c]) iv gv pv' (pcs ++ us) := by
  have hrl := lt_blk h.blk
  have hr : pv.ownBlock ≠ some rb := fun e => by have := owns_row h.pl rb e; omega
  have hb5 : w5.heap[rb]? = w.heap[rb]? := hgrow.block rb hrl (fun e => hr e.symm)
  have hset := set_blk 3 pv' (hb5.trans h.blk)
  have hx : ∀ b, b ≠ rb → (w5.setCell ⟨rb, 3, none⟩ pv').heap[b]? = w5.heap[b]? := fun b hb => Below.heap_setCell _ _ _ _ (by simpa using hb)
  have hD : ∀ b, (rb < b ∧ gv.ownBlock ≠ some b ∧ pv.ownBlock ≠ some b) → b < w.heap.size → (w5.setCell ⟨rb, 3, none⟩ pv').heap[b]? = w.heap[b]? ∧ (rb < b ∧ gv.ownBlock ≠ some b ∧ pv'.ownBlock ≠ some b) := fun b hb hl =>
    ⟨(hx b (by omega)).trans (hgrow.block b hl (fun e => hb.2.2 e.symm)), hb.1, hb.2.1, fun e => by
      rcases hw b e with q | q
      · exact hb.2.2 q
      · omega⟩
  refine ⟨hset, h.im.mono hD, ?_, ?_, fun b hb e => ?_, RepP.app _ _ _ _ (RepP.mono hD _ _ h.rp) (RepP.mono hD _ _ hc)⟩
  · exact owns_keep h.gl (fun b h1 h2 h3 => (hx b (by omega)).trans (hgrow.block b h2 (fun e => h.ne b h3 e.symm)))
  · rw [List.length_append]
    exact owns_keep hown (fun b h1 _ _ => hx b (by omega))
  · rcases hw b e with q | q
    · exact h.ne b hb q
    · have := (h.gl.lt b hb).2; omega
/- a module as a value -/
def VM (B : Nat) (m : Tp.M) (v : Value) (w : World) : Prop := ∃ (ia ga pa ba : Option Addr) (ic gc pc bc : Nat) (pcs bcs : List Value),
  v = .agg (mcells (bs m.name) (.slice ia m.imports.length ic) (.slice ga m.vars.length gc) (.slice pa m.procs.length pc) (.slice ba m.body.length bc)) ∧
  Row w (fun b => B ≤ b) 9 1 (.slice ia m.imports.length ic) m.imports.length (strs m.imports) ∧ Row w (fun b => B ≤ b) 61 4 (.slice ga m.vars.length gc) m.vars.length (gcs m.vars) ∧
  RepP w (fun b => B ≤ b) m.procs pcs ∧ Row w (fun b => B ≤ b) 65 6 (.slice pa m.procs.length pc) m.procs.length pcs ∧ RepS w (fun b => B ≤ b) m.body bcs ∧ OwnS w (fun b => B ≤ b) (.slice ba m.body.length bc) m.body.length bcs
theorem Row.shape {w : World} {D : Nat → Prop} {e size : Nat} {v : Value} {n : Nat} {cs : List Value} (h : Row w D e size v n cs) : ∃ a c, v = .slice a n c := by
  rcases h with ⟨rfl, rfl, _⟩ | ⟨g, cap, cur, rfl, _⟩
  · exact ⟨none, 0, rfl⟩
  · exact ⟨_, _, rfl⟩
theorem OwnS.shape {w : World} {D : Nat → Prop} {v : Value} {n : Nat} {cs : List Value} (h : OwnS w D v n cs) : ∃ a c, v = .slice a n c := by
  rcases h with ⟨rfl, rfl⟩ | ⟨g, cap, cur, rfl, _⟩
  · exact ⟨none, 0, rfl⟩
  · exact ⟨_, _, rfl⟩
end Go.Proofs.YtibncofnnlbmcaaGreatDoor
/- A MODULE is read. -/
namespace Go.Proofs.YtibncofnnlbmcaaGreatDoor
open Go.RowKit
open Tp (Tok hd tx at' stp X S G Pr)

def mB (f : Nat) (nm : List UInt8) (is : List (List UInt8)) (gs : List G) (ps : List Pr) (r6 : List Tok) : Except Tp.Er Tp.M := do
  let r7 ← Tp.want Tp.wBegin r6
  let (b, r8) ← Tp.sx f 0 0 r7
  let r9 ← Tp.want Tp.wEnd r8
  let r10 ← Tp.want Tp.mDot r9
  if (hd r10).kind = 0 then .ok ⟨nm, is, gs, ps, b⟩ else .error (3, at' r10)
def mP (f : Nat) (nm : List UInt8) (is : List (List UInt8)) (gs : List G) (k : Nat) (ps : List Pr) (r5 : List Tok) : Except Tp.Er Tp.M := do
  let (l, r6) ← Tp.procs k f ps.length r5
  mB f nm is gs (ps ++ l) r6
def mG (f : Nat) (nm : List UInt8) (is : List (List UInt8)) (k : Nat) (gs : List G) (r4 : List Tok) : Except Tp.Er Tp.M := do
  let (l, r5) ← Tp.globals k gs.length r4
  mP f nm is (gs ++ l) 12 [] r5
def mI (r3 : List Tok) : Except Tp.Er (List (List UInt8) × List Tok) := if tx r3 = Tp.wImport then do
      let (is, r4) ← Tp.names 7 0 6 (stp r3)
      let r5 ← Tp.want Tp.mSemi r4
      .ok (is, r5)
    else .ok ([], r3)
theorem module_eq (f : Nat) (r : List Tok) : Tp.module f r = (do
    let r1 ← Tp.want Tp.wModule r
    let (n, r2) ← Tp.name r1
    let r3 ← Tp.want Tp.mSemi r2
    let (is, r4) ← mI r3
    mG f n is 12 [] r4) := by
  unfold Tp.module mG mP mB mI
  simp only [List.nil_append, List.length_nil]
theorem mG_end {f k : Nat} {nm : List UInt8} {is : List (List UInt8)} {gs : List G} {r : List Tok} (h : tx r ≠ Tp.wVar) : mG f nm is (k + 1) gs r = mP f nm is gs 12 [] r := by
  unfold mG; rw [Tp.globals, if_neg h]; simp only [bind, Except.bind, List.append_nil]
theorem mG_full {f k : Nat} {nm : List UInt8} {is : List (List UInt8)} {gs : List G} {r : List Tok} (h : tx r = Tp.wVar) (hl : gs.length = 10) : mG f nm is (k + 1) gs r = .error (4, at' (stp r)) := by
  unfold mG; rw [Tp.globals, if_pos h, if_pos hl]; rfl
theorem mG_bad {f k : Nat} {nm : List UInt8} {is : List (List UInt8)} {gs : List G} {r : List Tok} {er : Tp.Er} (h : tx r = Tp.wVar) (hl : ¬ gs.length = 10) (hg : Tp.global (stp r) = .error er) : mG f nm is (k + 1) gs r = .error er := by
  unfold mG; rw [Tp.globals, if_pos h, if_neg hl, hg]; rfl
theorem mG_ok {f k : Nat} {nm : List UInt8} {is : List (List UInt8)} {gs : List G} {r r1 : List Tok} {g : G} (h : tx r = Tp.wVar) (hl : ¬ gs.length = 10) (hg : Tp.global (stp r) = .ok (g, r1)) : mG f nm is (k + 1) gs r = mG f nm is k (gs ++ [g]) r1 := by
  unfold mG; rw [Tp.globals, if_pos h, if_neg hl, hg]
  simp only [bind, Except.bind, List.length_append, List.length_singleton]
  cases Tp.globals k (gs.length + 1) r1 with
  | error e => rfl
  | ok v => simp only [List.append_assoc, List.singleton_append]
theorem mP_end {f k : Nat} {nm : List UInt8} {is : List (List UInt8)} {gs : List G} {ps : List Pr} {r : List Tok} (h : tx r ≠ Tp.wProc) : mP f nm is gs (k + 1) ps r = mB f nm is gs ps r := by
  unfold mP; rw [Tp.procs, if_neg h]; simp only [bind, Except.bind, List.append_nil]
theorem mP_full {f k : Nat} {nm : List UInt8} {is : List (List UInt8)} {gs : List G} {ps : List Pr} {r : List Tok} (h : tx r = Tp.wProc) (hl : ps.length = 10) : mP f nm is gs (k + 1) ps r = .error (4, at' r) := by
  unfold mP; rw [Tp.procs, if_pos h, if_pos hl]; rfl
theorem mP_bad {f k : Nat} {nm : List UInt8} {is : List (List UInt8)} {gs : List G} {ps : List Pr} {r : List Tok} {er : Tp.Er} (h : tx r = Tp.wProc) (hl : ¬ ps.length = 10) (hg : Tp.proc f r = .error er) : mP f nm is gs (k + 1) ps r = .error er := by
  unfold mP; rw [Tp.procs, if_pos h, if_neg hl, hg]; rfl
theorem mP_ok {f k : Nat} {nm : List UInt8} {is : List (List UInt8)} {gs : List G} {ps : List Pr} {r r1 : List Tok} {c : Pr} (h : tx r = Tp.wProc) (hl : ¬ ps.length = 10) (hg : Tp.proc f r = .ok (c, r1)) : mP f nm is gs (k + 1) ps r = mP f nm is gs k (ps ++ [c]) r1 := by
  unfold mP; rw [Tp.procs, if_pos h, if_neg hl, hg]
  simp only [bind, Except.bind, List.length_append, List.length_singleton]
  cases Tp.procs k f (ps.length + 1) r1 with
  | error e => rfl
  | ok v => simp only [List.append_assoc, List.singleton_append]
def PostM (p : Ps) (w : World) (res : Except Tp.Er Tp.M) (e : Ending) (w' : World) : Prop :=
  match res with
  | .ok m => ∃ v, e = .returned v ∧ VM w.heap.size m v w' ∧ Ext p.pb w w'
  | .error er => Thrown w.heap.size er e w' ∧ Ext p.pb w w'
theorem postM_er {p : Ps} {w w1 w' : World} {er : Tp.Er} {e : Ending} (hx : Ext p.pb w w1) (ht : Thrown w1.heap.size er e w') (hx2 : Ext p.pb w1 w') : PostM p w (.error er) e w' :=
  ⟨ht.mono hx.size, hx.trans hx2⟩
theorem Tryz.infoGlobal : (Tryz.prog.info? 61).map (fun i => (i.zero, i.size, i.bytes)) = some (some (.agg #[.string ⟨#[]⟩, .int .i64 0, .int .i64 0, .bool false]), 4, 40) := by kernel_rfl
theorem Tryz.infoProc : (Tryz.prog.info? 65).map (fun i => (i.zero, i.size, i.bytes)) = some (some (.agg #[.string ⟨#[]⟩, .int .i64 0, .bool false, .slice none 0 0, .slice none 0 0, .slice none 0 0]), 6, 104) := by kernel_rfl
theorem global_ok' {w : World} {p : Ps} {ts r r1 : List Tok} {o b : Nat} {g : G} (h : St w p ts r o b) (hr : Hid (Tp.global r = .ok (g, r1))) :
    Calls Tryz.prog 66 #[.pointer (some ⟨p.pb, 0, none⟩)] w fun e w' => e = .returned (.agg #[.string (bs g.name), .int .i64 (g.pos : Int), .int .i64 (g.len : Int), .bool g.seen]) ∧ St w' p ts r1 o b ∧ Ext p.pb w w' := by
  refine (global_post h).mono ?_
  intro e w' hq
  rw [hr.out] at hq
  obtain ⟨v, rfl, hv, h1, h2⟩ := hq
  exact ⟨by rw [show v = _ from hv]; rfl, h1, h2⟩
theorem global_er' {w : World} {p : Ps} {ts r : List Tok} {o b : Nat} {er : Tp.Er} (h : St w p ts r o b) (hr : Hid (Tp.global r = .error er)) :
    Calls Tryz.prog 66 #[.pointer (some ⟨p.pb, 0, none⟩)] w fun e w' => Thrown w.heap.size er e w' ∧ Ext p.pb w w' := by
  refine (global_post h).mono ?_
  intro e w' hq
  rw [hr.out] at hq
  exact hq
theorem news4 (w : World) (e : Nat) (v0 v1 v2 v3 : Value) : ∀ j u, [v0, v1, v2, v3][j]? = some u → (w.alloc (.cells #[v0, v1, v2, v3] e)).cell? ((⟨w.heap.size, 0, none⟩ : Addr).add j) = some u := by
  intro j u hj
  match j, hj with
  | 0, hj => simp at hj; subst hj; simp [Addr.add]
  | 1, hj => simp at hj; subst hj; simp [Addr.add]
  | 2, hj => simp at hj; subst hj; simp [Addr.add]
  | 3, hj => simp at hj; subst hj; simp [Addr.add]
theorem news6 (w : World) (e : Nat) (v0 v1 v2 v3 v4 v5 : Value) : ∀ j u, [v0, v1, v2, v3, v4, v5][j]? = some u → (w.alloc (.cells #[v0, v1, v2, v3, v4, v5] e)).cell? ((⟨w.heap.size, 0, none⟩ : Addr).add j) = some u := by
  intro j u hj
  match j, hj with
  | 0, hj => simp at hj; subst hj; simp [Addr.add]
  | 1, hj => simp at hj; subst hj; simp [Addr.add]
  | 2, hj => simp at hj; subst hj; simp [Addr.add]
  | 3, hj => simp at hj; subst hj; simp [Addr.add]
  | 4, hj => simp at hj; subst hj; simp [Addr.add]
  | 5, hj => simp at hj; subst hj; simp [Addr.add]
end Go.Proofs.YtibncofnnlbmcaaGreatDoor
/- Bytes: the closures, and past. -/
namespace Go.Proofs.YtibncofnnlbmcaaGreatDoor
open Go.RowKit
open Tp (Tok hd tx at' stp)

def TxAt (w : World) (tb : Nat) (l : List UInt8) : Prop := ∀ j c, l[j]? = some c → w.cell? ⟨tb, j, none⟩ = some (.int .u8 (c.toNat : Int))
def pastI (f : UInt8 → Bool) (l : List UInt8) (i : Nat) : Nat := i + ((l.drop i).takeWhile f).length
theorem pastI_yes {f : UInt8 → Bool} {l : List UInt8} {i : Nat} (h : i < l.length) (hf : f l[i] = true) : pastI f l (i + 1) = pastI f l i := by
  unfold pastI
  rw [List.drop_eq_getElem_cons h, List.takeWhile_cons, if_pos hf]
  simp; omega
theorem pastI_no {f : UInt8 → Bool} {l : List UInt8} {i : Nat} (h : i < l.length) (hf : f l[i] = false) : pastI f l i = i := by
  unfold pastI
  rw [List.drop_eq_getElem_cons h, List.takeWhile_cons, hf]
  simp
theorem pastI_end {f : UInt8 → Bool} {l : List UInt8} {i : Nat} (h : ¬ i < l.length) : pastI f l i = i := by
  unfold pastI
  rw [List.drop_eq_nil_of_le (by omega)]
  simp
theorem pastI_le {f : UInt8 → Bool} {l : List UInt8} {i : Nat} (h : i ≤ l.length) : i ≤ pastI f l i ∧ pastI f l i ≤ l.length := by
  unfold pastI
  have := (List.takeWhile_prefix f (l := l.drop i)).length_le
  simp at this
  omega
theorem blank_eq (c : UInt8) : Tp.blank c = (decide ((c.toNat : Int) = 32) || decide ((c.toNat : Int) = 10)) := by
  rw [Bool.eq_iff_iff]; simp [Tp.blank, ← UInt8.toNat_inj]; omega
theorem letter_eq (c : UInt8) : Tp.letter c = (decide ((97 : Int) ≤ (c.toNat : Int)) && decide ((c.toNat : Int) ≤ 122)) := by
  rw [Bool.eq_iff_iff]; simp [Tp.letter]; omega
theorem digit_eq (c : UInt8) : Tp.digit c = (decide ((48 : Int) ≤ (c.toNat : Int)) && decide ((c.toNat : Int) ≤ 57)) := by
  rw [Bool.eq_iff_iff]; simp [Tp.digit]; omega
set_option maxRecDepth 100000 in
set_option maxHeartbeats 400000 in
theorem blank_any (w : World) (c : UInt8) : Calls Tryz.prog 57 #[.int .u8 (c.toNat : Int)] w fun e w' => e = .returned (.bool (Tp.blank c)) ∧ w' = w := by
  rw [blank_eq]
  generalize (c.toNat : Int) = z
  by_cases h1 : z = 32
  · subst h1
    go_enter Tryz.func57, Tryz.ntmps57
    go_wp2_with fail
    go_ret
    exact ⟨rfl, rfl⟩
  · have h1' : (z == 32) = false := by simp [h1]
    have h1d : decide (z = 32) = false := by simp [h1]
    rw [h1d]
    clear h1
    by_cases h2 : z = 10
    · subst h2
      go_enter Tryz.func57, Tryz.ntmps57
      go_wp2_with fail
      go_ret
      exact ⟨rfl, rfl⟩
    · have h2' : (z == 10) = false := by simp [h2]
      have h2d : decide (z = 10) = false := by simp [h2]
      rw [h2d]
      clear h2 h2d h1d
      go_enter Tryz.func57, Tryz.ntmps57
      go_wp2_with fail
      go_ret
      exact ⟨rfl, rfl⟩
set_option maxRecDepth 100000 in
set_option maxHeartbeats 400000 in
theorem letter_any (w : World) (c : UInt8) : Calls Tryz.prog 99 #[.int .u8 (c.toNat : Int)] w fun e w' => e = .returned (.bool (Tp.letter c)) ∧ w' = w := by
  rw [letter_eq]
  generalize (c.toNat : Int) = z
  by_cases h1 : (97 : Int) ≤ z
  · rw [decide_eq_true h1]
    by_cases h2 : z ≤ 122
    · rw [decide_eq_true h2]
      go_enter Tryz.func99, Tryz.ntmps99
      go_wp2_with fail
      go_ret
      exact ⟨rfl, rfl⟩
    · have h2d := decide_eq_false h2
      rw [h2d]
      have h2' : (122 : Int) < z := by omega
      clear h2
      go_enter Tryz.func99, Tryz.ntmps99
      go_wp2_with fail
      go_ret
      exact ⟨rfl, rfl⟩
  · rw [decide_eq_false h1]
    have h1' : z < (97 : Int) := by omega
    clear h1
    go_enter Tryz.func99, Tryz.ntmps99
    go_wp2_with fail
    go_ret
    exact ⟨rfl, rfl⟩
set_option maxRecDepth 100000 in
set_option maxHeartbeats 400000 in
theorem digit_any (w : World) (c : UInt8) : Calls Tryz.prog 100 #[.int .u8 (c.toNat : Int)] w fun e w' => e = .returned (.bool (Tp.digit c)) ∧ w' = w := by
  rw [digit_eq]
  generalize (c.toNat : Int) = z
  by_cases h1 : (48 : Int) ≤ z
  · rw [decide_eq_true h1]
    by_cases h2 : z ≤ 57
    · rw [decide_eq_true h2]
      go_enter Tryz.func100, Tryz.ntmps100
      go_wp2_with fail
      go_ret
      exact ⟨rfl, rfl⟩
    · have h2d := decide_eq_false h2
      rw [h2d]
      have h2' : (57 : Int) < z := by omega
      clear h2
      go_enter Tryz.func100, Tryz.ntmps100
      go_wp2_with fail
      go_ret
      exact ⟨rfl, rfl⟩
  · rw [decide_eq_false h1]
    have h1' : z < (48 : Int) := by omega
    clear h1
    go_enter Tryz.func100, Tryz.ntmps100
    go_wp2_with fail
    go_ret
    exact ⟨rfl, rfl⟩
set_option maxRecDepth 100000 in
set_option maxHeartbeats 400000 in
theorem ld_any (w : World) (c : UInt8) (lb db : Nat) (hl : w.cell? ⟨lb, 0, none⟩ = some (.func (.func 99) #[] #[])) (hd : w.cell? ⟨db, 0, none⟩ = some (.func (.func 100) #[] #[])) :
    Calls Tryz.prog 101 #[.int .u8 (c.toNat : Int), .pointer (some ⟨lb, 0, none⟩), .pointer (some ⟨db, 0, none⟩)] w fun e w' => e = .returned (.bool (Tp.ld c)) ∧ w' = w := by
  unfold Tp.ld
  cases hlc : Tp.letter c
  · go_enter Tryz.func101, Tryz.ntmps101
    go_wp2_with fail
    refine (letter_any w c).mono ?_
    rintro e w1 ⟨rfl, rfl⟩
    go_wp2_with fail
    refine (digit_any w1 c).mono ?_
    rintro e w2 ⟨rfl, rfl⟩
    go_wp2_with fail
    go_ret
    exact ⟨rfl, rfl⟩
  · go_enter Tryz.func101, Tryz.ntmps101
    go_wp2_with fail
    refine (letter_any w c).mono ?_
    rintro e w1 ⟨rfl, rfl⟩
    go_wp2_with fail
    go_ret
    exact ⟨rfl, rfl⟩
set_option maxRecDepth 100000 in
set_option maxHeartbeats 1000000 in
theorem past_blank {w : World} {tb cap : Nat} {l : List UInt8} (ht : TxAt w tb l) (i : Nat) (hi : i ≤ l.length) (hl : l.length ≤ 100000) :
    Calls Tryz.prog 58 #[.slice (some ⟨tb, 0, none⟩) l.length cap, .int .i64 (i : Int), .func (.func 57) #[] #[]] w fun e w' => e = .returned (.int .i64 (pastI Tp.blank l i : Int)) ∧ w' = w := by
  have HT : Hid (TxAt w tb l) := ht
  clear ht
  go_enter Tryz.func58, Tryz.ntmps58
  go_wp2_with fail
  go_loop [1] (fun v => ∃ k : Nat, k ≤ l.length ∧ v = .int .i64 (k : Int) ∧ pastI Tp.blank l k = pastI Tp.blank l i) (fun v => l.length - (intOf v).toNat)
  case atStart => exact ⟨i, hi, rfl, rfl⟩
  case round =>
    obtain ⟨k, hk, rfl, hsp⟩ := hrel
    have HSP : Hid (pastI Tp.blank l k = pastI Tp.blank l i) := hsp
    clear hsp
    by_cases hlt : k < l.length
    · have hc := HT.out k l[k] (List.getElem?_eq_getElem hlt)
      have hlt' : (k : Int) < (l.length : Int) := by omega
      cases hb : Tp.blank l[k]
      · go_wp2_with fail
        refine (blank_any _ l[k]).mono ?_
        rintro e w1 ⟨rfl, rfl⟩
        have HE : Hid (pastI Tp.blank l k = k) := pastI_no hlt hb
        go_wp2_with fail
        go_ret
        exact ⟨by rw [← HSP.out, HE.out]; rfl, rfl⟩
      · go_wp2_with fail
        refine (blank_any _ l[k]).mono ?_
        rintro e w1 ⟨rfl, rfl⟩
        have HE : Hid (pastI Tp.blank l (k + 1) = pastI Tp.blank l k) := pastI_yes hlt hb
        go_wp2_with fail
        go_round
        case rel => exact ⟨k + 1, by omega, by go_num, by rw [HE.out, HSP.out]⟩
        case measure => simp [intOf]; omega
    · have HE : Hid (pastI Tp.blank l k = k) := pastI_end hlt
      go_wp2_with fail
      go_ret
      exact ⟨by rw [← HSP.out, HE.out]; rfl, rfl⟩
set_option maxRecDepth 100000 in
set_option maxHeartbeats 1000000 in
theorem past_digit {w : World} {tb cap : Nat} {l : List UInt8} (ht : TxAt w tb l) (i : Nat) (hi : i ≤ l.length) (hl : l.length ≤ 100000) :
    Calls Tryz.prog 58 #[.slice (some ⟨tb, 0, none⟩) l.length cap, .int .i64 (i : Int), .func (.func 100) #[] #[]] w fun e w' => e = .returned (.int .i64 (pastI Tp.digit l i : Int)) ∧ w' = w := by
  have HT : Hid (TxAt w tb l) := ht
  clear ht
  go_enter Tryz.func58, Tryz.ntmps58
  go_wp2_with fail
  go_loop [1] (fun v => ∃ k : Nat, k ≤ l.length ∧ v = .int .i64 (k : Int) ∧ pastI Tp.digit l k = pastI Tp.digit l i) (fun v => l.length - (intOf v).toNat)
  case atStart => exact ⟨i, hi, rfl, rfl⟩
  case round =>
    obtain ⟨k, hk, rfl, hsp⟩ := hrel
    have HSP : Hid (pastI Tp.digit l k = pastI Tp.digit l i) := hsp
    clear hsp
    by_cases hlt : k < l.length
    · have hc := HT.out k l[k] (List.getElem?_eq_getElem hlt)
      have hlt' : (k : Int) < (l.length : Int) := by omega
      cases hb : Tp.digit l[k]
      · go_wp2_with fail
        refine (digit_any _ l[k]).mono ?_
        rintro e w1 ⟨rfl, rfl⟩
        have HE : Hid (pastI Tp.digit l k = k) := pastI_no hlt hb
        go_wp2_with fail
        go_ret
        exact ⟨by rw [← HSP.out, HE.out]; rfl, rfl⟩
      · go_wp2_with fail
        refine (digit_any _ l[k]).mono ?_
        rintro e w1 ⟨rfl, rfl⟩
        have HE : Hid (pastI Tp.digit l (k + 1) = pastI Tp.digit l k) := pastI_yes hlt hb
        go_wp2_with fail
        go_round
        case rel => exact ⟨k + 1, by omega, by go_num, by rw [HE.out, HSP.out]⟩
        case measure => simp [intOf]; omega
    · have HE : Hid (pastI Tp.digit l k = k) := pastI_end hlt
      go_wp2_with fail
      go_ret
      exact ⟨by rw [← HSP.out, HE.out]; rfl, rfl⟩
set_option maxRecDepth 100000 in
set_option maxHeartbeats 1000000 in
theorem past_ld {w : World} {tb cap : Nat} {l : List UInt8} (ht : TxAt w tb l) (i : Nat) (hi : i ≤ l.length) (hl : l.length ≤ 100000) (lb db : Nat) (hlb : w.cell? ⟨lb, 0, none⟩ = some (.func (.func 99) #[] #[])) (hdb : w.cell? ⟨db, 0, none⟩ = some (.func (.func 100) #[] #[])) :
    Calls Tryz.prog 58 #[.slice (some ⟨tb, 0, none⟩) l.length cap, .int .i64 (i : Int), .func (.func 101) #[] #[.pointer (some ⟨lb, 0, none⟩), .pointer (some ⟨db, 0, none⟩)]] w fun e w' => e = .returned (.int .i64 (pastI Tp.ld l i : Int)) ∧ w' = w := by
  have HT : Hid (TxAt w tb l) := ht
  clear ht
  go_enter Tryz.func58, Tryz.ntmps58
  go_wp2_with fail
  go_loop [1] (fun v => ∃ k : Nat, k ≤ l.length ∧ v = .int .i64 (k : Int) ∧ pastI Tp.ld l k = pastI Tp.ld l i) (fun v => l.length - (intOf v).toNat)
  case atStart => exact ⟨i, hi, rfl, rfl⟩
  case round =>
    obtain ⟨k, hk, rfl, hsp⟩ := hrel
    have HSP : Hid (pastI Tp.ld l k = pastI Tp.ld l i) := hsp
    clear hsp
    by_cases hlt : k < l.length
    · have hc := HT.out k l[k] (List.getElem?_eq_getElem hlt)
      have hlt' : (k : Int) < (l.length : Int) := by omega
      cases hb : Tp.ld l[k]
      · go_wp2_with fail
        refine (ld_any _ l[k] lb db hlb hdb).mono ?_
        rintro e w1 ⟨rfl, rfl⟩
        have HE : Hid (pastI Tp.ld l k = k) := pastI_no hlt hb
        go_wp2_with fail
        go_ret
        exact ⟨by rw [← HSP.out, HE.out]; rfl, rfl⟩
      · go_wp2_with fail
        refine (ld_any _ l[k] lb db hlb hdb).mono ?_
        rintro e w1 ⟨rfl, rfl⟩
        have HE : Hid (pastI Tp.ld l (k + 1) = pastI Tp.ld l k) := pastI_yes hlt hb
        go_wp2_with fail
        go_round
        case rel => exact ⟨k + 1, by omega, by go_num, by rw [HE.out, HSP.out]⟩
        case measure => simp [intOf]; omega
    · have HE : Hid (pastI Tp.ld l k = k) := pastI_end hlt
      go_wp2_with fail
      go_ret
      exact ⟨by rw [← HSP.out, HE.out]; rfl, rfl⟩
end Go.Proofs.YtibncofnnlbmcaaGreatDoor
