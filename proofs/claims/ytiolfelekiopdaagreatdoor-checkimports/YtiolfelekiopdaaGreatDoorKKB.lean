import Derived.Test.YtiolfelekiopdaaGreatDoorKKA
/- What others see of a module: Of. -/
namespace Go.Proofs.YtiolfelekiopdaaGreatDoor
open Go.RowKit Go.Sort
open Tp (Sy)

theorem Tryz.infoSym : (Tryz.prog.info? 48).map (fun i => (i.zero, i.size, i.bytes)) = some (some (.agg #[.string ⟨#[]⟩, .int .i64 0, .int .i64 0]), 3, 32) := by kernel_rfl
def AskOG (w : World) (gn : Nat) (ga : Option Addr) (xs : Nat → List Sy) : Prop :=
  ∀ i, i < gn → ∃ (g : Nat) (x0 : List UInt8) (x1 x2 : Nat) (x3 : Bool), ga = some ⟨g, 0, none⟩ ∧ g < w.heap.size ∧ w.cell? ⟨g, i * 4, none⟩ = some (.string (bs x0)) ∧ w.cell? ⟨g, i * 4 + 1, none⟩ = some (.int .i64 (x1 : Int)) ∧ w.cell? ⟨g, i * 4 + 2, none⟩ = some (.int .i64 (x2 : Int)) ∧ w.cell? ⟨g, i * 4 + 3, none⟩ = some (.bool x3) ∧
    xs (i + 1) = xs i ++ (if x3 then [(x0, x2, -1)] else [])
def AskOP (w : World) (pn : Nat) (pa : Option Addr) (xs : Nat → List Sy) : Prop :=
  ∀ i, i < pn → ∃ (g : Nat) (x0 : List UInt8) (x1 : Nat) (x2 : Bool) (y3 y4 y5 : Option Addr) (n3 n4 n5 c3 c4 c5 : Nat), pa = some ⟨g, 0, none⟩ ∧ g < w.heap.size ∧ w.cell? ⟨g, i * 6, none⟩ = some (.string (bs x0)) ∧ w.cell? ⟨g, i * 6 + 1, none⟩ = some (.int .i64 (x1 : Int)) ∧ w.cell? ⟨g, i * 6 + 2, none⟩ = some (.bool x2) ∧ w.cell? ⟨g, i * 6 + 3, none⟩ = some (.slice y3 n3 c3) ∧ w.cell? ⟨g, i * 6 + 4, none⟩ = some (.slice y4 n4 c4) ∧ w.cell? ⟨g, i * 6 + 5, none⟩ = some (.slice y5 n5 c5) ∧
    xs (i + 1) = xs i ++ (if x2 then [(x0, 0, (n3 : Int))] else [])
/- Syms that a slice holds, in blocks from B on -/
def SL (w : World) (B : Nat) (v : Value) (l : List Sy) : Prop := v = .slice none 0 0 ∧ l = [] ∨ ∃ g cap, v = .slice (some ⟨g, 0, none⟩) l.length cap ∧ B ≤ g ∧ SyRow w g cap l
theorem own_syrow {w : World} {base n : Nat} {v : Value} {l : List Sy} (h : w.ownsRow base 48 3 v n (sycs l)) : n = l.length ∧ SL w base v l := by
  have hn : n = l.length := by have := h.1; rw [sycs_len] at this; omega
  refine ⟨hn, ?_⟩
  rcases h.2 with ⟨rfl, h2⟩ | ⟨g, cap, cur, rfl, q1, q2, q3, q4, q5, q6⟩
  · exact Or.inl ⟨rfl, List.eq_nil_of_length_eq_zero (by omega)⟩
  · subst hn
    exact Or.inr ⟨g, cap, rfl, q1, ⟨⟨cur, q2, q5, q6⟩, q3, q4⟩⟩
theorem newsSy (w : World) (o : Obj) (v0 v1 v2 : Value) (t : TypeId) : ∀ (j : Nat) (u : Value), ([v0, v1, v2] : List Value)[j]? = some u → ((w.alloc o).alloc (.cells #[v0, v1, v2] t)).cell? ((⟨w.heap.size + 1, 0, none⟩ : Addr).add j) = some u := by
  intro j u hj
  rw [Addr.add_lit, cell_blk (new_blk1 _ _ _), Nat.zero_add]
  simpa using hj
end Go.Proofs.YtiolfelekiopdaaGreatDoor
/- What others see of a module: Of, walked. -/
namespace Go.Proofs.YtiolfelekiopdaaGreatDoor
open Go.RowKit Go.Sort
open Tp (Sy)

set_option maxRecDepth 100000 in
set_option maxHeartbeats 4000000 in
theorem of_walk {w : World} {nm : List UInt8} {inn gn pn bn ic gc pc bc : Nat} {ia ga pa ba : Option Addr} {mg mp : Nat → List Sy} (hg0 : mg 0 = []) (hG : AskOG w gn ga mg) (hp0 : mp 0 = mg gn) (hP : AskOP w pn pa mp) (hgl : ∀ i, (mg i).length ≤ 1000) (hpl : ∀ i, (mp i).length ≤ 1000) (hlast : (mp pn).length ≤ 20) (hgn : gn ≤ 1000000000) (hpn : pn ≤ 1000000000) :
    Calls Tryz.prog 28 #[.agg #[.string (bs nm), .slice ia inn ic, .slice ga gn gc, .slice pa pn pc, .slice ba bn bc]] w fun e w' => ∃ v, e = .returned v ∧ Below w.heap.size w w' ∧ SL w' w.heap.size v (srt (mp pn)) := by
  obtain ⟨i3, hi3, hz30, hz31, hz32⟩ := info_parts Tryz.infoSym
  have hblk : (w.alloc (.cells #[.string (bs nm), .slice ia inn ic, .slice ga gn gc, .slice pa pn pc, .slice ba bn bc] 29)).heap[w.heap.size]? = some (.cells #[.string (bs nm), .slice ia inn ic, .slice ga gn gc, .slice pa pn pc, .slice ba bn bc] 29 (0, 0)) := new_blk _ _
  obtain ⟨k0, k1, k2, k3, k4⟩ := cell_box5 hblk
  have HG0 := Lib.hid hg0
  have HG := Lib.hid hG
  have HP0 := Lib.hid hp0
  have HP := Lib.hid hP
  have HLA := Lib.hid hlast
  have HGL := Lib.hid hgl
  have HPL := Lib.hid hpl
  have HK := Lib.hid hblk
  have hgn' : (gn : Int) ≤ 1000000000 := by omega
  have hpn' : (pn : Int) ≤ 1000000000 := by omega
  clear hg0 hG hp0 hP hlast hgl hpl hblk k0 k1 k3 k4
  go_enter Tryz.func28, Tryz.ntmps28
  go_wp2_with fail
  go_loopg [3, 11] gn (fun k v vi wr => ∃ i : Nat, i ≤ gn ∧ k = gn - i ∧ vi = .int .i64 (i : Int) ∧ Hid (wr.ownsRow (w.heap.size + 1) 48 3 v (mg i).length (sycs (mg i))) ∧ Hid (Below (w.heap.size + 1) (w.alloc (.cells #[.string (bs nm), .slice ia inn ic, .slice ga gn gc, .slice pa pn pc, .slice ba bn bc] 29)) wr))
  case atStart => exact ⟨0, by omega, by omega, rfl, by unfold Hid; rw [HG0.out]; exact World.ownsRow_nil _ _ _ _, Below.refl _ _⟩
  case round =>
    obtain ⟨i, hid, hk, rfl, HO, HB⟩ := hrel
    have hown := HO.out
    have hml := HGL.out i
    have hsz := HB.out.size
    have hsz1 : (w.alloc (.cells #[.string (bs nm), .slice ia inn ic, .slice ga gn gc, .slice pa pn pc, .slice ba bn bc] 29)).heap.size = w.heap.size + 1 := by simp
    by_cases hlt : i < gn
    · have hlt' : (i : Int) < (gn : Int) := by omega
      obtain ⟨g, x0, x1, x2, x3, hga, hgB, c0, c1', c2, c3, hx⟩ := HG.out i hlt
      subst hga
      have hcell : ∀ (o : Nat) (u : Value), w.cell? ⟨g, o, none⟩ = some u → wr.cell? ⟨g, o, none⟩ = some u := fun o u h => (HB.out.cell (p := ⟨g, o, none⟩) (by simp; omega)).trans (cell_alloc h _)
      have kc0 := hcell _ _ c0
      have kc1 := hcell _ _ c1'
      have kc2 := hcell _ _ c2
      have kc3 := hcell _ _ c3
      have hlgr : g < wr.heap.size := by omega
      obtain ⟨a1, c1, hv⟩ := owns_shape hown
      subst hv
      clear c0 c1' c2 c3 hcell HO
      cases x3 with
      | true =>
        have hownA := (hown.alloc (.cells #[.string (bs x0), .int .i64 (x1 : Int), .int .i64 (x2 : Int), .bool true] 42)).alloc (.cells #[.string (bs x0), .int .i64 (x2 : Int), .int .i64 (-1)] 48)
        go_wp2_with (at_builtin; refine wpList_append_where _ rfl _ _ 45 rfl (w.heap.size + 1) 48 i3 (.agg #[.string ⟨#[]⟩, .int .i64 0, .int .i64 0]) 3 32 Tryz.underlying45 hi3 hz30 hz31 hz32 rfl (by decide) _ _ _ rfl hownA ⟨wr.heap.size + 1, 0, none⟩ 1 1 [.string (bs x0), .int .i64 (x2 : Int), .int .i64 (-1)] rfl rfl (newsSy wr _ _ _ _ _) (by intro u hu; simp at hu; rcases hu with rfl | rfl | rfl <;> rfl) (by unfold maxLen; omega) (by omega) (by simp; omega) ?_)
        intro v3 w3 hown3 hgrow3 _
        have HB3 := Lib.hid ((((HB.out.alloc (by omega) _).alloc (by simp; omega) _)).grown hgrow3 (by simp; omega) (fun k hk => (hownA.lt k hk).1))
        have HO3 : Hid (w3.ownsRow (w.heap.size + 1) 48 3 v3 (mg (i + 1)).length (sycs (mg (i + 1)))) := by
          unfold Hid
          rw [show mg (i + 1) = mg i ++ [(x0, x2, (-1))] by simpa using hx, sycs_app, List.length_append]
          exact hown3
        clear hown3 hgrow3 hownA hown
        go_wp2_with fail
        go_roundg (gn - (i + 1))
        case measure => omega
        case rel => exact ⟨i + 1, by omega, rfl, by go_num, HO3, HB3⟩

      | false =>
        have HB3 : ∀ ob, Below (w.heap.size + 1) _ (wr.alloc ob) := fun ob => HB.out.alloc (by omega) _
        have HO3 : ∀ ob, Hid ((wr.alloc ob).ownsRow (w.heap.size + 1) 48 3 (.slice a1 (mg i).length c1) (mg (i + 1)).length (sycs (mg (i + 1)))) := by
          intro ob
          unfold Hid
          rw [show mg (i + 1) = mg i by simpa using hx]
          exact hown.alloc ob
        have HB3' := Lib.hid HB3
        clear hown HB3
        go_wp2_with fail
        go_roundg (gn - (i + 1))
        case measure => omega
        case rel => exact ⟨i + 1, by omega, rfl, by go_num, HO3 _, HB3'.out _⟩

    · have hlt' : ¬ (i : Int) < (gn : Int) := by omega
      have hei : i = gn := by omega
      have HO2 : Hid (wr.ownsRow (w.heap.size + 1) 48 3 u3 (mp 0).length (sycs (mp 0))) := by unfold Hid; rw [HP0.out, ← hei]; exact hown
      have HB2 := HB
      have k3 : wr.cell? ⟨w.heap.size, 3, none⟩ = some (.slice pa pn pc) := (HB.out.cell (p := ⟨w.heap.size, 3, none⟩) (by simp)).trans (cell_box5 HK.out).2.2.2.1
      have hltb : w.heap.size < wr.heap.size := by omega
      clear HO hown HB HG HG0 hei hid hk hml hsz k2
      go_wp2_with fail
      go_loopg [3, 29] pn (fun k v vi wr => ∃ i : Nat, i ≤ pn ∧ k = pn - i ∧ vi = .int .i64 (i : Int) ∧ Hid (wr.ownsRow (w.heap.size + 1) 48 3 v (mp i).length (sycs (mp i))) ∧ Hid (Below (w.heap.size + 1) (w.alloc (.cells #[.string (bs nm), .slice ia inn ic, .slice ga gn gc, .slice pa pn pc, .slice ba bn bc] 29)) wr))
      case atStart => exact ⟨0, by omega, by omega, rfl, HO2, HB2⟩
      case round =>
        obtain ⟨j, hjd, hk2, rfl, HO, HB⟩ := hrel
        clear HO2 HB2 k3 hltb
        have hown := HO.out
        have hml := HPL.out j
        have hsz := HB.out.size
        by_cases hlt2 : j < pn
        · have hlt2' : (j : Int) < (pn : Int) := by omega
          obtain ⟨g, x0, x1, x2, y3, y4, y5, n3, n4, n5, d3, d4, d5, hpa, hgB, c0, c1', c2, c3, c4, c5, hx⟩ := HP.out j hlt2
          subst hpa
          have hcell : ∀ (o : Nat) (u : Value), w.cell? ⟨g, o, none⟩ = some u → wr.cell? ⟨g, o, none⟩ = some u := fun o u h => (HB.out.cell (p := ⟨g, o, none⟩) (by simp; omega)).trans (cell_alloc h _)
          have kc0 := hcell _ _ c0
          have kc1 := hcell _ _ c1'
          have kc2 := hcell _ _ c2
          have kc3 := hcell _ _ c3
          have kc4 := hcell _ _ c4
          have kc5 := hcell _ _ c5
          have hlgr : g < wr.heap.size := by omega
          obtain ⟨a1, c1, hv⟩ := owns_shape hown
          subst hv
          clear c0 c1' c2 c3 c4 c5 hcell HO
          cases x2 with
          | true =>
            have hownA := (hown.alloc (.cells #[.string (bs x0), .int .i64 (x1 : Int), .bool true, .slice y3 n3 d3, .slice y4 n4 d4, .slice y5 n5 d5] 39)).alloc (.cells #[.string (bs x0), .int .i64 0, .int .i64 (n3 : Int)] 48)
            go_wp2_with (at_builtin; refine wpList_append_where _ rfl _ _ 45 rfl (w.heap.size + 1) 48 i3 (.agg #[.string ⟨#[]⟩, .int .i64 0, .int .i64 0]) 3 32 Tryz.underlying45 hi3 hz30 hz31 hz32 rfl (by decide) _ _ _ rfl hownA ⟨wr.heap.size + 1, 0, none⟩ 1 1 [.string (bs x0), .int .i64 0, .int .i64 (n3 : Int)] rfl rfl (newsSy wr _ _ _ _ _) (by intro u hu; simp at hu; rcases hu with rfl | rfl | rfl <;> rfl) (by unfold maxLen; omega) (by omega) (by simp; omega) ?_)
            intro v3 w3 hown3 hgrow3 _
            have HB3 := Lib.hid ((((HB.out.alloc (by omega) _).alloc (by simp; omega) _)).grown hgrow3 (by simp; omega) (fun k hk => (hownA.lt k hk).1))
            have HO3 : Hid (w3.ownsRow (w.heap.size + 1) 48 3 v3 (mp (j + 1)).length (sycs (mp (j + 1)))) := by
              unfold Hid
              rw [show mp (j + 1) = mp j ++ [(x0, 0, (n3 : Int))] by simpa using hx, sycs_app, List.length_append]
              exact hown3
            clear hown3 hgrow3 hownA hown
            go_wp2_with fail
            go_roundg (pn - (j + 1))
            case measure => omega
            case rel => exact ⟨j + 1, by omega, rfl, by go_num, HO3, HB3⟩

          | false =>
            have HB3 : ∀ ob, Below (w.heap.size + 1) _ (wr.alloc ob) := fun ob => HB.out.alloc (by omega) _
            have HO3 : ∀ ob, Hid ((wr.alloc ob).ownsRow (w.heap.size + 1) 48 3 (.slice a1 (mp j).length c1) (mp (j + 1)).length (sycs (mp (j + 1)))) := by
              intro ob
              unfold Hid
              rw [show mp (j + 1) = mp j by simpa using hx]
              exact hown.alloc ob
            have HB3' := Lib.hid HB3
            clear hown HB3
            go_wp2_with fail
            go_roundg (pn - (j + 1))
            case measure => omega
            case rel => exact ⟨j + 1, by omega, rfl, by go_num, HO3 _, HB3'.out _⟩

        · have hlt2' : ¬ (j : Int) < (pn : Int) := by omega
          have hej : j = pn := by omega
          rw [hej] at hown
          obtain ⟨hln, hsl⟩ := own_syrow hown
          have HBF : Hid (Below w.heap.size w wr) := (((Below.refl w.heap.size w).alloc (Nat.le_refl _) _).trans (HB.out.mono (by omega)))
          rcases hsl with ⟨rfl, hnil⟩ | ⟨g, cap, rfl, hge, hrow⟩
          · have HS := Lib.hid (sort_nil wr)
            have hz0 : srt (mp pn) = [] := List.eq_nil_of_length_eq_zero (by rw [srt_len, hnil]; rfl)
            unfold fnCmp at HS
            clear hown HO HB HP HP0 hej hml hsz
            go_wp2_with fail
            refine HS.out.mono ?_
            rintro e w9 ⟨rfl, rfl⟩
            go_wp2_with fail
            go_ret
            exact ⟨_, rfl, HBF.out, Or.inl ⟨rfl, hz0⟩⟩
          · have HS := Lib.hid (sort_post hrow HLA.out)
            have HGE := Lib.hid hge
            unfold fnCmp at HS
            have hlr : (srt (mp pn)).length = (mp pn).length := srt_len _
            generalize (mp pn).length = ln at *
            clear hown HO HB HP HP0 hej hml hsz hrow hge
            go_wp2_with fail
            refine HS.out.mono ?_
            rintro e w9 ⟨rfl, h9, g9⟩
            have H9 := Lib.hid h9
            have G9 := Lib.hid g9
            clear h9 g9
            go_wp2_with fail
            go_ret
            refine ⟨.slice (some ⟨g, 0, none⟩) ln cap, rfl, HBF.out.trans ?_, Or.inr ⟨g, cap, by rw [hlr], by have := HGE.out; omega, H9.out⟩⟩
            exact (Below.refl w.heap.size wr).grown G9.out (by have := HBF.out.size; omega) (fun k hk => by cases hk; have := HGE.out; omega)
end Go.Proofs.YtiolfelekiopdaaGreatDoor
