import Derived.Test.YtfcdphgggdioeaaGreatDoorKPb
/- Names that a module that was read uses are names. No program stands in it. -/
namespace Tp
def Sk (l : List R) : Prop := ∀ r ∈ l, okn r.name
theorem Sk.app {l m : List R} (h : Sk l) (k : Sk m) : Sk (l ++ m) := fun r hr => by
  rcases List.mem_append.1 hr with q | q
  · exact h r q
  · exact k r q
theorem Sk.nil : Sk [] := fun r hr => by cases hr
theorem wx_okn : ∀ (n : Nat) (l : List X), SizeOf.sizeOf l ≤ n → WX l → Sk (rx l) := by
  intro n
  induction n with
  | zero => intro l hl; cases l <;> simp at hl <;> omega
  | succ n ih =>
    intro l hl h
    cases l with
    | nil => rw [rx]; exact Sk.nil
    | cons x xs =>
      obtain ⟨code, pos, nn, m, nm, op, le, ri, ar⟩ := x
      rw [WX] at h
      simp at hl
      obtain ⟨h1, h2⟩ := h
      have hxs := ih xs (by omega) h2
      have key : Sk (if code = 2 ∨ code = 3 ∨ code = 6 then [⟨code, pos, m, nm, ar.length⟩] else []) ∧ Sk (rx le) ∧ Sk (rx ri) ∧ Sk (rx ar) := by
        have one : okr m nm → Sk (if code = 2 ∨ code = 3 ∨ code = 6 then [⟨code, pos, m, nm, ar.length⟩] else []) := by
          intro hk r hr
          split at hr
          · rw [List.mem_singleton.1 hr]; exact hk.2
          · cases hr
        have non : ¬ (code = 2 ∨ code = 3 ∨ code = 6) → Sk (if code = 2 ∨ code = 3 ∨ code = 6 then [⟨code, pos, m, nm, ar.length⟩] else []) := by
          intro hk
          rw [if_neg hk]; exact Sk.nil
        have nil : Sk (rx []) := by rw [rx]; exact Sk.nil
        rcases h1 with ⟨c, _, _, _, _, h5, h6, h7⟩ | ⟨c, _, h3, _, h5, h6, h7⟩ | ⟨c, _, h3, _, h5, _, h6, h7⟩ | ⟨c, _, _, _, _, h5, _, h6, h7⟩ | ⟨c, _, _, _, _, h5, _, h6, _, h7⟩ | ⟨c, _, h3, _, h5, h6, h7⟩
        · exact ⟨non (by omega), by rw [h5]; exact nil, by rw [h6]; exact nil, by rw [h7]; exact nil⟩
        · exact ⟨one h3, by rw [h5]; exact nil, by rw [h6]; exact nil, by rw [h7]; exact nil⟩
        · exact ⟨one h3, ih _ (by omega) h5, by rw [h6]; exact nil, by rw [h7]; exact nil⟩
        · exact ⟨non (by omega), ih _ (by omega) h5, by rw [h6]; exact nil, by rw [h7]; exact nil⟩
        · exact ⟨non (by omega), ih _ (by omega) h5, ih _ (by omega) h6, by rw [h7]; exact nil⟩
        · exact ⟨one h3, by rw [h5]; exact nil, by rw [h6]; exact nil, ih _ (by omega) h7⟩
      rw [rx]
      exact (((key.1.app key.2.1).app key.2.2.1).app key.2.2.2).app hxs
theorem ws_okn : ∀ (n : Nat) (l : List S), SizeOf.sizeOf l ≤ n → WS l → Sk (rs l) := by
  intro n
  induction n with
  | zero => intro l hl; cases l <;> simp at hl <;> omega
  | succ n ih =>
    intro l hl h
    cases l with
    | nil => rw [rs]; exact Sk.nil
    | cons x xs =>
      obtain ⟨code, pos, nm, ix, vl, th, el⟩ := x
      rw [WS] at h
      simp at hl
      obtain ⟨h1, h2⟩ := h
      have hxs := ih xs (by omega) h2
      have nx : Sk (rx []) := by rw [rx]; exact Sk.nil
      have ns : Sk (rs []) := by rw [rs]; exact Sk.nil
      have wv : ev vl → Sk (rx vl) := fun q => wx_okn _ _ (Nat.le_refl _) q.1
      have non : code ≠ 1 → Sk (if code = 1 then [⟨if ix.isEmpty then 2 else 3, pos, [], nm, 0⟩] else []) := by
        intro hk
        rw [if_neg hk]; exact Sk.nil
      have key : Sk (if code = 1 then [⟨if ix.isEmpty then 2 else 3, pos, [], nm, 0⟩] else []) ∧ Sk (rx ix) ∧ Sk (rx vl) ∧ Sk (rs th) ∧ Sk (rs el) := by
        rcases h1 with ⟨c, h3, h4, h5, h6, h7⟩ | ⟨c, _, h4, h5, h6, h7⟩ | ⟨c, _, h4, h5, h6, h7⟩ | ⟨c, _, h4, h5, h6, h7⟩ | ⟨c, _, h4, h5, _, h6, h7⟩
        · refine ⟨?_, ?_, wv h5, by rw [h6]; exact ns, by rw [h7]; exact ns⟩
          · intro r hr
            rw [if_pos c] at hr
            rw [List.mem_singleton.1 hr]
            exact h3
          · rcases h4 with q | q
            · rw [q]; exact nx
            · exact wx_okn _ _ (Nat.le_refl _) q.1
        · exact ⟨non (by omega), by rw [h4]; exact nx, wv h5, ih _ (by omega) h6, ih _ (by omega) h7⟩
        · exact ⟨non (by omega), by rw [h4]; exact nx, wv h5, ih _ (by omega) h6, by rw [h7]; exact ns⟩
        · exact ⟨non (by omega), by rw [h4]; exact nx, wv h5, by rw [h6]; exact ns, by rw [h7]; exact ns⟩
        · exact ⟨non (by omega), by rw [h4]; exact nx, wv h5, by rw [h6]; exact ns, by rw [h7]; exact ns⟩
      rw [rs]
      exact ((((key.1.app key.2.1).app key.2.2.1).app key.2.2.2.1).app key.2.2.2.2).app hxs
theorem allR_okn {m : M} (h : WM m) : Sk (allR m) := by
  unfold allR
  refine Sk.app (fun r hr => ?_) (ws_okn _ _ (Nat.le_refl _) h.b)
  rw [List.mem_flatten] at hr
  obtain ⟨l, hl, hr⟩ := hr
  obtain ⟨p, hp, rfl⟩ := List.mem_map.1 hl
  exact ws_okn _ _ (Nat.le_refl _) (h.p p hp).b r hr
theorem used_okn {m : M} (h : WM m) {of n : Bs} (hn : n ∈ usedR m of) : okn n := by
  unfold usedR at hn
  obtain ⟨r, hr, rfl⟩ := List.mem_map.1 hn
  exact allR_okn h r (List.mem_filter.1 hr).1
end Tp
