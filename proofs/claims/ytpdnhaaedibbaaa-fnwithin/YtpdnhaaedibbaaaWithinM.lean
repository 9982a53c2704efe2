/-
  Plain facts on what lies within what: joining what is behind leads there; both ways is the same path.
  Conditions: as each states.
-/
import Derived.Test.YtpdnhaaedibbaaaPathsM
namespace Go.Proofs.Ytpdnhaaedibbaaa
open Go
set_option linter.unusedVariables false

theorem okF_parts {a b : List UInt8} (h : okF a b = true) : wgB a = true ∧ wgB b = true ∧ cleanOf a <+: cleanOf b := by
  simp only [okF, Bool.and_eq_true] at h
  exact ⟨h.1.1, h.1.2, List.isPrefixOf_iff_prefix.1 h.2⟩
theorem wg_parts {a : List UInt8} (h : wgB a = true) : wholeB a = true ∧ goodB a = true := by
  simp only [wgB, Bool.and_eq_true] at h
  exact h
theorem okF_self {a : List UInt8} (h : wgB a = true) : okF a a = true ∧ okW a a = true := by simp [okF, okW, h]
theorem okF_root {b : List UInt8} (h : wgB b = true) : okF [47] b = true ∧ okW [47] b = true := by
  have h1 : wgB [47] = true := by decide
  have h2 : cleanOf [47] = [] := by decide
  simp [okF, okW, h1, h, h2]
theorem okF_good {a b : List UInt8} (h : okF a b = true) : goodB a = true ∧ goodB b = true ∧ okW a b = true ∧ okW b a = true := by
  obtain ⟨h1, h2, _⟩ := okF_parts h
  exact ⟨(wg_parts h1).2, (wg_parts h2).2, by simp [okW, h1, h2], by simp [okW, h1, h2]⟩
theorem prefix_both {a b : List (List UInt8)} (h1 : a <+: b) (h2 : b <+: a) : a = b := h1.eq_of_length (Nat.le_antisymm h1.length_le h2.length_le)
theorem okF_both {a b : List UInt8} (h1 : okF a b = true) (h2 : okF b a = true) : cT a = cT b := by
  obtain ⟨wa, wb, p1⟩ := okF_parts h1
  obtain ⟨_, _, p2⟩ := okF_parts h2
  rw [(wg_text wa).1, (wg_text wb).1, prefix_both p1 p2]
theorem okF_one {a b : List UInt8} (h1 : okF a b = true) (h2 : okF b a = false) : cT a ≠ cT b := by
  obtain ⟨wa, wb, p1⟩ := okF_parts h1
  intro e
  rw [(wg_text wa).1, (wg_text wb).1] at e
  have e2 := pathL_inj (wg_text wa).2 (wg_text wb).2 e
  have : okF b a = true := by simp [okF, wa, wb, e2]
  rw [this] at h2; cases h2

theorem parts_more {a : List UInt8} {r : List (List UInt8)} (h47 : ∀ p ∈ r, 47 ∉ p) (h0 : ∀ p ∈ r, p ≠ []) : parts (a ++ slashed r) = parts a ++ r := by
  induction r using lists_ind with
  | h0 => simp [slashed]
  | hs l p ih =>
    rw [slashed_snoc, ← List.append_assoc, parts_snoc _ _ (h47 p (by simp)) (h0 p (by simp)), ih (fun q hq => h47 q (by simp [hq])) (fun q hq => h0 q (by simp [hq])), List.append_assoc]
theorem clean_more {wh : Bool} {ps r : List (List UInt8)} (h : ∀ p ∈ r, p ≠ [46] ∧ p ≠ [46, 46]) : clean wh (ps ++ r) = clean wh ps ++ r := by
  induction r using lists_ind with
  | h0 => simp
  | hs l p ih =>
    rw [← List.append_assoc, clean_snoc, ih (fun q hq => h q (by simp [hq])), cl_name _ _ (h p (by simp)).1 (h p (by simp)).2, List.append_assoc]
theorem whole_app {a : List UInt8} (h : wholeB a = true) (x : List UInt8) : wholeB (a ++ x) = true := by
  cases a with
  | nil => exact absurd h (by decide)
  | cons c r => simpa [wholeB] using h

theorem from_join {a b : List UInt8} (h : okF a b = true) (hj : okJ a (fromT a b) = true) : joinT a (fromT a b) = cT b := by
  obtain ⟨wa, wb, r, hr⟩ := okF_parts h
  obtain ⟨ha1, ha2⟩ := wg_parts wa
  obtain ⟨hb1, hb2⟩ := wg_parts wb
  have hall := (wg_text wb).2
  have hnames := whole_names hb2 hb1
  have hf : fromT a b = if r = [] then [46] else (slashed r).drop 1 := by
    unfold fromT fromL
    rw [if_pos h, ← hr, List.drop_left]
  have fin : wholeB (fromT a b) = false → cleanOf (a ++ 47 :: fromT a b) = cleanOf b → joinT a (fromT a b) = cT b := by
    intro h1 h2
    have e : joinIn a (fromT a b) = a ++ 47 :: fromT a b := by unfold joinIn; rw [h1]; rfl
    unfold joinT
    rw [if_pos hj, e, (wg_text wb).1]
    unfold cleanT
    rw [if_pos (whole_app ha1 _), h2]
  have hw := whole_app ha1
  by_cases h0 : r = []
  · rw [if_pos h0] at hf
    refine fin (by rw [hf]; rfl) ?_
    rw [hf]
    have hp : parts (a ++ 47 :: [46]) = parts a ++ [[46]] := parts_snoc _ _ (by decide) (by decide)
    have e1 : cleanOf (a ++ 47 :: [46]) = clean true (parts a ++ [[46]]) := by unfold cleanOf; rw [hp, hw]
    have e2 : cleanOf a = clean true (parts a) := by unfold cleanOf; rw [ha1]
    rw [e1, clean_snoc, cl_dot, ← e2, ← hr, h0, List.append_nil]
  · rw [if_neg h0] at hf
    have hmem : ∀ p ∈ r, p ∈ cleanOf b := fun p hp => by rw [← hr]; simp [hp]
    have hpart : ∀ p ∈ r, partB p = true := fun p hp => hall p (hmem p hp)
    have hcons : 47 :: (slashed r).drop 1 = slashed r := by
      cases r with
      | nil => exact absurd rfl h0
      | cons p r => rw [slashed_cons]; rfl
    refine fin ?_ ?_
    · rw [hf]
      cases r with
      | nil => exact absurd rfl h0
      | cons p r =>
        have hp := hpart p (by simp)
        rw [slashed_cons]
        simp only [List.drop_succ_cons, List.drop_zero]
        cases p with
        | nil => exact absurd rfl (part_ne hp)
        | cons c q =>
          have : c ≠ 47 := fun e => part_no47 hp (by simp [e])
          simp [wholeB, this]
    · rw [hf, hcons]
      have hp : parts (a ++ slashed r) = parts a ++ r := parts_more (fun p hp => part_no47 (hpart p hp)) (fun p hp => part_ne (hpart p hp))
      have e1 : cleanOf (a ++ slashed r) = clean true (parts a ++ r) := by unfold cleanOf; rw [hp, hw]
      have e2 : cleanOf a = clean true (parts a) := by unfold cleanOf; rw [ha1]
      rw [e1, clean_more, ← e2, hr]
      intro p hp
      have hnm := List.all_eq_true.1 hnames p (hmem p hp)
      refine ⟨fun e => ?_, fun e => ?_⟩
      · subst e; exact absurd hnm (by decide)
      · subst e; exact absurd hnm (by decide)
theorem from_len (a b : List UInt8) : (fromT a b).length ≤ 10001 := by
  unfold fromT
  split
  · rename_i h
    obtain ⟨_, wb, _⟩ := okF_parts h
    have h1 := slashed_small (wg_parts wb).2
    unfold fromL
    split
    · simp
    · have h2 := slashed_app ((cleanOf b).take (cleanOf a).length) ((cleanOf b).drop (cleanOf a).length)
      rw [List.take_append_drop] at h2
      rw [h2] at h1
      simp at h1 ⊢
      omega
  · simp
end Go.Proofs.Ytpdnhaaedibbaaa
