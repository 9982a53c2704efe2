/-
  Contracts of impl.dirAndBase, impl.BaseOf, impl.DirOf, one sentence each.
  Conditions: a text of at most 2^30 bytes.
-/
import Derived.Test.YtpdnhaaedibbaaaBaseC
namespace Go.Proofs.Ytpdnhaaedibbaaa
open Go.ChangeShapes Go.WideShapes Go.ChangeAt Go.RowKit Go.Joins
set_option linter.unusedVariables false

theorem good_parts {l p : List UInt8} (h : goodB l = true) (hp : p ∈ parts l) : partB p = true := by
  simp only [goodB, Bool.and_eq_true, List.all_eq_true] at h
  exact h.2 p hp
theorem part_no47 {p : List UInt8} (h : partB p = true) : 47 ∉ p := by
  intro hm
  simp only [partB, signsB, Bool.and_eq_true, List.all_eq_true] at h
  exact absurd (h.2 47 hm) (by decide)
theorem part_ne {p : List UInt8} (h : partB p = true) : p ≠ [] := by
  intro e; subst e; exact absurd h (by decide)
theorem clean_nodot {wh : Bool} {ps : List (List UInt8)} : [46] ∉ clean wh ps := by
  have : ∀ (l st : List (List UInt8)), [46] ∉ st → [46] ∉ l.foldl (clStep wh) st := by
    intro l
    induction l with
    | nil => intro st h; exact h
    | cons p l ih =>
      intro st h
      refine ih _ ?_
      unfold clStep
      repeat' split
      · exact h
      · exact fun hm => h ((List.dropLast_sublist _).subset hm)
      · exact h
      · subst_vars; simpa using h
      · rename_i h1 _
        intro hm
        rcases List.mem_append.1 hm with h2 | h2
        · exact h h2
        · simp at h2; exact h1 h2.symm
  exact this ps [] (by simp)
theorem clean_name {l p : List UInt8} (h : goodB l = true) (hp : p ∈ cleanOf l) (hd : p ≠ [46, 46]) : nameB p = true := by
  have h1 : p ≠ [46] := fun e => clean_nodot (e ▸ hp)
  have h2 := good_parts h (clean_mem hp)
  simp [nameB, h2, h1, hd]

theorem slashed_nil {qs : List (List UInt8)} : slashed qs = [] ↔ qs = [] := by
  cases qs <;> simp [slashed]
theorem root_path (qs : List (List UInt8)) : rootOr (slashed qs) = pathL qs := by
  unfold rootOr pathL
  by_cases h : qs = []
  · subst h; rfl
  · rw [if_neg h, if_neg (fun e => h (slashed_nil.1 e))]
theorem drop_snoc {qs : List (List UInt8)} (h : qs ≠ []) (p : List UInt8) : (slashed (qs ++ [p])).drop 1 = (slashed qs).drop 1 ++ 47 :: p := by
  rw [slashed_snoc]
  cases hq : slashed qs with
  | nil => exact absurd (slashed_nil.1 hq) h
  | cons c r => simp
theorem drop_ne {qs : List (List UInt8)} (h : qs ≠ []) (hp : ∀ p ∈ qs, p ≠ []) : (slashed qs).drop 1 ≠ [] := by
  rw [← join_drop h]; exact join_ne h hp

theorem okB_good {l : List UInt8} (h : goodB l = false) : okB l = false := by simp [okB, h]
theorem okB_nil {l : List UInt8} (h : baseL l = []) : okB l = false := by simp [okB, h]
theorem ok_no {l : List UInt8} (h : okB l = false) : dirT l = [] ∧ baseT l = [] := by simp [dirT, baseT, h]
theorem ok_yes {l : List UInt8} (h : okB l = true) : dirT l = dirL l ∧ baseT l = baseL l := by simp [dirT, baseT, h]
theorem baseL_snoc {l : List UInt8} {qs : List (List UInt8)} {p : List UInt8} (h : cleanOf l = qs ++ [p]) : baseL l = if p = [46, 46] then [] else p := by
  unfold baseL; rw [h]; simp

theorem dirAndBase_any (s : ByteArray) (w : World) (hs : s.size ≤ 1073741824) : Calls Try.prog 55 #[.string s] w fun e w' =>
    e = .returned (.tuple #[.string (bs (dirT s.data.toList)), .string (bs (baseT s.data.toList)), .bool (okB s.data.toList)]) ∧ Below w.heap.size w w' := by
  obtain ⟨l, hl⟩ : ∃ l, l = s.data.toList := ⟨_, rfl⟩
  rw [← hl]
  have no : okB l = false → (∃ t, cT l = t ∧ 47 ∉ t ∧ nameB t = false) ∨ (∃ D p, cT l = D ++ 47 :: p ∧ 47 ∉ p ∧ nameB p = false) → Calls Try.prog 55 #[.string s] w fun e w' =>
      e = .returned (.tuple #[.string (bs (dirT l)), .string (bs (baseT l)), .bool (okB l)]) ∧ Below w.heap.size w w' := by
    intro ho hc
    rw [(ok_no ho).1, (ok_no ho).2, ho]
    rw [hl] at hc
    rcases hc with ⟨t, h1, h2, h3⟩ | ⟨D, p, h1, h2, h3⟩
    · exact dirAndBase_B_no s w hs t h1 h2 h3
    · exact dirAndBase_A_no s w hs D p h1 h2 h3
  by_cases hg : goodB l = true
  · have hc := cT_yes hg
    rcases snoc_of (cleanOf l) with h0 | ⟨qs, p, h0⟩
    · have hb : okB l = false := okB_nil (by simp [baseL, h0])
      by_cases hw : wholeB l = true
      · exact no hb (.inr ⟨[], [], by rw [hc]; simp [cleanT, hw, h0, pathL], by simp, by decide⟩)
      · have hw' : wholeB l = false := by simpa using hw
        exact no hb (.inl ⟨[46], by rw [hc, cleanT_none hw' h0], by decide, by decide⟩)
    · have hmem : p ∈ cleanOf l := by rw [h0]; simp
      have hpart := good_parts hg (clean_mem hmem)
      have h47 := part_no47 hpart
      have hne : ∀ q ∈ qs, q ≠ [] := fun q hq => part_ne (good_parts hg (clean_mem (show q ∈ cleanOf l by rw [h0]; simp [hq])))
      have hn0 : qs ++ [p] ≠ [] := by simp
      by_cases hd : p = [46, 46]
      · have hb : okB l = false := okB_nil (by rw [baseL_snoc h0, if_pos hd])
        have hnm : nameB p = false := by subst hd; decide
        by_cases hw : wholeB l = true
        · exact no hb (.inr ⟨slashed qs, p, by rw [hc]; unfold cleanT pathL; rw [if_pos hw, h0, if_neg hn0, slashed_snoc], h47, hnm⟩)
        · have hw' : wholeB l = false := by simpa using hw
          have hct : cT l = (slashed (qs ++ [p])).drop 1 := by rw [hc]; unfold cleanT; rw [hw', if_neg (by simp), h0, if_neg hn0]
          by_cases hq : qs = []
          · subst hq
            exact no hb (.inl ⟨p, by rw [hct]; simp [slashed], h47, hnm⟩)
          · exact no hb (.inr ⟨(slashed qs).drop 1, p, by rw [hct, drop_snoc hq], h47, hnm⟩)
      · have hnm := clean_name hg hmem hd
        have hbl : baseL l = p := by rw [baseL_snoc h0, if_neg hd]
        have hb : okB l = true := by
          have := part_ne hpart
          cases p with
          | nil => exact absurd rfl this
          | cons c r => simp [okB, hg, hbl]
        rw [(ok_yes hb).1, (ok_yes hb).2, hb, hbl]
        by_cases hw : wholeB l = true
        · have hct : cT s.data.toList = slashed qs ++ 47 :: p := by rw [← hl, hc]; unfold cleanT pathL; rw [if_pos hw, h0, if_neg hn0, slashed_snoc]
          have hdl : dirL l = rootOr (slashed qs) := by unfold dirL; rw [if_pos hw, h0, List.dropLast_concat, root_path]
          rw [hdl]
          exact dirAndBase_A_yes s w hs _ p hct h47 hnm
        · have hw' : wholeB l = false := by simpa using hw
          have hct : cT s.data.toList = (slashed (qs ++ [p])).drop 1 := by rw [← hl, hc]; unfold cleanT; rw [hw', if_neg (by simp), h0, if_neg hn0]
          by_cases hq : qs = []
          · subst hq
            have hdl : dirL l = [46] := by unfold dirL; rw [hw', h0]; rfl
            rw [hdl]
            exact dirAndBase_B_yes s w hs p (by rw [hct]; simp [slashed]) h47 hnm
          · have hdl : dirL l = rootOr ((slashed qs).drop 1) := by
              rw [rootOr_ne (drop_ne hq hne)]
              unfold dirL
              have : (qs ++ [p]).length ≠ 1 := by have := List.length_pos_iff.2 hq; simp; omega
              rw [hw', if_neg (by simp), h0, if_neg this, List.dropLast_concat]
            rw [hdl]
            exact dirAndBase_A_yes s w hs _ p (by rw [hct, drop_snoc hq]) h47 hnm
  · have hg' : goodB l = false := by simpa using hg
    exact no (okB_good hg') (.inl ⟨[], cT_no hg', by simp, by decide⟩)

set_option maxHeartbeats 400000 in
theorem baseOf_any (s : ByteArray) (w : World) (hs : s.size ≤ 1073741824) : Calls Try.prog 19 #[.string s] w fun e w' => e = .returned (.tuple #[.string (bs (baseT s.data.toList)), .bool (okB s.data.toList)]) ∧ Below w.heap.size w w' := by
  go_enter Try.func19, Try.ntmps19
  go_wp2_with (go_at_call 55; refine (dirAndBase_any _ _ hs).mono ?_; rintro e w' ⟨rfl, hb⟩)
  go_ret2
  exact ⟨rfl, hb⟩
set_option maxHeartbeats 400000 in
theorem dirOf_any (s : ByteArray) (w : World) (hs : s.size ≤ 1073741824) : Calls Try.prog 21 #[.string s] w fun e w' => e = .returned (.tuple #[.string (bs (dirT s.data.toList)), .bool (okB s.data.toList)]) ∧ Below w.heap.size w w' := by
  go_enter Try.func21, Try.ntmps21
  go_wp2_with (go_at_call 55; refine (dirAndBase_any _ _ hs).mono ?_; rintro e w' ⟨rfl, hb⟩)
  go_ret2
  exact ⟨rfl, hb⟩
end Go.Proofs.Ytpdnhaaedibbaaa
