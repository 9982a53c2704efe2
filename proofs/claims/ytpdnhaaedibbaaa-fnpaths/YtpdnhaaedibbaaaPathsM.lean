/-
  Plain facts on clean paths: a clean path is a path, cleaning it again leaves it, its parts are the clean parts; the directory and the last name join to it; what lies within what.
  Conditions: as each states.
-/
import Derived.Test.YtpdnhaaedibbaaaPathC
import Derived.Test.YtpdnhaaedibbaaaFromC
import Derived.Test.YtpdnhaaedibbaaaPartsC
namespace Go.Proofs.Ytpdnhaaedibbaaa
open Go
set_option linter.unusedVariables false

/-! ### Lengths -/
theorem slashed_full_snoc (ps : List (List UInt8)) (p : List UInt8) : (slashed (full (ps ++ [p]))).length = (slashed (full ps)).length + (if p = [] then 0 else p.length + 1) := by
  rw [full_app, slashed_app, List.length_append]
  by_cases h : p = []
  · subst h; simp [full, slashed]
  · simp [full, h, slashed]
def whN (l : List UInt8) : Nat := if wholeB l then 1 else 0
theorem parts_len (l : List UInt8) : (slashed (parts l)).length + whN l ≤ l.length + (if (sp l).2 = [] then 0 else 1) := by
  induction l using snoc_ind with
  | h0 => simp [parts, sp, full, slashed, whN, wholeB]
  | hs l c ih =>
    unfold parts at ih ⊢
    rw [slashed_full_snoc] at ih
    have hw : whN (l ++ [c]) ≤ whN l + (if l = [] ∧ c = 47 then 1 else 0) := by
      unfold whN wholeB
      cases l with
      | nil => by_cases h : c = 47 <;> simp [h]
      | cons d r => simp
    have hw2 : ¬ (l = [] ∧ c = 47) → whN (l ++ [c]) ≤ whN l := fun h => by rw [if_neg h] at hw; omega
    rw [sp_snoc, spStep]
    by_cases h47 : c = 47
    · rw [if_pos h47]
      simp only
      rw [slashed_full_snoc, slashed_full_snoc]
      simp only [if_true, List.length_append, List.length_cons, List.length_nil]
      by_cases hl : l = []
      · subst hl
        have : whN ([] ++ [c]) ≤ 1 := by unfold whN; split <;> omega
        simp [sp, full, slashed] at ih ⊢
        simpa using this
      · have := hw2 (fun h => hl h.1)
        by_cases hc : (sp l).2 = []
        · rw [if_pos hc] at ih ⊢; rw [if_pos hc] at ih; omega
        · rw [if_neg hc] at ih ⊢; rw [if_neg hc] at ih; omega
    · rw [if_neg h47]
      simp only
      rw [slashed_full_snoc]
      have := hw2 (fun h => h47 h.2)
      have hne : (sp l).2 ++ [c] ≠ [] := by simp
      rw [if_neg hne, if_neg hne]
      simp only [List.length_append, List.length_cons, List.length_nil]
      by_cases hc : (sp l).2 = []
      · rw [if_pos hc, if_pos hc] at ih
        have : (sp l).2.length = 0 := by rw [hc]; rfl
        omega
      · rw [if_neg hc, if_neg hc] at ih; omega
theorem slashed_sub {ps qs : List (List UInt8)} (h : ps.Sublist qs) : (slashed ps).length ≤ (slashed qs).length := by
  induction h with
  | slnil => exact Nat.le_refl _
  | cons a _ ih => rw [slashed_cons]; simp; omega
  | cons_cons a _ ih => rw [slashed_cons, slashed_cons]; simp; omega
theorem clean_sub (wh : Bool) (ps : List (List UInt8)) : (clean wh ps).Sublist ps := by
  induction ps using lists_ind with
  | h0 => exact List.Sublist.refl _
  | hs l p ih =>
    rw [clean_snoc]
    unfold clStep
    repeat' split
    · exact ih.trans (List.sublist_append_left _ _)
    · exact ((List.dropLast_sublist _).trans ih).trans (List.sublist_append_left _ _)
    · exact ih.trans (List.sublist_append_left _ _)
    · exact ih.append (List.Sublist.refl _)
    · exact ih.append (List.Sublist.refl _)
theorem cleanT_len {l : List UInt8} (h : l ≠ []) : 1 ≤ (cleanT l).length ∧ (cleanT l).length ≤ l.length ∨ (cleanT l).length = 0 := by
  have h1 := parts_len l
  have h2 := slashed_sub (clean_sub (wholeB l) (parts l))
  have h3 := List.length_pos_iff.2 h
  have e : clean (wholeB l) (parts l) = cleanOf l := rfl
  rw [e] at h2
  unfold cleanT
  by_cases hw : wholeB l = true
  · have : whN l = 1 := by unfold whN; rw [if_pos hw]
    rw [if_pos hw]
    unfold pathL
    split
    · left; simp; omega
    · rename_i hn
      left
      have hpos := List.length_pos_iff.2 (fun e => hn (slashed_nil.1 e) : slashed (cleanOf l) ≠ [])
      split at h1 <;> omega
  · rw [if_neg hw]
    split
    · left; simp; omega
    · rename_i hn
      rw [List.length_drop]
      split at h1 <;> omega

/-! ### A clean path, cleaned again -/
theorem clean_again (wh : Bool) (ps : List (List UInt8)) : clean wh (clean wh ps) = clean wh ps := by
  induction ps using lists_ind with
  | h0 => rfl
  | hs l p ih =>
    rw [clean_snoc]
    obtain ⟨st, hst⟩ : ∃ st, st = clean wh l := ⟨_, rfl⟩
    have hnd : [46] ∉ st := by rw [hst]; exact clean_nodot
    rw [← hst] at ih ⊢
    by_cases h1 : p = [46]
    · subst h1; rw [cl_dot, ih]
    · by_cases h2 : p = [46, 46]
      · subst h2
        rcases snoc_of st with rfl | ⟨ds, d, rfl⟩
        · rw [cl_none]; cases wh <;> rfl
        · by_cases hd : d = [46, 46]
          · subst hd
            rw [cl_stay]
            cases wh
            · simp only [Bool.false_eq_true, if_false]
              rw [clean_snoc, ih, cl_stay]; rfl
            · simp only [if_true]
              exact ih
          · rw [cl_pop _ _ hd]
            have hdd : d ≠ [46] := fun e => hnd (by simp [e])
            have h3 := ih
            rw [clean_snoc, cl_name _ _ hdd hd] at h3
            exact List.append_cancel_right h3
      · rw [cl_name _ _ h1 h2, clean_snoc, ih, cl_name _ _ h1 h2]
theorem parts_word {p : List UInt8} (h47 : 47 ∉ p) (h0 : p ≠ []) : parts p = [p] := by
  have e := sp_app [] p (fun c hc e => h47 (e ▸ hc))
  simp only [List.nil_append] at e
  unfold parts
  rw [e]
  simp [sp, full, h0]
theorem parts_words {ps : List (List UInt8)} (h47 : ∀ p ∈ ps, 47 ∉ p) (h0 : ∀ p ∈ ps, p ≠ []) (hn : ps ≠ []) : parts ((slashed ps).drop 1) = ps := by
  induction ps using lists_ind with
  | h0 => exact absurd rfl hn
  | hs l p ih =>
    by_cases hl : l = []
    · subst hl
      have : (slashed ([] ++ [p])).drop 1 = p := by simp [slashed]
      rw [this, parts_word (h47 p (by simp)) (h0 p (by simp))]; rfl
    · rw [drop_snoc hl, parts_snoc _ _ (h47 p (by simp)) (h0 p (by simp)), ih (fun q hq => h47 q (by simp [hq])) (fun q hq => h0 q (by simp [hq])) hl]

section
variable {l : List UInt8} (hg : goodB l = true)
include hg
theorem clean_parts : ∀ p ∈ cleanOf l, partB p = true := fun p hp => good_parts hg (clean_mem hp)
theorem good_ne : l ≠ [] := by
  intro e; subst e; exact absurd hg (by decide)
theorem cleanT_whole' : wholeB (cleanT l) = wholeB l := by
  unfold cleanT
  by_cases hw : wholeB l = true
  · rw [if_pos hw, hw, ← join_eq]; rfl
  · have hw' : wholeB l = false := by simpa using hw
    rw [hw', if_neg (by simp)]
    split
    · rfl
    · rename_i hn
      cases hc : cleanOf l with
      | nil => exact absurd hc hn
      | cons p r =>
        have hp := clean_parts hg p (by rw [hc]; simp)
        rw [slashed_cons]
        simp only [List.drop_succ_cons, List.drop_zero]
        cases p with
        | nil => exact absurd rfl (part_ne hp)
        | cons c q =>
          have : c ≠ 47 := fun e => part_no47 hp (by simp [e])
          simp [wholeB, this]
theorem cleanT_parts (h : wholeB l = true ∨ cleanOf l ≠ []) : parts (cleanT l) = cleanOf l := by
  have h47 : ∀ p ∈ cleanOf l, 47 ∉ p := fun p hp => part_no47 (clean_parts hg p hp)
  have h0 : ∀ p ∈ cleanOf l, p ≠ [] := fun p hp => part_ne (clean_parts hg p hp)
  unfold cleanT
  by_cases hw : wholeB l = true
  · rw [if_pos hw, parts_path h47 h0]
  · have hn : cleanOf l ≠ [] := h.resolve_left hw
    rw [if_neg hw, if_neg hn, parts_words h47 h0 hn]
theorem cleanOf_again : cleanOf (cleanT l) = cleanOf l := by
  by_cases h : wholeB l = true ∨ cleanOf l ≠ []
  · have e : cleanOf (cleanT l) = clean (wholeB (cleanT l)) (parts (cleanT l)) := rfl
    rw [e, cleanT_whole' hg, cleanT_parts hg h]
    exact clean_again _ _
  · have hw : wholeB l = false := by
      cases hx : wholeB l with
      | false => rfl
      | true => exact absurd (.inl hx) h
    have hn : cleanOf l = [] := Classical.byContradiction fun hx => h (.inr hx)
    rw [cleanT_none hw hn, hn]
    rfl
theorem cleanT_ne : cleanT l ≠ [] := by
  unfold cleanT
  split
  · rw [← join_eq]; simp
  · split
    · simp
    · rename_i hn
      exact drop_ne hn (fun p hp => part_ne (clean_parts hg p hp))
theorem cleanT_le : (cleanT l).length ≤ 60 := by
  have h1 : 1 ≤ l.length ∧ l.length ≤ 60 := by simp [goodB] at hg; exact hg.1
  rcases cleanT_len (good_ne hg) with h | h
  · omega
  · omega
theorem cleanT_good : goodB (cleanT l) = true := by
  have h1 := List.length_pos_iff.2 (cleanT_ne hg)
  have h2 := cleanT_le hg
  have h3 : (parts (cleanT l)).all partB = true := by
    by_cases h : wholeB l = true ∨ cleanOf l ≠ []
    · rw [cleanT_parts hg h]
      exact List.all_eq_true.2 (clean_parts hg)
    · have hw : wholeB l = false := by
        cases hx : wholeB l with
        | false => rfl
        | true => exact absurd (.inl hx) h
      have hn : cleanOf l = [] := Classical.byContradiction fun hx => h (.inr hx)
      rw [cleanT_none hw hn]; decide
  simp only [goodB, h3, Bool.and_true, decide_eq_true_eq]
  omega
theorem cleanT_again : cleanT (cleanT l) = cleanT l := by
  have h1 := cleanOf_again hg
  have h2 := cleanT_whole' hg
  unfold cleanT at h1 h2 ⊢
  rw [h1, h2]
theorem cT_again : cT (cleanT l) = cleanT l := by rw [cT_yes (cleanT_good hg), cleanT_again hg]
end

/-! ### Whole paths have no points -/
theorem clean_up {ps : List (List UInt8)} : [46, 46] ∉ clean true ps := by
  induction ps using lists_ind with
  | h0 => simp [clean]
  | hs l p ih =>
    rw [clean_snoc]
    unfold clStep
    repeat' split
    · exact ih
    · exact fun hm => ih ((List.dropLast_sublist _).subset hm)
    · exact ih
    · rename_i h; exact absurd rfl h
    · rename_i _ h2
      intro hm
      rcases List.mem_append.1 hm with h | h
      · exact ih h
      · simp at h; exact h2 h.symm
theorem whole_names {l : List UInt8} (hg : goodB l = true) (hw : wholeB l = true) : (cleanOf l).all nameB = true := by
  refine List.all_eq_true.2 fun p hp => clean_name hg hp (fun e => ?_)
  subst e
  unfold cleanOf at hp
  rw [hw] at hp
  exact clean_up hp
theorem whole_of {l : List UInt8} (hg : goodB l = true) (hw : wholeB l = true) (h20 : (cleanOf l).length ≤ 20) : ofOk (cleanOf l) = true ∧ ofT (cleanOf l) = cleanT l := by
  have e : cleanT l = pathL (cleanOf l) := by unfold cleanT; rw [if_pos hw]
  obtain ⟨h1, h2⟩ := ofOk_yes (whole_names hg hw) h20 (by rw [← e]; exact cleanT_le hg)
  exact ⟨h1, by rw [h2, e]⟩

/-! ### The directory and the last name -/
theorem base_snoc {l : List UInt8} (h : okB l = true) : ∃ qs p, cleanOf l = qs ++ [p] ∧ baseL l = p ∧ p ≠ [46, 46] ∧ goodB l = true := by
  simp only [okB, Bool.and_eq_true] at h
  rcases snoc_of (cleanOf l) with h0 | ⟨qs, p, h0⟩
  · exact absurd h.2 (by simp [baseL, h0])
  · refine ⟨qs, p, h0, ?_, ?_, h.1⟩
    · rw [baseL_snoc h0]
      split
      · rename_i hd
        have h2 := h.2
        rw [baseL_snoc h0, if_pos hd] at h2
        simp at h2
      · rfl
    · intro hd
      have h2 := h.2
      rw [baseL_snoc h0, if_pos hd] at h2
      simp at h2
theorem good_short {l : List UInt8} {ps : List (List UInt8)} (hp : parts l = ps) (ha : ∀ p ∈ ps, partB p = true) (h1 : 1 ≤ l.length) (h2 : l.length ≤ 60) : goodB l = true := by
  simp only [goodB, hp, List.all_eq_true.2 ha, Bool.and_true, decide_eq_true_eq]
  omega
theorem joins_back {l : List UInt8} (h : okB l = true) : nameB (baseL l) = true ∧ okJ (dirL l) (baseL l) = true ∧ joinT (dirL l) (baseL l) = cleanT l := by
  obtain ⟨qs, p, h0, hb, hd, hg⟩ := base_snoc h
  rw [hb]
  have hall := clean_parts hg
  rw [h0] at hall
  have hp : partB p = true := hall p (by simp)
  have hnm : nameB p = true := clean_name hg (by rw [h0]; simp) hd
  have h47 := part_no47 hp
  have hpn := part_ne hp
  have hq47 : ∀ q ∈ qs, 47 ∉ q := fun q hq => part_no47 (hall q (by simp [hq]))
  have hq0 : ∀ q ∈ qs, q ≠ [] := fun q hq => part_ne (hall q (by simp [hq]))
  have hpl : 1 ≤ p.length ∧ p.length ≤ 8 := by simp [partB] at hp; exact hp.1
  have hgp : goodB p = true := good_short (parts_word h47 hpn) (by simpa using hp) (by omega) (by omega)
  have hwp : wholeB p = false := by
    cases p with
    | nil => exact absurd rfl hpn
    | cons c r =>
      have : c ≠ 47 := fun e => h47 (by simp [e])
      simp [wholeB, this]
  have hdot : p ≠ [46] := by
    intro e; subst e; exact absurd hnm (by decide)
  have key : ∀ d, goodB d = true → goodB (d ++ 47 :: p) = true → cleanT (d ++ 47 :: p) = cleanT l → okJ d p = true ∧ joinT d p = cleanT l := by
    intro d h1 h2 h3
    have e : joinIn d p = d ++ 47 :: p := by unfold joinIn; rw [hwp]; rfl
    have ho : okJ d p = true := by simp [okJ, h1, hgp, e, h2]
    exact ⟨ho, by unfold joinT; rw [if_pos ho, e, h3]⟩
  have hle := cleanT_le hg
  refine ⟨hnm, ?_⟩
  have hn0 : qs ++ [p] ≠ [] := by simp
  by_cases hw : wholeB l = true
  · have hct : cleanT l = slashed qs ++ 47 :: p := by unfold cleanT pathL; rw [if_pos hw, h0, if_neg hn0, slashed_snoc]
    have hdl : dirL l = pathL qs := by unfold dirL; rw [if_pos hw, h0, List.dropLast_concat]
    rw [hdl]
    by_cases hq : qs = []
    · subst hq
      have e1 : cleanT l = 47 :: p := by rw [hct]; simp [slashed]
      have hps : parts (pathL [] ++ 47 :: p) = [p] := by
        rw [parts_snoc _ _ h47 hpn]; rfl
      refine key (pathL []) (by decide) (good_short hps (by simpa using hp) (by simp; omega) (by simp [pathL]; omega)) ?_
      have hwh : wholeB (pathL [] ++ 47 :: p) = true := rfl
      have hcl : cleanOf (pathL [] ++ 47 :: p) = [p] := by
        unfold cleanOf; rw [hps, hwh]
        show clStep true [] p = [p]
        rw [cl_name _ _ hdot hd]; rfl
      unfold cleanT at e1 ⊢
      rw [if_pos hwh, hcl]
      rw [if_pos hw] at e1
      rw [if_pos hw, e1]
      simp [pathL, slashed]
    · have e2 : pathL qs = slashed qs := by unfold pathL; rw [if_neg hq]
      have hgd : goodB (pathL qs) = true := by
        refine good_short (parts_path hq47 hq0) (fun q hm => hall q (by simp [hm])) (by rw [← join_eq]; simp) ?_
        rw [e2]; rw [hct] at hle; simp at hle; omega
      refine key _ hgd ?_ ?_
      · rw [e2, ← hct]; exact cleanT_good hg
      · rw [e2, ← hct]; exact cleanT_again hg
  · have hw' : wholeB l = false := by simpa using hw
    by_cases hq : qs = []
    · subst hq
      have hdl : dirL l = [46] := by unfold dirL; rw [hw', h0]; rfl
      have e1 : cleanT l = p := by unfold cleanT; rw [hw', if_neg (by simp), h0, if_neg hn0]; simp [slashed]
      rw [hdl]
      have hps : parts ([46] ++ 47 :: p) = [[46], p] := by
        rw [parts_snoc _ _ h47 hpn]; rfl
      refine key [46] (by decide) (good_short hps (fun q hm => ?_) (by simp) (by simp; omega)) ?_
      · simp at hm
        rcases hm with rfl | rfl
        · decide
        · exact hp
      · have hwh : wholeB ([46] ++ 47 :: p) = false := rfl
        have hcl : cleanOf ([46] ++ 47 :: p) = [p] := by
          unfold cleanOf; rw [hps, hwh]
          show clStep false (clStep false [] [46]) p = [p]
          rw [cl_dot, cl_name _ _ hdot hd]; rfl
        rw [e1]
        unfold cleanT
        rw [hwh, if_neg (by simp), hcl, if_neg (by simp)]
        simp [slashed]
    · have hct : cleanT l = (slashed qs).drop 1 ++ 47 :: p := by
        unfold cleanT; rw [hw', if_neg (by simp), h0, if_neg hn0, drop_snoc hq]
      have hdl : dirL l = (slashed qs).drop 1 := by
        unfold dirL
        have : (qs ++ [p]).length ≠ 1 := by have := List.length_pos_iff.2 hq; simp; omega
        rw [hw', if_neg (by simp), h0, if_neg this, List.dropLast_concat]
      rw [hdl]
      have hgd : goodB ((slashed qs).drop 1) = true := by
        refine good_short (parts_words hq47 hq0 hq) (fun q hm => hall q (by simp [hm])) (List.length_pos_iff.2 (drop_ne hq hq0)) ?_
        rw [hct] at hle; simp at hle ⊢; omega
      refine key _ hgd ?_ ?_
      · rw [← hct]; exact cleanT_good hg
      · rw [← hct]; exact cleanT_again hg
end Go.Proofs.Ytpdnhaaedibbaaa
