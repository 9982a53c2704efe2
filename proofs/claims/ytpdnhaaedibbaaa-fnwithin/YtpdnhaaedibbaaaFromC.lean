/-
  What lies within a whole path, as texts and as lists of parts; contracts of impl.isWholePath, impl.FromTo, impl.IsWithin.
  Conditions: texts of at most 2^20 bytes.
-/
import Derived.Test.YtpdnhaaedibbaaaBaseD
namespace Go.Proofs.Ytpdnhaaedibbaaa
open Go.ChangeShapes Go.WideShapes Go.ChangeAt Go.RowKit Go.Joins
set_option linter.unusedVariables false

/-- Nothing, or something that begins with a slash. -/
def Sl (X : List UInt8) : Prop := X = [] ∨ ∃ Y, X = 47 :: Y
theorem sl_slashed (ps : List (List UInt8)) : Sl (slashed ps) := by
  cases ps with
  | nil => exact .inl rfl
  | cons p r => exact .inr ⟨p ++ slashed r, by simp [slashed]⟩
theorem word_prefix {p q X Y : List UInt8} (hp : 47 ∉ p) (hq : 47 ∉ q) (hY : Sl Y) (h : p ++ 47 :: X <+: q ++ Y) : p = q ∧ 47 :: X <+: Y := by
  induction p generalizing q with
  | nil =>
    cases q with
    | nil => exact ⟨rfl, by simpa using h⟩
    | cons d q =>
      have : (47 : UInt8) = d := by
        have := List.cons_prefix_cons.1 (show 47 :: X <+: d :: (q ++ Y) by simpa using h)
        exact this.1
      exact absurd (by simp [this]) hq
  | cons c p ih =>
    cases q with
    | nil =>
      rcases hY with rfl | ⟨Z, rfl⟩
      · have := h.length_le; simp at this
      · have := List.cons_prefix_cons.1 (show c :: (p ++ 47 :: X) <+: 47 :: Z by simpa using h)
        exact absurd (by simp [this.1]) hp
    | cons d q =>
      have h1 := List.cons_prefix_cons.1 (show c :: (p ++ 47 :: X) <+: d :: (q ++ Y) by simpa using h)
      obtain ⟨e, h2⟩ := ih (fun hm => hp (by simp [hm])) (fun hm => hq (by simp [hm])) h1.2
      exact ⟨by rw [h1.1, e], h2⟩
theorem slashed_cons (p : List UInt8) (r : List (List UInt8)) : slashed (p :: r) = 47 :: (p ++ slashed r) := by simp [slashed]
theorem slashed_prefix {ps qs : List (List UInt8)} (hp : ∀ p ∈ ps, 47 ∉ p) (hq : ∀ q ∈ qs, 47 ∉ q) : slashed ps ++ [47] <+: slashed qs ↔ ∃ r, r ≠ [] ∧ qs = ps ++ r := by
  induction ps generalizing qs with
  | nil =>
    constructor
    · intro h
      refine ⟨qs, ?_, rfl⟩
      intro e; subst e
      have := h.length_le; simp [slashed] at this
    · rintro ⟨r, hr, e⟩
      have e1 : qs = r := by simpa using e
      subst e1
      cases qs with
      | nil => exact absurd rfl hr
      | cons p r => exact ⟨p ++ slashed r, by simp [slashed]⟩
  | cons p ps ih =>
    cases qs with
    | nil =>
      constructor
      · intro h; have := h.length_le; simp [slashed] at this
      · rintro ⟨r, hr, e⟩; simp at e
    | cons q qs =>
      have ih' := ih (fun x hx => hp x (by simp [hx])) (qs := qs) (fun x hx => hq x (by simp [hx]))
      rw [slashed_cons, slashed_cons]
      constructor
      · intro h
        have h1 := (List.cons_prefix_cons.1 (show 47 :: (p ++ (slashed ps ++ [47])) <+: 47 :: (q ++ slashed qs) by simpa using h)).2
        obtain ⟨Z, hZ⟩ : ∃ Z, slashed ps ++ [47] = 47 :: Z := by
          rcases sl_slashed ps with e | ⟨Y, e⟩
          · exact ⟨[], by rw [e]; rfl⟩
          · exact ⟨Y ++ [47], by rw [e]; rfl⟩
        rw [hZ] at h1
        obtain ⟨e, h2⟩ := word_prefix (hp p (by simp)) (hq q (by simp)) (sl_slashed qs) h1
        rw [← hZ] at h2
        obtain ⟨r, hr, hqs⟩ := ih'.1 h2
        exact ⟨r, hr, by rw [e, hqs]; rfl⟩
      · rintro ⟨r, hr, e⟩
        simp only [List.cons_append, List.cons.injEq] at e
        obtain ⟨rfl, e2⟩ := e
        have h2 := ih'.2 ⟨r, hr, e2⟩
        obtain ⟨t, ht⟩ := h2
        exact ⟨t, by rw [← ht]; simp⟩
theorem slashed_drop (ps r : List (List UInt8)) (hr : r ≠ []) : (slashed (ps ++ r)).drop (slashed ps ++ [47]).length = (slashed r).drop 1 := by
  rw [slashed_app, List.length_append, ← List.drop_drop, List.drop_left]
  rfl
theorem word_eq {p q X Y : List UInt8} (hp : 47 ∉ p) (hq : 47 ∉ q) (hX : Sl X) (hY : Sl Y) (h : p ++ X = q ++ Y) : p = q ∧ X = Y := by
  induction p generalizing q with
  | nil =>
    cases q with
    | nil => exact ⟨rfl, by simpa using h⟩
    | cons d q =>
      rcases hX with rfl | ⟨Z, rfl⟩
      · simp at h
      · simp at h; exact absurd (by simp [h.1]) hq
  | cons c p ih =>
    cases q with
    | nil =>
      rcases hY with rfl | ⟨Z, rfl⟩
      · simp at h
      · simp at h; exact absurd (by simp [h.1]) hp
    | cons d q =>
      simp only [List.cons_append, List.cons.injEq] at h
      obtain ⟨e, h2⟩ := ih (fun hm => hp (by simp [hm])) (fun hm => hq (by simp [hm])) h.2
      exact ⟨by rw [h.1, e], h2⟩
theorem slashed_inj {ps qs : List (List UInt8)} (hp : ∀ p ∈ ps, 47 ∉ p) (hq : ∀ q ∈ qs, 47 ∉ q) (h : slashed ps = slashed qs) : ps = qs := by
  induction ps generalizing qs with
  | nil => exact (slashed_nil.1 h.symm).symm
  | cons p ps ih =>
    cases qs with
    | nil => simp [slashed] at h
    | cons q qs =>
      rw [slashed_cons, slashed_cons] at h
      simp only [List.cons.injEq, true_and] at h
      obtain ⟨e, h2⟩ := word_eq (hp p (by simp)) (hq q (by simp)) (sl_slashed ps) (sl_slashed qs) h
      rw [e, ih (fun x hx => hp x (by simp [hx])) (fun x hx => hq x (by simp [hx])) h2]
theorem pathL_inj {ps qs : List (List UInt8)} (hp : ∀ p ∈ ps, partB p = true) (hq : ∀ q ∈ qs, partB q = true) (h : pathL ps = pathL qs) : ps = qs := by
  have two : ∀ {x : List (List UInt8)}, (∀ p ∈ x, partB p = true) → x ≠ [] → slashed x ≠ [47] := by
    intro x hx hn e
    cases x with
    | nil => exact hn rfl
    | cons p r =>
      rw [slashed_cons] at e
      simp at e
      exact part_ne (hx p (by simp)) e.1
  unfold pathL at h
  by_cases h1 : ps = []
  · by_cases h2 : qs = []
    · rw [h1, h2]
    · rw [if_pos h1, if_neg h2] at h
      exact absurd h.symm (two hq h2)
  · by_cases h2 : qs = []
    · rw [if_neg h1, if_pos h2] at h
      exact absurd h (two hp h1)
    · rw [if_neg h1, if_neg h2] at h
      exact slashed_inj (fun p hm => part_no47 (hp p hm)) (fun q hm => part_no47 (hq q hm)) h
theorem trim_path {ps : List (List UInt8)} (hp : ∀ p ∈ ps, partB p = true) : Lib.trimSuffix (pathL ps) [47] = slashed ps := by
  unfold Lib.trimSuffix Lib.hasSuffix
  rcases snoc_of ps with rfl | ⟨qs, p, rfl⟩
  · rfl
  · have h0 : qs ++ [p] ≠ [] := by simp
    have e : pathL (qs ++ [p]) = slashed (qs ++ [p]) := by unfold pathL; rw [if_neg h0]
    rw [e]
    have hpp := hp p (by simp)
    have hns : ([47] : List UInt8).isSuffixOf (slashed (qs ++ [p])) = false := by
      rw [Bool.eq_false_iff]
      intro hs
      have hs' := List.isSuffixOf_iff_suffix.1 hs
      rw [slashed_snoc] at hs'
      rcases snoc_of p with rfl | ⟨p', c, rfl⟩
      · exact part_ne hpp rfl
      · obtain ⟨t, ht⟩ := hs'
        have e1 : t ++ [47] = (slashed qs ++ 47 :: p') ++ [c] := by rw [ht]; simp
        have e2 := List.append_inj_right' e1 rfl
        simp at e2
        exact part_no47 hpp (by simp [← e2])
    rw [hns]
    rfl

/-- A whole path. -/
def wgB (l : List UInt8) : Bool := wholeB l && goodB l
def okF (a b : List UInt8) : Bool := (wgB a && wgB b) && (cleanOf a).isPrefixOf (cleanOf b)
def fromL (a b : List UInt8) : List UInt8 := if (cleanOf b).drop (cleanOf a).length = [] then [46] else (slashed ((cleanOf b).drop (cleanOf a).length)).drop 1
def fromT (a b : List UInt8) : List UInt8 := if okF a b then fromL a b else []

theorem wg_text {l : List UInt8} (h : wgB l = true) : cT l = pathL (cleanOf l) ∧ ∀ p ∈ cleanOf l, partB p = true := by
  simp only [wgB, Bool.and_eq_true] at h
  refine ⟨by rw [cT_yes h.2]; unfold cleanT; rw [if_pos h.1], fun p hp => good_parts h.2 (clean_mem hp)⟩
theorem okF_no {a b : List UInt8} (h : (wgB a && wgB b) = false) : okF a b = false ∧ fromT a b = [] := by
  have : okF a b = false := by simp only [okF, h, Bool.false_and]
  exact ⟨this, by simp [fromT, this]⟩
theorem okF_same {a b : List UInt8} (ha : wgB a = true) (hb : wgB b = true) (h : cleanOf a = cleanOf b) : okF a b = true ∧ fromT a b = [46] := by
  have : okF a b = true := by simp [okF, ha, hb, h]
  refine ⟨this, ?_⟩
  unfold fromT fromL; rw [if_pos this, h]; simp
theorem okF_cut {a b : List UInt8} (ha : wgB a = true) (hb : wgB b = true) (h : cleanOf a ≠ cleanOf b) :
    okF a b = Lib.hasPrefix (cT b) (slashed (cleanOf a) ++ [47]) ∧ (okF a b = true → fromT a b = Lib.trimPrefix (cT b) (slashed (cleanOf a) ++ [47])) := by
  obtain ⟨ea, pa⟩ := wg_text ha
  obtain ⟨eb, pb⟩ := wg_text hb
  have hiff : (slashed (cleanOf a) ++ [47] <+: cT b) ↔ (cleanOf a <+: cleanOf b) := by
    rw [eb]
    by_cases h0 : cleanOf b = []
    · have hna : cleanOf a ≠ [] := fun e => h (by rw [e, h0])
      rw [h0]
      constructor
      · intro hx
        have h1 := hx.length_le
        have h2 := List.length_pos_iff.2 (fun e => hna (slashed_nil.1 e) : slashed (cleanOf a) ≠ [])
        rw [show pathL [] = [47] from rfl] at h1
        simp only [List.length_append, List.length_cons, List.length_nil] at h1
        omega
      · intro hx; exact absurd (List.prefix_nil.1 hx) hna
    · rw [show pathL (cleanOf b) = slashed (cleanOf b) by unfold pathL; rw [if_neg h0]]
      rw [slashed_prefix (fun p hm => part_no47 (pa p hm)) (fun q hm => part_no47 (pb q hm))]
      constructor
      · rintro ⟨r, _, e⟩; exact ⟨r, e.symm⟩
      · rintro ⟨r, e⟩
        refine ⟨r, fun hr => h ?_, e.symm⟩
        rw [← e, hr, List.append_nil]
  have hok : okF a b = (cleanOf a).isPrefixOf (cleanOf b) := by simp [okF, ha, hb]
  have hhp : okF a b = Lib.hasPrefix (cT b) (slashed (cleanOf a) ++ [47]) := by
    rw [hok, Bool.eq_iff_iff]
    unfold Lib.hasPrefix
    rw [List.isPrefixOf_iff_prefix, List.isPrefixOf_iff_prefix, hiff]
  refine ⟨hhp, fun ht => ?_⟩
  have hpre : cleanOf a <+: cleanOf b := by rw [hok] at ht; exact List.isPrefixOf_iff_prefix.1 ht
  obtain ⟨r, hr⟩ := hpre
  have hr0 : r ≠ [] := fun e => h (by rw [← hr, e, List.append_nil])
  unfold fromT fromL Lib.trimPrefix
  rw [if_pos ht, ← hhp, if_pos ht, ← hr, List.drop_left, if_neg hr0, eb, ← hr]
  rw [show pathL (cleanOf a ++ r) = slashed (cleanOf a ++ r) by unfold pathL; rw [if_neg (by simp [hr0])]]
  rw [slashed_drop _ _ hr0]

set_option maxHeartbeats 400000 in
theorem isWholePath_any (s : ByteArray) (w : World) (hs : s.size ≤ 1073741824) : Calls Try.prog 69 #[.string s] w fun e w' => e = .returned (.bool (wgB s.data.toList)) ∧ Below w.heap.size w w' := by
  by_cases hw : wholeB s.data.toList = true
  · have HW := Lib.hid hw
    have HE : Hid (wgB s.data.toList = goodB s.data.toList) := Lib.hid (by simp [wgB, hw])
    clear hw
    go_enter Try.func69, Try.ntmps69
    go_wp2_with fail
    refine (isWhole_any _ _).mono ?_
    rintro e w1 ⟨rfl, rfl⟩
    rw [HW.out]
    go_wp2_with fail
    refine (goodPath_any _ _ (by unfold maxLen; omega)).mono ?_
    rintro e w2 ⟨rfl, hb⟩
    go_wp2
    go_ret
    exact ⟨ret_bool HE.out.symm, hb⟩
  · have HW := Lib.hid (show wholeB s.data.toList = false by simpa using hw)
    have HE : Hid (wgB s.data.toList = false) := Lib.hid (by simp [wgB, HW.out])
    clear hw
    go_enter Try.func69, Try.ntmps69
    go_wp2_with fail
    refine (isWhole_any _ _).mono ?_
    rintro e w1 ⟨rfl, rfl⟩
    rw [HW.out]
    go_wp2
    go_ret
    exact ⟨ret_bool HE.out.symm, Below.refl _ _⟩

theorem bs_sub (l m : List UInt8) : (⟨(l ++ m).toArray⟩ : ByteArray) = bs l ++ bs m := (bs_app l m).symm

set_option maxHeartbeats 1000000 in
theorem fromTo_any (a b : ByteArray) (w : World) (ha : a.size ≤ 1073741824) (hb : b.size ≤ 1073741824) : Calls Try.prog 37 #[.string a, .string b] w fun e w' => e = .returned (.tuple #[.string (bs (fromT a.data.toList b.data.toList)), .bool (okF a.data.toList b.data.toList)]) ∧ Below w.heap.size w w' := by
  by_cases g1 : wgB a.data.toList = true
  · have G1 := Lib.hid g1
    by_cases g2 : wgB b.data.toList = true
    · have G2 := Lib.hid g2
      have HTX := Lib.hid (wg_text g1)
      have HTY := Lib.hid (wg_text g2)
      by_cases hs : cleanOf a.data.toList = cleanOf b.data.toList
      · obtain ⟨o1, o2⟩ := okF_same g1 g2 hs
        have O1 := Lib.hid o1
        have O2 := Lib.hid o2
        have HE : Hid (cT b.data.toList = cT a.data.toList) := Lib.hid (by rw [HTX.out.1, HTY.out.1, hs])
        clear g1 g2 hs o1 o2
        go_enter Try.func37, Try.ntmps37
        go_wp2_with fail
        refine (isWholePath_any _ _ (by omega)).mono ?_
        rintro e w1 ⟨rfl, hb1⟩
        rw [G1.out]
        go_wp2_with fail
        refine (isWholePath_any _ _ (by omega)).mono ?_
        rintro e w2 ⟨rfl, hb2⟩
        rw [G2.out]
        go_wp2_with fail
        refine (cleanPath_any _ _ (by omega)).mono ?_
        rintro e w3 ⟨rfl, hb3⟩
        go_wp2_with fail
        refine (cleanPath_any _ _ (by omega)).mono ?_
        rintro e w4 ⟨rfl, hb4⟩
        rw [HE.out]
        go_wp2
        go_ret2
        have h12 := hb1.trans (hb2.mono hb1.size)
        have h13 := h12.trans (hb3.mono h12.size)
        exact ⟨tup2 (by rw [O2.out]; rfl) O1.out.symm, h13.trans (hb4.mono h13.size)⟩
      · obtain ⟨o1, o2⟩ := okF_cut g1 g2 hs
        have O1 := Lib.hid o1
        have O2 := Lib.hid o2
        have HNE : cT a.data.toList ≠ cT b.data.toList := fun e => hs (pathL_inj HTX.out.2 HTY.out.2 (by rw [← HTX.out.1, ← HTY.out.1, e]))
        have t1 : ((bs (cT a.data.toList)).toList == (bs (cT b.data.toList)).toList) = false := by
          rw [ByteArray.toList_eq, ByteArray.toList_eq, bs_list, bs_list]; simpa using HNE
        have HTR : Hid (Lib.trimSuffix (bs (cT a.data.toList)).data.toList (ByteArray.mk #[47]).data.toList = slashed (cleanOf a.data.toList)) := Lib.hid (by rw [bs_list, HTX.out.1]; exact trim_path HTX.out.2)
        have hz : (bs (cT a.data.toList)).size ≤ 10001 := by rw [bs_size]; exact cT_le _
        have hz2 : (bs (slashed (cleanOf a.data.toList))).size ≤ 10000 := by
          rw [bs_size]
          have h1 := G1.out
          simp only [wgB, Bool.and_eq_true] at h1
          exact slashed_small h1.2
        clear g1 g2 hs o1 o2 HNE
        go_enter Try.func37, Try.ntmps37
        go_wp2_with fail
        refine (isWholePath_any _ _ (by omega)).mono ?_
        rintro e w1 ⟨rfl, hb1⟩
        rw [G1.out]
        go_wp2_with fail
        refine (isWholePath_any _ _ (by omega)).mono ?_
        rintro e w2 ⟨rfl, hb2⟩
        rw [G2.out]
        go_wp2_with fail
        refine (cleanPath_any _ _ (by omega)).mono ?_
        rintro e w3 ⟨rfl, hb3⟩
        go_wp2_with fail
        refine (cleanPath_any _ _ (by omega)).mono ?_
        rintro e w4 ⟨rfl, hb4⟩
        obtain ⟨x, hx⟩ : ∃ x, x = bs (cT a.data.toList) := ⟨_, rfl⟩
        obtain ⟨y, hy⟩ : ∃ y, y = bs (cT b.data.toList) := ⟨_, rfl⟩
        rw [← hx] at t1 hz HTR ⊢
        rw [← hy] at t1 ⊢
        have HY : Hid (y.data.toList = cT b.data.toList) := Lib.hid (by rw [hy, bs_list])
        clear hx hy
        go_wp2_with fail
        refine (Try.strings_TrimSuffix _ _ _ (by omega)).mono ?_
        rintro e w5 ⟨rfl, rfl⟩
        rw [HTR.out]
        have hz3 : (ByteArray.mk (slashed (cleanOf a.data.toList)).toArray).size ≤ 10000 := hz2
        obtain ⟨z, hzz⟩ : ∃ z, z = ByteArray.mk (slashed (cleanOf a.data.toList)).toArray := ⟨_, rfl⟩
        rw [← hzz] at hz3 ⊢
        have HZ : Hid ((z ++ ⟨#[47]⟩).data.toList = slashed (cleanOf a.data.toList) ++ [47]) := Lib.hid (by rw [hzz]; simp [ByteArray.data_append])
        clear hzz hz2
        go_wp2_with fail
        refine (Try.strings_CutPrefix _ _ _).mono ?_
        rintro e w6 ⟨rfl, rfl⟩
        have h12 := hb1.trans (hb2.mono hb1.size)
        have h13 := h12.trans (hb3.mono h12.size)
        have h14 := h13.trans (hb4.mono h13.size)
        rw [HZ.out, HY.out, ← O1.out]
        by_cases hk : okF a.data.toList b.data.toList = true
        · have HK := Lib.hid hk
          clear hk
          rw [HK.out]
          go_wp2
          go_ret2
          exact ⟨tup2 (by rw [O2.out HK.out]; rfl) HK.out.symm, h14⟩
        · have HK := Lib.hid (show okF a.data.toList b.data.toList = false by simpa using hk)
          clear hk
          rw [HK.out]
          go_wp2
          go_ret2
          exact ⟨tup2 (by unfold fromT; rw [HK.out]; rfl) HK.out.symm, h14⟩
    · have G2 := Lib.hid (show wgB b.data.toList = false by simpa using g2)
      obtain ⟨o1, o2⟩ := okF_no (a := a.data.toList) (b := b.data.toList) (by rw [G2.out, Bool.and_false])
      have O1 := Lib.hid o1
      have O2 := Lib.hid o2
      clear g1 g2 o1 o2
      go_enter Try.func37, Try.ntmps37
      go_wp2_with fail
      refine (isWholePath_any _ _ (by omega)).mono ?_
      rintro e w1 ⟨rfl, hb1⟩
      rw [G1.out]
      go_wp2_with fail
      refine (isWholePath_any _ _ (by omega)).mono ?_
      rintro e w2 ⟨rfl, hb2⟩
      rw [G2.out]
      go_wp2
      go_ret2
      exact ⟨tup2 (by rw [O2.out]; rfl) O1.out.symm, hb1.trans (hb2.mono hb1.size)⟩
  · have G1 := Lib.hid (show wgB a.data.toList = false by simpa using g1)
    obtain ⟨o1, o2⟩ := okF_no (a := a.data.toList) (b := b.data.toList) (by rw [G1.out, Bool.false_and])
    have O1 := Lib.hid o1
    have O2 := Lib.hid o2
    clear g1 o1 o2
    go_enter Try.func37, Try.ntmps37
    go_wp2_with fail
    refine (isWholePath_any _ _ (by omega)).mono ?_
    rintro e w1 ⟨rfl, hb1⟩
    rw [G1.out]
    go_wp2
    go_ret2
    exact ⟨tup2 (by rw [O2.out]; rfl) O1.out.symm, hb1⟩

theorem tupb {a a' b b' : Bool} (h1 : a = a') (h2 : b = b') : Ending.returned (.tuple #[.bool a, .bool b]) = .returned (.tuple #[.bool a', .bool b']) := by rw [h1, h2]
def okW (a b : List UInt8) : Bool := wgB a && wgB b

set_option maxHeartbeats 1000000 in
theorem isWithin_any (a b : ByteArray) (w : World) (ha : a.size ≤ 1073741824) (hb : b.size ≤ 1073741824) : Calls Try.prog 39 #[.string a, .string b] w fun e w' => e = .returned (.tuple #[.bool (okF a.data.toList b.data.toList), .bool (okW a.data.toList b.data.toList)]) ∧ Below w.heap.size w w' := by
  by_cases g1 : wgB a.data.toList = true
  · have G1 := Lib.hid g1
    by_cases g2 : wgB b.data.toList = true
    · have G2 := Lib.hid g2
      have HW : Hid (okW a.data.toList b.data.toList = true) := Lib.hid (by simp [okW, g1, g2])
      clear g1 g2
      go_enter Try.func39, Try.ntmps39
      go_wp2_with fail
      refine (isWholePath_any _ _ (by omega)).mono ?_
      rintro e w1 ⟨rfl, hb1⟩
      rw [G1.out]
      go_wp2_with fail
      refine (isWholePath_any _ _ (by omega)).mono ?_
      rintro e w2 ⟨rfl, hb2⟩
      rw [G2.out]
      go_wp2_with fail
      refine (fromTo_any _ _ _ (by omega) (by omega)).mono ?_
      rintro e w3 ⟨rfl, hb3⟩
      go_wp2
      go_ret2
      have h12 := hb1.trans (hb2.mono hb1.size)
      exact ⟨tupb rfl HW.out.symm, h12.trans (hb3.mono h12.size)⟩
    · have G2 := Lib.hid (show wgB b.data.toList = false by simpa using g2)
      have O1 := Lib.hid (okF_no (a := a.data.toList) (b := b.data.toList) (by rw [G2.out, Bool.and_false])).1
      have HW : Hid (okW a.data.toList b.data.toList = false) := Lib.hid (by simp [okW, G2.out])
      clear g1 g2
      go_enter Try.func39, Try.ntmps39
      go_wp2_with fail
      refine (isWholePath_any _ _ (by omega)).mono ?_
      rintro e w1 ⟨rfl, hb1⟩
      rw [G1.out]
      go_wp2_with fail
      refine (isWholePath_any _ _ (by omega)).mono ?_
      rintro e w2 ⟨rfl, hb2⟩
      rw [G2.out]
      go_wp2
      go_ret2
      exact ⟨tupb O1.out.symm HW.out.symm, hb1.trans (hb2.mono hb1.size)⟩
  · have G1 := Lib.hid (show wgB a.data.toList = false by simpa using g1)
    have O1 := Lib.hid (okF_no (a := a.data.toList) (b := b.data.toList) (by rw [G1.out, Bool.false_and])).1
    have HW : Hid (okW a.data.toList b.data.toList = false) := Lib.hid (by simp [okW, G1.out])
    clear g1
    go_enter Try.func39, Try.ntmps39
    go_wp2_with fail
    refine (isWholePath_any _ _ (by omega)).mono ?_
    rintro e w1 ⟨rfl, hb1⟩
    rw [G1.out]
    go_wp2
    go_ret2
    exact ⟨tupb O1.out.symm HW.out.symm, hb1⟩
end Go.Proofs.Ytpdnhaaedibbaaa
