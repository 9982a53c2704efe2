/-
  The contract of impl.dirAndBase, and of impl.BaseOf and impl.DirOf.
  Conditions: a text of at most 2^30 bytes.
-/
import Derived.Test.YtpdnhaaedibbaaaJoinC
namespace Go.Proofs.Ytpdnhaaedibbaaa
open Go.ChangeShapes Go.WideShapes Go.ChangeAt Go.RowKit Go.Joins
set_option linter.unusedVariables false

/-- The last name of a clean path. -/
def baseL (l : List UInt8) : List UInt8 := if (cleanOf l).getLast? = some [46, 46] then [] else (cleanOf l).getLast?.getD []
def dirL (l : List UInt8) : List UInt8 := if wholeB l then pathL (cleanOf l).dropLast else if (cleanOf l).length = 1 then [46] else (slashed (cleanOf l).dropLast).drop 1
def okB (l : List UInt8) : Bool := goodB l && !(baseL l).isEmpty
def baseT (l : List UInt8) : List UInt8 := if okB l then baseL l else []
def dirT (l : List UInt8) : List UInt8 := if okB l then dirL l else []

theorem data_at (l : List UInt8) (j : Nat) (h : j < l.length) : ((bs l).data[j]!) = l[j] := by
  have : j < (bs l).data.size := by simpa [bs] using h
  rw [getElem!_pos (bs l).data j this]
  simp [bs]
theorem last_none (l : List UInt8) (h : 47 ∉ l) : Lib.lastIndexByte (bs l) 47 = -1 := by
  unfold Lib.lastIndexByte
  rcases Lib.lastIdx_spec (bs l) 47 (bs l).size with ⟨e, _⟩ | ⟨i, hi, e, h47, _⟩
  · exact e
  · rw [bs_size] at hi
    rw [data_at l i hi] at h47
    exact absurd (List.getElem_mem hi) (fun hm => h (by
      have : l[i] = 47 := UInt8.toNat_inj.1 (by show l[i].toNat = 47; omega)
      rwa [this] at hm))
theorem last_some (D p : List UInt8) (h : 47 ∉ p) : Lib.lastIndexByte (bs (D ++ 47 :: p)) 47 = D.length := by
  unfold Lib.lastIndexByte
  have hlen : (D ++ 47 :: p).length = D.length + 1 + p.length := by simp; omega
  rcases Lib.lastIdx_spec (bs (D ++ 47 :: p)) 47 (bs (D ++ 47 :: p)).size with ⟨_, hn⟩ | ⟨i, hi, e, h47, hb⟩
  · have h1 : D.length < (D ++ 47 :: p).length := by omega
    have := hn D.length (by rw [bs_size]; exact h1)
    rw [data_at _ _ h1] at this
    simp at this
  · rw [e]
    rw [bs_size] at hi
    rw [data_at _ i hi] at h47
    have h1 : D.length < (D ++ 47 :: p).length := by omega
    by_cases hlt : i < D.length
    · have := hb D.length hlt (by rw [bs_size]; exact h1)
      rw [data_at _ _ h1] at this
      simp at this
    · by_cases heq : i = D.length
      · omega
      · exfalso
        have hx : (D ++ 47 :: p)[i] = 47 := UInt8.toNat_inj.1 (by show ((D ++ 47 :: p)[i]).toNat = 47; omega)
        rw [List.getElem_append_right (by omega)] at hx
        obtain ⟨j, hj⟩ : ∃ j, i - D.length = j + 1 := ⟨i - D.length - 1, by omega⟩
        simp only [hj] at hx
        rw [List.getElem_cons_succ] at hx
        exact h (hx ▸ List.getElem_mem _)

theorem cT_le (l : List UInt8) : (cT l).length ≤ 10001 := by
  by_cases h : goodB l = true
  · rw [cT_yes h]
    have h1 := slashed_small h
    unfold cleanT pathL
    repeat' split
    all_goals simp
    all_goals omega
  · rw [cT_no (by simpa using h)]; simp

theorem tup3 {a a' b b' : ByteArray} {c c' : Bool} (h1 : a = a') (h2 : b = b') (h3 : c = c') : Ending.returned (.tuple #[.string a, .string b, .bool c]) = .returned (.tuple #[.string a', .string b', .bool c']) := by rw [h1, h2, h3]

/-- The directory's text, the root where nothing is left. -/
def rootOr (D : List UInt8) : List UInt8 := if D = [] then [47] else D
theorem rootOr_ne {D : List UInt8} (h : D ≠ []) : rootOr D = D := if_neg h
theorem drop_head (D p : List UInt8) : (D ++ 47 :: p).drop (D.length + 1) = p := by
  rw [← List.drop_drop, List.drop_left]; rfl

set_option maxHeartbeats 1000000 in
theorem dirAndBase_B_yes (s : ByteArray) (w : World) (hs : s.size ≤ 1073741824) (t : List UInt8) (ht : cT s.data.toList = t) (hn : 47 ∉ t) (hg : nameB t = true) : Calls Try.prog 55 #[.string s] w fun e w' =>
    e = .returned (.tuple #[.string ⟨#[46]⟩, .string (bs t), .bool true]) ∧ Below w.heap.size w w' := by
  have HT := Lib.hid ht
  have HG := Lib.hid hg
  have hl := cT_le s.data.toList
  rw [ht] at hl
  have HL := Lib.hid (last_none t hn)
  have hz : (bs t).size ≤ 10001 := by rw [bs_size]; exact hl
  clear ht hn hl hg
  go_enter Try.func55, Try.ntmps55
  go_wp2_with fail
  refine (cleanPath_any _ _ hs).mono ?_
  rintro e w1 ⟨rfl, hb1⟩
  rw [HT.out]
  obtain ⟨x, hx⟩ : ∃ x, x = bs t := ⟨_, rfl⟩
  rw [← hx] at hz HL ⊢
  have HE := Lib.hid hx
  clear hx
  go_wp2_with fail
  refine (Try.strings_LastIndexByte _ _ (by omega) _).mono ?_
  rintro e w2 ⟨rfl, rfl⟩
  rw [HL.out]
  go_wp2_with fail
  refine (goodName_any _ _).mono ?_
  rintro e w3 ⟨rfl, hb3⟩
  have HD : Hid (x.data.toList = t) := Lib.hid (by rw [HE.out, bs_list])
  rw [HD.out, HG.out]
  go_wp2
  go_ret3
  exact ⟨tup3 rfl HE.out rfl, hb1.trans (hb3.mono hb1.size)⟩

set_option maxHeartbeats 1000000 in
theorem dirAndBase_B_no (s : ByteArray) (w : World) (hs : s.size ≤ 1073741824) (t : List UInt8) (ht : cT s.data.toList = t) (hn : 47 ∉ t) (hg : nameB t = false) : Calls Try.prog 55 #[.string s] w fun e w' =>
    e = .returned (.tuple #[.string ⟨#[]⟩, .string ⟨#[]⟩, .bool false]) ∧ Below w.heap.size w w' := by
  have HT := Lib.hid ht
  have HG := Lib.hid hg
  have hl := cT_le s.data.toList
  rw [ht] at hl
  have HL := Lib.hid (last_none t hn)
  have hz : (bs t).size ≤ 10001 := by rw [bs_size]; exact hl
  clear ht hn hl hg
  go_enter Try.func55, Try.ntmps55
  go_wp2_with fail
  refine (cleanPath_any _ _ hs).mono ?_
  rintro e w1 ⟨rfl, hb1⟩
  rw [HT.out]
  obtain ⟨x, hx⟩ : ∃ x, x = bs t := ⟨_, rfl⟩
  rw [← hx] at hz HL ⊢
  have HE := Lib.hid hx
  clear hx
  go_wp2_with fail
  refine (Try.strings_LastIndexByte _ _ (by omega) _).mono ?_
  rintro e w2 ⟨rfl, rfl⟩
  rw [HL.out]
  go_wp2_with fail
  refine (goodName_any _ _).mono ?_
  rintro e w3 ⟨rfl, hb3⟩
  have HD : Hid (x.data.toList = t) := Lib.hid (by rw [HE.out, bs_list])
  rw [HD.out, HG.out]
  go_wp2
  go_ret3
  exact ⟨tup3 rfl rfl rfl, hb1.trans (hb3.mono hb1.size)⟩

set_option maxHeartbeats 1000000 in
theorem dirAndBase_A_yes (s : ByteArray) (w : World) (hs : s.size ≤ 1073741824) (D p : List UInt8) (ht : cT s.data.toList = D ++ 47 :: p) (hn : 47 ∉ p) (hg : nameB p = true) : Calls Try.prog 55 #[.string s] w fun e w' =>
    e = .returned (.tuple #[.string (bs (rootOr D)), .string (bs p), .bool true]) ∧ Below w.heap.size w w' := by
  have HT := Lib.hid ht
  have HG := Lib.hid hg
  have hl := cT_le s.data.toList
  rw [ht] at hl
  have HL := Lib.hid (last_some D p hn)
  have hsz : (bs (D ++ 47 :: p)).size = D.length + 1 + p.length := by rw [bs_size]; simp; omega
  have hz : (bs (D ++ 47 :: p)).size ≤ 10001 := by rw [bs_size]; exact hl
  have hD : D.length + 1 ≤ (bs (D ++ 47 :: p)).size := by omega
  have HX1 : Hid ((bs (D ++ 47 :: p)).extract (D.length + 1) (bs (D ++ 47 :: p)).size = bs p) := Lib.hid (by
    rw [bs_ext, bs_list, bs_size, List.take_of_length_le (Nat.le_refl _), drop_head])
  have HX2 : Hid ((bs (D ++ 47 :: p)).extract 0 D.length = bs D) := Lib.hid (by rw [bs_ext, bs_list]; simp)
  clear ht hn hl hsz hg
  go_enter Try.func55, Try.ntmps55
  go_wp2_with fail
  refine (cleanPath_any _ _ hs).mono ?_
  rintro e w1 ⟨rfl, hb1⟩
  rw [HT.out]
  obtain ⟨x, hx⟩ : ∃ x, x = bs (D ++ 47 :: p) := ⟨_, rfl⟩
  rw [← hx] at hz HL HX1 HX2 hD ⊢
  clear hx
  go_wp2_with fail
  refine (Try.strings_LastIndexByte _ _ (by omega) _).mono ?_
  rintro e w2 ⟨rfl, rfl⟩
  rw [HL.out]
  go_wp2_with fail
  rw [HX1.out]
  refine (goodName_any _ _).mono ?_
  rintro e w3 ⟨rfl, hb3⟩
  rw [bs_list, HG.out]
  by_cases h0 : D = []
  · subst h0
    go_wp2
    go_ret3
    exact ⟨tup3 rfl rfl rfl, hb1.trans (hb3.mono hb1.size)⟩
  · have HN := Lib.hid (rootOr_ne h0)
    have h1 : ((D.length : Int) == 0) = false := by have := List.length_pos_iff.2 h0; simp; omega
    clear h0
    go_wp2
    go_ret3
    exact ⟨tup3 (by rw [HX2.out, HN.out]) rfl rfl, hb1.trans (hb3.mono hb1.size)⟩
set_option maxHeartbeats 1000000 in
theorem dirAndBase_A_no (s : ByteArray) (w : World) (hs : s.size ≤ 1073741824) (D p : List UInt8) (ht : cT s.data.toList = D ++ 47 :: p) (hn : 47 ∉ p) (hg : nameB p = false) : Calls Try.prog 55 #[.string s] w fun e w' =>
    e = .returned (.tuple #[.string ⟨#[]⟩, .string ⟨#[]⟩, .bool false]) ∧ Below w.heap.size w w' := by
  have HT := Lib.hid ht
  have HG := Lib.hid hg
  have hl := cT_le s.data.toList
  rw [ht] at hl
  have HL := Lib.hid (last_some D p hn)
  have hsz : (bs (D ++ 47 :: p)).size = D.length + 1 + p.length := by rw [bs_size]; simp; omega
  have hz : (bs (D ++ 47 :: p)).size ≤ 10001 := by rw [bs_size]; exact hl
  have hD : D.length + 1 ≤ (bs (D ++ 47 :: p)).size := by omega
  have HX1 : Hid ((bs (D ++ 47 :: p)).extract (D.length + 1) (bs (D ++ 47 :: p)).size = bs p) := Lib.hid (by
    rw [bs_ext, bs_list, bs_size, List.take_of_length_le (Nat.le_refl _), drop_head])
  have HX2 : Hid ((bs (D ++ 47 :: p)).extract 0 D.length = bs D) := Lib.hid (by rw [bs_ext, bs_list]; simp)
  clear ht hn hl hsz hg
  go_enter Try.func55, Try.ntmps55
  go_wp2_with fail
  refine (cleanPath_any _ _ hs).mono ?_
  rintro e w1 ⟨rfl, hb1⟩
  rw [HT.out]
  obtain ⟨x, hx⟩ : ∃ x, x = bs (D ++ 47 :: p) := ⟨_, rfl⟩
  rw [← hx] at hz HL HX1 HX2 hD ⊢
  clear hx
  go_wp2_with fail
  refine (Try.strings_LastIndexByte _ _ (by omega) _).mono ?_
  rintro e w2 ⟨rfl, rfl⟩
  rw [HL.out]
  go_wp2_with fail
  rw [HX1.out]
  refine (goodName_any _ _).mono ?_
  rintro e w3 ⟨rfl, hb3⟩
  rw [bs_list, HG.out]
  go_wp2
  go_ret3
  exact ⟨tup3 rfl rfl rfl, hb1.trans (hb3.mono hb1.size)⟩
end Go.Proofs.Ytpdnhaaedibbaaa
