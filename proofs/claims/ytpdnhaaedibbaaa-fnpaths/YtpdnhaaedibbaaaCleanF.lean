/-
  Contracts of spec.l2Of, spec.l2CleanText, spec.CleanPath.
  Conditions: lists of texts that together have at most 2^30 bytes; a text of at most 2^30 bytes.
-/
import Derived.Test.YtpdnhaaedibbaaaCleanE
namespace Go.Proofs.Ytpdnhaaedibbaaa
open Go.ChangeShapes Go.WideShapes Go.ChangeAt Go.RowKit Go.Joins
set_option linter.unusedVariables false

theorem slashed_take {ps : List (List UInt8)} {k : Nat} (h : k < ps.length) : slashed (ps.take (k + 1)) = slashed (ps.take k) ++ 47 :: ps[k] := by
  rw [List.take_succ_eq_append_getElem h, slashed_snoc]
theorem slashed_app (a b : List (List UInt8)) : slashed (a ++ b) = slashed a ++ slashed b := by simp [slashed]
theorem slashed_pre (ps : List (List UInt8)) (k : Nat) : (slashed (ps.take k)).length ≤ (slashed ps).length := by
  conv => rhs; rw [← List.take_append_drop k ps]
  rw [slashed_app]; simp

set_option maxHeartbeats 1000000 in
theorem l2Of_any (ps : List (List UInt8)) (v : Value) (w : World) (hR : Rd w v ps) (hl : (slashed ps).length ≤ 1073741824) : Calls Try.prog 66 #[v] w fun e w' => e = .returned (.string (bs (pathL ps))) ∧ w = w' := by
  obtain ⟨o, c, rfl, hlc, hcm, hH⟩ := hR
  have HH := Lib.hid hH
  clear hH
  unfold maxLen at hcm
  by_cases h0 : ps = []
  · subst h0
    go_enter Try.func66, Try.ntmps66
    go_wp2
    go_ret
    exact ⟨rfl, rfl⟩
  · have hp : 0 < ps.length := List.length_pos_iff.2 h0
    have HP : Hid (pathL ps = slashed ps) := Lib.hid (by unfold pathL; rw [if_neg h0])
    have hp' : ((ps.length : Int) == 0) = false := by simp; omega
    clear h0
    go_enter Try.func66, Try.ntmps66
    go_wp2
    go_loop [3, 11] (fun t i => ∃ k : Nat, k ≤ ps.length ∧ i = .int .i64 k ∧ t = .string (bs (slashed (ps.take k)))) (fun _ i => ps.length - (intOf i).toNat)
    case atStart => exact ⟨0, Nat.zero_le _, rfl, rfl⟩
    case round =>
      obtain ⟨k, hk, rfl, rfl⟩ := hrel
      by_cases hlt : k < ps.length
      · obtain ⟨g, off, rfl, hg, hcell⟩ := HH.out k hlt
        have HS := Lib.hid (slashed_take hlt)
        have hl1 := slashed_pre ps (k + 1)
        rw [HS.out, List.length_append, List.length_cons] at hl1
        have hx1 : (bs ps[k]).size ≤ 1073741824 := by rw [bs_size]; omega
        have hy1 : (bs (slashed (ps.take k))).size ≤ 1073741824 := by rw [bs_size]; omega
        obtain ⟨x, hx⟩ : ∃ x, x = bs ps[k] := ⟨_, rfl⟩
        obtain ⟨y, hy⟩ : ∃ y, y = bs (slashed (ps.take k)) := ⟨_, rfl⟩
        rw [← hx] at hcell hx1
        rw [← hy] at hy1 ⊢
        have HX := Lib.hid hx
        have HY := Lib.hid hy
        clear hx hy hl1
        go_wp2
        go_round
        case rel =>
          refine ⟨k + 1, hlt, by go_num, ?_⟩
          rw [HS.out, HX.out, HY.out, ← bs_app]
          have : (bs (47 :: ps[k])) = bs [47] ++ bs ps[k] := by rw [bs_app]; rfl
          rw [this]; rfl
        case measure => simp [intOf]; omega
      · have HT : Hid (ps.take k = ps) := Lib.hid (List.take_of_length_le (by omega))
        rw [HT.out]
        go_wp2
        go_ret
        exact ⟨by rw [HP.out]; rfl, rfl⟩

theorem slashed_small {l : List UInt8} (h : goodB l = true) : (slashed (cleanOf l)).length ≤ 10000 := by
  by_cases hn : cleanOf l = []
  · rw [hn]; simp [slashed]
  · have := (clean_small h).1
    rw [← join_slashed _ hn]; simp
    have hl : 1 ≤ l.length ∧ l.length ≤ 60 := by simp [goodB] at h; exact h.1
    have h1 : ∀ p ∈ cleanOf l, p.length ≤ 60 := fun p hp => Nat.le_trans (part_le (clean_mem hp)) hl.2
    have h2 := slashed_len 60 (cleanOf l) h1
    have h3 := (clean_small h).2
    have h5 : (cleanOf l).length * (60 + 1) ≤ 61 * 61 := Nat.mul_le_mul h3 (by omega)
    rw [← join_slashed _ hn] at h2
    simp at h2
    omega

set_option maxHeartbeats 1000000 in
theorem l2CleanText_any (s : ByteArray) (w : World) (hs : s.size ≤ 1073741824) (hg : goodB s.data.toList = true) : Calls Try.prog 54 #[.string s] w fun e w' => e = .returned (.string (bs (cleanT s.data.toList))) ∧ Below w.heap.size w w' := by
  have hsl := slashed_small hg
  have h0 : 0 < s.size := by simp [goodB] at hg; omega
  have HWA := Lib.hid (whole_at h0)
  clear hg
  go_enter Try.func54, Try.ntmps54
  go_wp2_with fail
  refine (l2Clean_any _ _ hs h0).mono ?_
  rintro e w1 ⟨v, rfl, hL, hb1⟩
  have hR := hL.read
  clear hL
  obtain ⟨o, c, rfl, hlc, hcm, hH⟩ := id hR
  have HR := Lib.hid hR
  clear hH hR
  unfold maxLen at hcm
  by_cases hw : (s[0]'h0) = 47
  · have hw' : ((s[0]'h0).toNat : Int) = 47 := by rw [hw]; rfl
    have HT : Hid (cleanT s.data.toList = pathL (cleanOf s.data.toList)) := Lib.hid (by unfold cleanT; rw [HWA.out, hw]; rfl)
    clear hw
    go_wp2_with (go_at_call 66; refine (l2Of_any _ _ _ HR.out (by omega)).mono ?_; rintro e w' ⟨rfl, rfl⟩)
    go_ret
    exact ⟨by rw [HT.out]; rfl, hb1⟩
  · have hw' : (((s[0]'h0).toNat : Int) == 47) = false := by simpa using not47 hw
    have HW : Hid (wholeB s.data.toList = false) := Lib.hid (by rw [HWA.out]; simpa using hw)
    clear hw
    by_cases hn : cleanOf s.data.toList = []
    · have HT := Lib.hid (cleanT_none HW.out hn)
      have hn' : ((cleanOf s.data.toList).length : Int) = 0 := by rw [hn]; rfl
      clear hn
      go_wp2
      go_ret
      exact ⟨by rw [HT.out]; rfl, hb1⟩
    · have hn' : (((cleanOf s.data.toList).length : Int) == 0) = false := by
        have := List.length_pos_iff.2 hn
        simp; omega
      have HT : Hid (cleanT s.data.toList = (pathL (cleanOf s.data.toList)).drop 1) := Lib.hid (by unfold cleanT pathL; rw [HW.out, if_neg (by simp), if_neg hn, if_neg hn])
      have hp1 : 1 ≤ (bs (pathL (cleanOf s.data.toList))).size := by rw [bs_size, ← join_eq]; simp
      have hp2 : (bs (pathL (cleanOf s.data.toList))).size ≤ 10000 := by rw [bs_size]; unfold pathL; rw [if_neg hn]; exact hsl
      clear hn
      go_wp2_with fail
      refine (l2Of_any _ _ _ HR.out (by omega)).mono ?_
      rintro e w' ⟨rfl, rfl⟩
      obtain ⟨x, hx⟩ : ∃ x, x = bs (pathL (cleanOf s.data.toList)) := ⟨_, rfl⟩
      rw [← hx] at hp1 hp2 ⊢
      have HX := Lib.hid hx
      clear hx
      go_wp2
      go_ret
      refine ⟨ret_str ?_, hb1⟩
      rw [HT.out, bs_ext, HX.out, bs_list, bs_size, List.take_of_length_le (Nat.le_refl _)]

set_option maxHeartbeats 1000000 in
theorem specClean_no (s : ByteArray) (w : World) (hs : s.size ≤ 1073741824) (h : goodB s.data.toList = false) : Calls Try.prog 18 #[.string s] w fun e w' => e = .returned (.tuple #[.string ⟨#[]⟩, .bool false]) ∧ Below w.heap.size w w' := by
  have HG := Lib.hid h
  clear h
  go_enter Try.func18, Try.ntmps18
  go_wp2_with (go_at_call 53; refine (l2Path_any _ _ hs).mono ?_; rintro e w' ⟨rfl, hb⟩; rw [HG.out])
  go_ret2
  exact ⟨rfl, hb⟩
set_option maxHeartbeats 1000000 in
theorem specClean_yes (s : ByteArray) (w : World) (hs : s.size ≤ 1073741824) (h : goodB s.data.toList = true) : Calls Try.prog 18 #[.string s] w fun e w' => e = .returned (.tuple #[.string (bs (cleanT s.data.toList)), .bool true]) ∧ Below w.heap.size w w' := by
  have HG := Lib.hid h
  clear h
  go_enter Try.func18, Try.ntmps18
  go_wp2_with fail
  refine (l2Path_any _ _ hs).mono ?_
  rintro e w1 ⟨rfl, hb1⟩
  rw [HG.out]
  go_wp2_with fail
  refine (l2CleanText_any _ _ hs HG.out).mono ?_
  rintro e w2 ⟨rfl, hb2⟩
  go_wp2
  go_ret2
  exact ⟨rfl, hb1.trans (hb2.mono hb1.size)⟩
end Go.Proofs.Ytpdnhaaedibbaaa
