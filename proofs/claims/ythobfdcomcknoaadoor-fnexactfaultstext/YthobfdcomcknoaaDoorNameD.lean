
/-
  Contracts of impl.GoodName, spec.l2Name, spec.GoodName.
  Conditions: a text's length is a length.
-/
import Derived.Test.YthobfdcomcknoaaDoorNameC
namespace Go.Proofs.YthobfdcomcknoaaDoor
open Go.ChangeShapes Go.WideShapes Go.ChangeAt Go.RowKit Go.Joins
set_option linter.unusedVariables false

theorem name_no {l : List UInt8} (h : signsB l = false) : false = nameB l := by simp [nameB, partB, h]
theorem name_in {l : List UInt8} (h : signsB l = true) : nameB l = (inB 1 8 l.length && (!(l == [46]) && !(l == [46, 46]))) := by
  have : decide (1 ≤ l.length ∧ l.length ≤ 8) = inB 1 8 l.length := by
    rw [Bool.eq_iff_iff]; simp [inB]; omega
  simp only [nameB, partB, h, this, Bool.and_true]

set_option maxHeartbeats 1000000 in
theorem l2Name_any (s : ByteArray) (w : World) (hs : s.size ≤ maxLen) : Calls Tryd.prog 18 #[.string s] w fun e w' => e = .returned (.bool (nameB s.data.toList)) ∧ w = w' := by
  unfold maxLen at hs
  go_enter Tryd.func18, Tryd.ntmps18
  go_wp2
  go_loop [3] (fun i => ∃ k : Nat, k ≤ s.size ∧ i = .int .i64 k ∧ signsB (s.data.toList.take k) = true) (fun i => s.size - (intOf i).toNat)
  case atStart => exact ⟨0, Nat.zero_le _, rfl, rfl⟩
  case round =>
    obtain ⟨k, hk, rfl, hg⟩ := hrel
    have HG := Lib.hid hg
    clear hg
    by_cases hlt : k < s.size
    · go_wp2
      all_goals first
        | (go_round
           case rel => exact ⟨k + 1, hlt, by go_num, by rw [take_snoc' s k hlt, signsB_snoc, HG.out]; simp at *; simp [signN]; omega⟩
           case measure => simp [intOf]; omega)
        | (go_ret
           refine ⟨ret_bool (name_no (signs_bad hlt ?_)), rfl⟩
           simp at *; simp [signN]; omega)
    · have HN := Lib.hid (name_in (l := s.data.toList) (by rw [← HG.out, List.take_of_length_le (by rw [len_size]; omega)]))
      go_wp2_with (go_at_call 10; refine (l1In_any _ _ _ _).mono ?_; rintro e w' ⟨rfl, rfl⟩)
      all_goals
        go_ret
        refine ⟨ret_bool ?_, rfl⟩
        rw [HN.out]
        simp only [ByteArray.toList_eq, len_size] at *
        simp [*]

end Go.Proofs.YthobfdcomcknoaaDoor
