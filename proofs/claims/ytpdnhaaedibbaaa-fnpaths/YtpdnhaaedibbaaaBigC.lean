/-
  The contract of laws.big.
  Conditions: none but that lengths are lengths.
-/
import Derived.Test.YtpdnhaaedibbaaaBase
namespace Go.Proofs.Ytpdnhaaedibbaaa
open Go.ChangeShapes Go.WideShapes Go.ChangeAt Go.RowKit Go.Joins
set_option linter.unusedVariables false

/-- What laws.big says of two lengths. -/
def bigB (n m : Nat) : Bool := decide (1048576 < n) || decide (1048576 - (n : Int) < (m : Int))

set_option maxHeartbeats 400000 in
theorem big_any (o o' : Option Addr) (n c n' c' : Nat) (w : World) (h0 : n ≤ 9223372036854775807) (h1 : n' ≤ 9223372036854775807) :
    Calls Try.prog 15 #[.slice o n c, .slice o' n' c'] w fun e w' => e = .returned (.bool (bigB n n')) ∧ w = w' := by
  by_cases h : (1048576 : Int) < (n : Int)
  · go_enter Try.func15, Try.ntmps15
    go_wp2
    go_ret
    exact ⟨ret_bool (by simp [bigB]; omega), rfl⟩
  · have hw : ¬ (1048576 : Int) < (n : Int) := h
    go_enter Try.func15, Try.ntmps15
    go_wp2
    go_ret
    refine ⟨ret_bool ?_, rfl⟩
    have e1 : decide (1048576 < n) = false := decide_eq_false (by omega)
    simp only [bigB, e1, Bool.false_or]
end Go.Proofs.Ytpdnhaaedibbaaa
