/-
  Contracts of impl.May and spec.May, for every argument: both answer mayB and true where all is in range, false and false else.
  Conditions: none but those that each contract names.
-/
import Derived.Test.YtkindoihmcojdaaMayC
namespace Go.Proofs.Ytkindoihmcojdaa
open Go.ChangeShapes Go.WideShapes Go.ChangeAt Go.RowKit Go.Joins
set_option linter.unusedVariables false

/-- All arguments of May are as the chapter says. -/
def askB (u g m uid gid want : Int) : Bool := credB u g && inB 0 511 m && inB 0 99 uid && inB 0 99 gid && inB 0 7 want

theorem askB_cases (u g m uid gid want : Int) : (askB u g m uid gid want = true ∧ credB u g = true ∧ inB 0 511 m = true ∧ inB 0 99 uid = true ∧ inB 0 99 gid = true ∧ inB 0 7 want = true) ∨
    (askB u g m uid gid want = false ∧ (credB u g = false ∨ (credB u g = true ∧ inB 0 511 m = false) ∨ (credB u g = true ∧ inB 0 511 m = true ∧ inB 0 99 uid = false) ∨
      (credB u g = true ∧ inB 0 511 m = true ∧ inB 0 99 uid = true ∧ inB 0 99 gid = false) ∨ (credB u g = true ∧ inB 0 511 m = true ∧ inB 0 99 uid = true ∧ inB 0 99 gid = true ∧ inB 0 7 want = false))) := by
  unfold askB
  cases credB u g <;> cases inB 0 511 m <;> cases inB 0 99 uid <;> cases inB 0 99 gid <;> cases inB 0 7 want <;> simp

set_option maxHeartbeats 400000 in
theorem implMay_no (u g m uid gid want : Int) (w : World) (h : askB u g m uid gid want = false) :
    Calls Try.prog 12 #[.agg #[.int .i64 u, .int .i64 g], .int .i64 m, .int .i64 uid, .int .i64 gid, .int .i64 want] w fun e w' => e = .returned (.tuple #[.bool false, .bool false]) ∧ Below w.heap.size w w' := by
  have hh : credB u g = false ∨ (credB u g = true ∧ inB 0 511 m = false) ∨ (credB u g = true ∧ inB 0 511 m = true ∧ inB 0 99 uid = false) ∨
      (credB u g = true ∧ inB 0 511 m = true ∧ inB 0 99 uid = true ∧ inB 0 99 gid = false) ∨ (credB u g = true ∧ inB 0 511 m = true ∧ inB 0 99 uid = true ∧ inB 0 99 gid = true ∧ inB 0 7 want = false) := by
    rcases askB_cases u g m uid gid want with ⟨a, _⟩ | ⟨_, a⟩
    · rw [a] at h; cases h
    · exact a
  clear h
  rcases hh with h1 | ⟨h1, h2⟩ | ⟨h1, h2, h3⟩ | ⟨h1, h2, h3, h4⟩ | ⟨h1, h2, h3, h4, h5⟩
  all_goals
    go_enter Try.func12, Try.ntmps12
    go_wp2_with (first | (go_at_call 14; refine (goodCred_any _ _ _).mono ?_; rintro e w1 ⟨rfl, hb⟩) | (go_at_call 30; refine (isMode_any _ _).mono ?_; rintro e w' ⟨rfl, rfl⟩) | (go_at_call 31; refine (isId_any _ _).mono ?_; rintro e w' ⟨rfl, rfl⟩) | (go_at_call 32; refine (isTriple_any _ _).mono ?_; rintro e w' ⟨rfl, rfl⟩))
    go_ret2
    exact ⟨rfl, ((Below.refl _ _).alloc (Nat.le_refl _) _).trans (hb.mono (by simp))⟩

set_option maxHeartbeats 400000 in
theorem specMay_no (u g m uid gid want : Int) (w : World) (h : askB u g m uid gid want = false) :
    Calls Try.prog 13 #[.agg #[.int .i64 u, .int .i64 g], .int .i64 m, .int .i64 uid, .int .i64 gid, .int .i64 want] w fun e w' => e = .returned (.tuple #[.bool false, .bool false]) ∧ Below w.heap.size w w' := by
  have hh : credB u g = false ∨ (credB u g = true ∧ inB 0 511 m = false) ∨ (credB u g = true ∧ inB 0 511 m = true ∧ inB 0 99 uid = false) ∨
      (credB u g = true ∧ inB 0 511 m = true ∧ inB 0 99 uid = true ∧ inB 0 99 gid = false) ∨ (credB u g = true ∧ inB 0 511 m = true ∧ inB 0 99 uid = true ∧ inB 0 99 gid = true ∧ inB 0 7 want = false) := by
    rcases askB_cases u g m uid gid want with ⟨a, _⟩ | ⟨_, a⟩
    · rw [a] at h; cases h
    · exact a
  clear h
  rcases hh with h1 | ⟨h1, h2⟩ | ⟨h1, h2, h3⟩ | ⟨h1, h2, h3, h4⟩ | ⟨h1, h2, h3, h4, h5⟩
  all_goals
    go_enter Try.func13, Try.ntmps13
    go_wp2_with (first | (go_at_call 34; refine (l1Cred_any _ _ _).mono ?_; rintro e w1 ⟨rfl, hb⟩) | (go_at_call 35; refine (l1Mode_any _ _).mono ?_; rintro e w' ⟨rfl, rfl⟩) | (go_at_call 36; refine (l1In_any _ _ _ _).mono ?_; rintro e w' ⟨rfl, rfl⟩))
    go_ret2
    exact ⟨rfl, ((Below.refl _ _).alloc (Nat.le_refl _) _).trans (hb.mono (by simp))⟩

set_option maxHeartbeats 400000 in
theorem implMay_yes (u g m uid gid want : Int) (w : World) (h : askB u g m uid gid want = true) :
    Calls Try.prog 12 #[.agg #[.int .i64 u, .int .i64 g], .int .i64 m, .int .i64 uid, .int .i64 gid, .int .i64 want] w fun e w' => e = .returned (.tuple #[.bool (mayB u g m uid gid want), .bool true]) ∧ Below w.heap.size w w' := by
  have hh : credB u g = true ∧ inB 0 511 m = true ∧ inB 0 99 uid = true ∧ inB 0 99 gid = true ∧ inB 0 7 want = true := by
    rcases askB_cases u g m uid gid want with ⟨_, a⟩ | ⟨a, _⟩
    · exact a
    · rw [a] at h; cases h
  clear h
  obtain ⟨h1, h2, h3, h4, h5⟩ := hh
  have hm := inB_t h2
  by_cases hz : u = 0
  · have hz1 : (u == 0) = true := by simpa using hz
    have HZ := Lib.hid hz
    clear hz
    go_enter Try.func12, Try.ntmps12
    go_wp2_with (first | (go_at_call 14; refine (goodCred_any _ _ _).mono ?_; rintro e w1 ⟨rfl, hb⟩; obtain ⟨hc, hf⟩ := old_cells hb) | (go_at_call 30; refine (isMode_any _ _).mono ?_; rintro e w' ⟨rfl, rfl⟩) | (go_at_call 31; refine (isId_any _ _).mono ?_; rintro e w' ⟨rfl, rfl⟩) | (go_at_call 32; refine (isTriple_any _ _).mono ?_; rintro e w' ⟨rfl, rfl⟩))
    go_ret2
    refine ⟨?_, ((Below.refl _ _).alloc (Nat.le_refl _) _).trans (hb.mono (by simp))⟩
    rw [mayB_zero HZ.out]; rfl
  · have hz1 : (u == 0) = false := by simpa using hz
    have HZ := Lib.hid hz
    clear hz
    go_enter Try.func12, Try.ntmps12
    go_wp2_with (first | (go_at_call 14; refine (goodCred_any _ _ _).mono ?_; rintro e w1 ⟨rfl, hb⟩; obtain ⟨hc, hf⟩ := old_cells hb) | (go_at_call 30; refine (isMode_any _ _).mono ?_; rintro e w' ⟨rfl, rfl⟩) | (go_at_call 31; refine (isId_any _ _).mono ?_; rintro e w' ⟨rfl, rfl⟩) | (go_at_call 32; refine (isTriple_any _ _).mono ?_; rintro e w' ⟨rfl, rfl⟩) | (go_at_call 33; refine (tripleFor_any _ _ _ _ _ _ hm.1 hm.2).mono ?_; rintro e w2 ⟨rfl, hb2⟩))
    go_ret2
    refine ⟨?_, (((Below.refl _ _).alloc (Nat.le_refl _) _).trans (hb.mono (by simp))).trans (hb2.mono (by have := hb.size; simp at this; omega))⟩
    rw [mayB_else HZ.out]; rfl

set_option maxHeartbeats 400000 in
theorem specMay_yes (u g m uid gid want : Int) (w : World) (h : askB u g m uid gid want = true) :
    Calls Try.prog 13 #[.agg #[.int .i64 u, .int .i64 g], .int .i64 m, .int .i64 uid, .int .i64 gid, .int .i64 want] w fun e w' => e = .returned (.tuple #[.bool (mayB u g m uid gid want), .bool true]) ∧ Below w.heap.size w w' := by
  have hh : credB u g = true ∧ inB 0 511 m = true ∧ inB 0 99 uid = true ∧ inB 0 99 gid = true ∧ inB 0 7 want = true := by
    rcases askB_cases u g m uid gid want with ⟨_, a⟩ | ⟨a, _⟩
    · exact a
    · rw [a] at h; cases h
  clear h
  obtain ⟨h1, h2, h3, h4, h5⟩ := hh
  have hm := inB_t h2
  go_enter Try.func13, Try.ntmps13
  go_wp2_with (first | (go_at_call 34; refine (l1Cred_any _ _ _).mono ?_; rintro e w1 ⟨rfl, hb⟩; obtain ⟨hc, hf⟩ := old_cells hb) | (go_at_call 35; refine (l1Mode_any _ _).mono ?_; rintro e w' ⟨rfl, rfl⟩) | (go_at_call 36; refine (l1In_any _ _ _ _).mono ?_; rintro e w' ⟨rfl, rfl⟩) | (go_at_call 37; refine (l1May_any _ _ _ _ _ _ _ hm.1 hm.2).mono ?_; rintro e w2 ⟨rfl, hb2⟩))
  go_ret2
  exact ⟨rfl, (((Below.refl _ _).alloc (Nat.le_refl _) _).trans (hb.mono (by simp))).trans (hb2.mono (by have := hb.size; simp at this; omega))⟩

set_option maxHeartbeats 400000 in
theorem toCred_any (u g : Int) (w : World) : Calls Try.prog 20 #[.agg #[.int .i64 u, .int .i64 g]] w fun e w' => e = .returned (.agg #[.int .i64 u, .int .i64 g]) ∧ Below w.heap.size w w' := by
  go_enter Try.func20, Try.ntmps20
  go_wp2
  go_returns
  exact ⟨rfl, by go_grown⟩
end Go.Proofs.Ytkindoihmcojdaa
