/-
  Contracts of impl.May, spec.May and all that they call, at this seat's translation: what each returns, for every argument.
  Conditions: none but the ranges that each contract names.
-/
import Derived.Test.YtkindoihmcojdaaModeC
namespace Go.Proofs.Ytkindoihmcojdaa
open Go.ChangeShapes Go.WideShapes Go.ChangeAt Go.RowKit Go.Joins
set_option linter.unusedVariables false

set_option maxHeartbeats 400000 in
theorem isId_any (n : Int) (w : World) : Calls Try.prog 31 #[.int .i64 n] w fun e w' => e = .returned (.bool (inB 0 99 n)) ∧ w = w' := by
  by_cases h0 : 0 ≤ n
  · by_cases h1 : n ≤ 99
    · go_enter Try.func31, Try.ntmps31
      go_wp2
      go_ret
      exact ⟨ret_bool (inB_mk h0 h1), rfl⟩
    · go_enter Try.func31, Try.ntmps31
      go_wp2
      go_ret
      exact ⟨ret_bool (inB_no (by omega)), rfl⟩
  · go_enter Try.func31, Try.ntmps31
    go_wp2
    go_ret
    exact ⟨ret_bool (inB_no (by omega)), rfl⟩

set_option maxHeartbeats 400000 in
theorem isTriple_any (n : Int) (w : World) : Calls Try.prog 32 #[.int .i64 n] w fun e w' => e = .returned (.bool (inB 0 7 n)) ∧ w = w' := by
  by_cases h0 : 0 ≤ n
  · by_cases h1 : n ≤ 7
    · go_enter Try.func32, Try.ntmps32
      go_wp2
      go_ret
      exact ⟨ret_bool (inB_mk h0 h1), rfl⟩
    · go_enter Try.func32, Try.ntmps32
      go_wp2
      go_ret
      exact ⟨ret_bool (inB_no (by omega)), rfl⟩
  · go_enter Try.func32, Try.ntmps32
    go_wp2
    go_ret
    exact ⟨ret_bool (inB_no (by omega)), rfl⟩

def credB (u g : Int) : Bool := inB 0 99 u && inB 0 99 g

set_option maxHeartbeats 400000 in
theorem goodCred_any (u g : Int) (w : World) : Calls Try.prog 14 #[.agg #[.int .i64 u, .int .i64 g]] w fun e w' => e = .returned (.bool (credB u g)) ∧ Below w.heap.size w w' := by
  by_cases h0 : inB 0 99 u = true
  · go_enter Try.func14, Try.ntmps14
    go_wp2_with (go_at_call 31; refine (isId_any _ _).mono ?_; rintro e w' ⟨rfl, rfl⟩)
    go_ret
    exact ⟨ret_bool (by simp [credB, h0]), by go_grown⟩
  · have h0' : inB 0 99 u = false := by simpa using h0
    go_enter Try.func14, Try.ntmps14
    go_wp2_with (go_at_call 31; refine (isId_any _ _).mono ?_; rintro e w' ⟨rfl, rfl⟩)
    go_ret
    exact ⟨ret_bool (by simp [credB, h0']), by go_grown⟩

set_option maxHeartbeats 400000 in
theorem l1Cred_any (u g : Int) (w : World) : Calls Try.prog 34 #[.agg #[.int .i64 u, .int .i64 g]] w fun e w' => e = .returned (.bool (credB u g)) ∧ Below w.heap.size w w' := by
  by_cases h0 : inB 0 99 u = true
  · go_enter Try.func34, Try.ntmps34
    go_wp2_with (go_at_call 36; refine (l1In_any _ _ _ _).mono ?_; rintro e w' ⟨rfl, rfl⟩)
    go_ret
    exact ⟨ret_bool (by simp [credB, h0]), by go_grown⟩
  · have h0' : inB 0 99 u = false := by simpa using h0
    go_enter Try.func34, Try.ntmps34
    go_wp2_with (go_at_call 36; refine (l1In_any _ _ _ _).mono ?_; rintro e w' ⟨rfl, rfl⟩)
    go_ret
    exact ⟨ret_bool (by simp [credB, h0']), by go_grown⟩

/-- The three bits that count for a cred: the owner's, else the group's, else the others'. -/
def tri (u g m uid gid : Int) : Int := if u = uid then m / 64 else if g = gid then m / 8 % 8 else m % 8
theorem tri_own {u g m uid gid : Int} (h : u = uid) : tri u g m uid gid = m / 64 := by simp [tri, h]
theorem tri_grp {u g m uid gid : Int} (h : u ≠ uid) (k : g = gid) : tri u g m uid gid = m / 8 % 8 := by simp [tri, h, k]
theorem tri_oth {u g m uid gid : Int} (h : u ≠ uid) (k : g ≠ gid) : tri u g m uid gid = m % 8 := by simp [tri, h, k]

set_option maxHeartbeats 400000 in
theorem tripleFor_any (u g m uid gid : Int) (w : World) (h0 : 0 ≤ m) (h1 : m ≤ 511) :
    Calls Try.prog 33 #[.agg #[.int .i64 u, .int .i64 g], .int .i64 m, .int .i64 uid, .int .i64 gid] w fun e w' => e = .returned (.int .i64 (tri u g m uid gid)) ∧ Below w.heap.size w w' := by
  by_cases hu : u = uid
  · have hb : (u == uid) = true := by simpa using hu
    have HU := Lib.hid hu
    clear hu
    go_enter Try.func33, Try.ntmps33
    go_wp2_with (go_at_call 39; refine (triples _ _ h0 h1).mono ?_; rintro e w' ⟨rfl, rfl⟩)
    go_ret
    exact ⟨ret_int (tri_own HU.out).symm, by go_grown⟩
  · have hb : (u == uid) = false := by simpa using hu
    have HU := Lib.hid hu
    clear hu
    by_cases hg : g = gid
    · have hb2 : (g == gid) = true := by simpa using hg
      have HG := Lib.hid hg
      clear hg
      go_enter Try.func33, Try.ntmps33
      go_wp2_with (go_at_call 39; refine (triples _ _ h0 h1).mono ?_; rintro e w' ⟨rfl, rfl⟩)
      go_ret
      exact ⟨ret_int (tri_grp HU.out HG.out).symm, by go_grown⟩
    · have hb2 : (g == gid) = false := by simpa using hg
      have HG := Lib.hid hg
      clear hg
      go_enter Try.func33, Try.ntmps33
      go_wp2_with (go_at_call 39; refine (triples _ _ h0 h1).mono ?_; rintro e w' ⟨rfl, rfl⟩)
      go_ret
      exact ⟨ret_int (tri_oth HU.out HG.out).symm, by go_grown⟩

/-- Whether a cred may all bits of want. -/
def mayB (u g m uid gid want : Int) : Bool := u == 0 || bits BinOp.and IntKind.i64 (tri u g m uid gid) want == want
theorem mayB_zero {u g m uid gid want : Int} (h : u = 0) : mayB u g m uid gid want = true := by simp [mayB, h]
theorem mayB_else {u g m uid gid want : Int} (h : u ≠ 0) : mayB u g m uid gid want = (bits BinOp.and IntKind.i64 (tri u g m uid gid) want == want) := by simp [mayB, h]

set_option maxHeartbeats 400000 in
theorem l1May_any (u g m uid gid want : Int) (w : World) (h0 : 0 ≤ m) (h1 : m ≤ 511) :
    Calls Try.prog 37 #[.agg #[.int .i64 u, .int .i64 g], .int .i64 m, .int .i64 uid, .int .i64 gid, .int .i64 want] w fun e w' => e = .returned (.bool (mayB u g m uid gid want)) ∧ Below w.heap.size w w' := by
  have H2 := and7 (m / 8) (by omega) (by omega)
  have H3 := and7 m (by omega) (by omega)
  by_cases hz : u = 0
  · have hz1 : (u == 0) = true := by simpa using hz
    have HZ := Lib.hid hz
    clear hz
    go_enter Try.func37, Try.ntmps37
    go_wp2
    go_ret
    exact ⟨ret_bool (mayB_zero HZ.out).symm, by go_grown⟩
  · have hz1 : (u == 0) = false := by simpa using hz
    have HZ := Lib.hid hz
    clear hz
    by_cases hu : u = uid
    · have hb : (u == uid) = true := by simpa using hu
      have HU := Lib.hid hu
      clear hu
      go_enter Try.func37, Try.ntmps37
      go_wp2
      go_ret
      exact ⟨ret_bool (by rw [mayB_else HZ.out, tri_own HU.out]), by go_grown⟩
    · have hb : (u == uid) = false := by simpa using hu
      have HU := Lib.hid hu
      clear hu
      by_cases hg : g = gid
      · have hb2 : (g == gid) = true := by simpa using hg
        have HG := Lib.hid hg
        clear hg
        go_enter Try.func37, Try.ntmps37
        go_wp2
        go_ret
        exact ⟨ret_bool (by rw [mayB_else HZ.out, tri_grp HU.out HG.out]), by go_grown⟩
      · have hb2 : (g == gid) = false := by simpa using hg
        have HG := Lib.hid hg
        clear hg
        go_enter Try.func37, Try.ntmps37
        go_wp2
        go_ret
        exact ⟨ret_bool (by rw [mayB_else HZ.out, tri_oth HU.out HG.out]), by go_grown⟩
end Go.Proofs.Ytkindoihmcojdaa
