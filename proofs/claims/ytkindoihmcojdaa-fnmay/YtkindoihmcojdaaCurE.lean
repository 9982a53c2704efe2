/-
  Contracts of spec.DrawMay, spec.DrawWithMask, spec.DrawGoodCred and laws.big: some values of their types, nothing old turned.
  Conditions: a readable slice of at most 2000000 bytes (none for big).
-/
import Derived.Test.YtkindoihmcojdaaCurD
import Derived.Test.YtkindoihmcojdaaBigC
namespace Go.Proofs.Ytkindoihmcojdaa
open Go.ChangeShapes Go.WideShapes Go.ChangeAt Go.RowKit Go.Joins
set_option linter.unusedVariables false

def DrawMayP (w : World) (e : Ending) (w' : World) : Prop := ∃ u g m uid gid want : Int, e = .returned (.tuple #[.agg #[.int .i64 u, .int .i64 g], .int .i64 m, .int .i64 uid, .int .i64 gid, .int .i64 want]) ∧ Below w.heap.size w w'
def DrawTwoP (w : World) (e : Ending) (w' : World) : Prop := ∃ a b : Int, e = .returned (.tuple #[.int .i64 a, .int .i64 b]) ∧ Below w.heap.size w w'
def DrawCredP (w : World) (e : Ending) (w' : World) : Prop := ∃ u g : Int, e = .returned (.agg #[.int .i64 u, .int .i64 g]) ∧ Below w.heap.size w w'

set_option maxRecDepth 100000 in
set_option maxHeartbeats 2000000 in
theorem drawWithMask_any (w : World) (o : Option Addr) (n c : Nat) (hD : CodeAt w w.heap.size o n) (hn : n ≤ 2000000) :
    Calls Try.prog 16 #[.slice o n c] w (DrawTwoP w) := by
  have HD := Lib.hid hD
  clear hD
  go_enter Try.func16, Try.ntmps16
  go_wp2_with fail
  refine (mode_any _ w.heap.size o n c 0 w.heap.size (Cur.made w o n c _) (HD.out.alloc (Nat.le_refl _) _) (Nat.le_refl _) (by omega) hn).mono ?_
  rintro e w1 ⟨_, a1, ⟨x, rfl, _, _⟩, l1, l2, rfl, hC1, hg1⟩
  have HC1 := Lib.hid hC1
  have HD1 := Lib.hid ((HD.out.alloc (Nat.le_refl _) _).step (Nat.le_refl _) (by simp) hg1)
  have hz1 : w.heap.size + 1 ≤ w1.heap.size := by have := hg1.size; simpa using this
  have HB1 := Lib.hid (below_of_grown ((Below.refl _ w).alloc (Nat.le_refl _) _) hg1 (Nat.le_refl _))
  clear hC1 hg1
  go_wp2_with fail
  refine (mode_any _ w.heap.size o n c a1 w.heap.size HC1.out HD1.out (Nat.le_refl _) (by omega) hn).mono ?_
  rintro e w2 ⟨_, a2, ⟨y, rfl, _, _⟩, l3, l4, rfl, hC2, hg2⟩
  have HC2 := Lib.hid hC2
  have HD2 := Lib.hid (HD1.out.step (Nat.le_refl _) (by omega) hg2)
  have hz2 := hg2.size
  have HB2 := Lib.hid (below_of_grown HB1.out hg2 (Nat.le_refl _))
  clear hC2 hg2
  go_wp2_with fail
  refine (pick_any _ _ w.heap.size o n c a2 w.heap.size HC2.out HD2.out (Nat.le_refl _) (by omega) hn (by omega) (by omega)).mono ?_
  rintro e w3 ⟨_, a3, ⟨q, rfl, hq0, hq1⟩, l5, l6, rfl, hC3, hg3⟩
  go_wp2
  go_ret2
  exact ⟨_, _, rfl, below_of_grown HB2.out hg3 (Nat.le_refl _)⟩

set_option maxRecDepth 100000 in
set_option maxHeartbeats 2000000 in
theorem drawGoodCred_any (w : World) (o : Option Addr) (n c : Nat) (hD : CodeAt w w.heap.size o n) (hn : n ≤ 2000000) :
    Calls Try.prog 19 #[.slice o n c] w (DrawCredP w) := by
  have HD := Lib.hid hD
  clear hD
  go_enter Try.func19, Try.ntmps19
  go_wp2_with fail
  refine (cred_any _ (w.heap.size + 1) o n c 0 w.heap.size (by simpa using Cur.made (w.alloc (.cells #[.int .i64 0, .int .i64 0] 25)) o n c 52) ((HD.out.alloc (Nat.le_refl _) _).alloc (by simp) _) (by omega) (by omega) hn).mono ?_
  rintro e w1 ⟨_, a1, ⟨u, g, rfl⟩, l1, l2, rfl, hC1, hg1⟩
  have HR := Lib.hid (((TwoAt.made w (.int .i64 0) (.int .i64 0) 25).alloc (.cells #[.slice o n c, .int .i64 0, .int .u64 0] 52)).step hg1 (by omega))
  obtain ⟨r0, r1, r2, r3, r4⟩ := HR.out
  have HB1 := Lib.hid (below_of_grown (((Below.refl _ w).alloc (Nat.le_refl _) _).alloc (by simp) _) hg1 (by omega))
  clear hC1 hg1
  go_wp2
  refine bodyPost_ret (v := .agg #[.int .i64 u, .int .i64 g]) (by simp [results, Try.results19, go_sem, r0, r1]) rfl ?_
  exact ⟨_, _, rfl, (HB1.out.setCell (Nat.le_refl _) _).setCell (Nat.le_refl _) _⟩

set_option maxRecDepth 100000 in
set_option maxHeartbeats 2000000 in
theorem drawMay_any (w : World) (o : Option Addr) (n c : Nat) (hD : CodeAt w w.heap.size o n) (hn : n ≤ 2000000) :
    Calls Try.prog 11 #[.slice o n c] w (DrawMayP w) := by
  have HD := Lib.hid hD
  clear hD
  go_enter Try.func11, Try.ntmps11
  go_wp2_with fail
  refine (cred_any _ (w.heap.size + 1) o n c 0 w.heap.size (by simpa using Cur.made (w.alloc (.cells #[.int .i64 0, .int .i64 0] 25)) o n c 52) ((HD.out.alloc (Nat.le_refl _) _).alloc (by simp) _) (by omega) (by omega) hn).mono ?_
  rintro e w1 ⟨_, a1, ⟨u, g, rfl⟩, l1, l2, rfl, hC1, hg1⟩
  have HR1 := Lib.hid (((TwoAt.made w (.int .i64 0) (.int .i64 0) 25).alloc (.cells #[.slice o n c, .int .i64 0, .int .u64 0] 52)).step hg1 (by omega))
  have hz1 : w.heap.size + 2 ≤ w1.heap.size := by have := hg1.size; simpa using this
  have HB1 := Lib.hid (below_of_grown (((Below.refl _ w).alloc (Nat.le_refl _) _).alloc (by simp) _) hg1 (by omega))
  have HC1 := Lib.hid hC1
  have HD1 := Lib.hid (((HD.out.alloc (Nat.le_refl _) _).alloc (by simp) _).step (show w.heap.size ≤ w.heap.size + 1 by omega) (by simp) hg1)
  clear hC1 hg1
  go_wp2_with fail
  refine (mode_any _ (w.heap.size + 1) o n c a1 w.heap.size HC1.out HD1.out (by omega) (by omega) hn).mono ?_
  rintro e w2 ⟨_, a2, ⟨m, rfl, _, _⟩, l3, l4, rfl, hC2, hg2⟩
  have HR2 := Lib.hid (HR1.out.step hg2 (by omega))
  have hz2 := hg2.size
  have HB2 := Lib.hid (below_of_grown HB1.out hg2 (by omega))
  have HC2 := Lib.hid hC2
  have HD2 := Lib.hid (HD1.out.step (show w.heap.size ≤ w.heap.size + 1 by omega) (by omega) hg2)
  clear hC2 hg2
  go_wp2_with fail
  refine (pick_any _ _ (w.heap.size + 1) o n c a2 w.heap.size HC2.out HD2.out (by omega) (by omega) hn (by omega) (by omega)).mono ?_
  rintro e w3 ⟨_, a3, ⟨uid, rfl, i0, i1⟩, l5, l6, rfl, hC3, hg3⟩
  have HR3 := Lib.hid (HR2.out.step hg3 (by omega))
  have hz3 := hg3.size
  have HB3 := Lib.hid (below_of_grown HB2.out hg3 (by omega))
  have HC3 := Lib.hid hC3
  have HD3 := Lib.hid (HD2.out.step (show w.heap.size ≤ w.heap.size + 1 by omega) (by omega) hg3)
  clear hC3 hg3
  go_wp2_with fail
  refine (pick_any _ _ (w.heap.size + 1) o n c a3 w.heap.size HC3.out HD3.out (by omega) (by omega) hn (by omega) (by omega)).mono ?_
  rintro e w4 ⟨_, a4, ⟨gid, rfl, j0, j1⟩, l7, l8, rfl, hC4, hg4⟩
  have HR4 := Lib.hid (HR3.out.step hg4 (by omega))
  have hz4 := hg4.size
  have HB4 := Lib.hid (below_of_grown HB3.out hg4 (by omega))
  have HC4 := Lib.hid hC4
  have HD4 := Lib.hid (HD3.out.step (show w.heap.size ≤ w.heap.size + 1 by omega) (by omega) hg4)
  clear hC4 hg4
  go_wp2_with fail
  refine (pick_any _ _ (w.heap.size + 1) o n c a4 w.heap.size HC4.out HD4.out (by omega) (by omega) hn (by omega) (by omega)).mono ?_
  rintro e w5 ⟨_, a5, ⟨p, rfl, p0, p1⟩, l9, l10, rfl, hC5, hg5⟩
  have HR5 := Lib.hid (HR4.out.step hg5 (by omega))
  have hz5 := hg5.size
  have HB5 := Lib.hid (below_of_grown HB4.out hg5 (by omega))
  have HC5 := Lib.hid hC5
  have HD5 := Lib.hid (HD4.out.step (show w.heap.size ≤ w.heap.size + 1 by omega) (by omega) hg5)
  clear hC5 hg5
  go_wp2_with fail
  refine (pick_any _ _ (w.heap.size + 1) o n c a5 w.heap.size HC5.out HD5.out (by omega) (by omega) hn (by omega) (by omega)).mono ?_
  rintro e w6 ⟨_, a6, ⟨q, rfl, q0, q1⟩, l11, l12, rfl, hC6, hg6⟩
  have HR6 := Lib.hid (HR5.out.step hg6 (by omega))
  have HB6 := Lib.hid (below_of_grown HB5.out hg6 (by omega))
  clear hC6 hg6
  obtain ⟨r0, r1, r2, r3, r4⟩ := HR6.out
  go_wp2
  refine bodyPost_ret (v := .tuple #[.agg #[.int .i64 u, .int .i64 g], .int .i64 m, .int .i64 uid, .int .i64 gid, .int .i64 (p + q / 29)]) (by simp [results, Try.results11, go_sem, r0, r1]) rfl ?_
  exact ⟨u, g, m, uid, gid, _, rfl, (HB6.out.setCell (Nat.le_refl _) _).setCell (Nat.le_refl _) _⟩
end Go.Proofs.Ytkindoihmcojdaa
