/-
  The contract of spec.DrawChangeMode: some mode and some short text, nothing old turned.
  Conditions: a readable slice of at most 2000000 bytes.
-/
import Derived.Test.YtkindoihmcojdaaDoorCurS
namespace Go.Proofs.YtkindoihmcojdaaDoor
open Go.ChangeShapes Go.WideShapes Go.ChangeAt Go.RowKit Go.Joins
set_option linter.unusedVariables false

def whoTexts : List ByteArray := [⟨#[117]⟩, ⟨#[103]⟩, ⟨#[111]⟩, ⟨#[97]⟩, ⟨#[117, 103]⟩, ⟨#[103, 111]⟩, ⟨#[117, 103, 111]⟩, ⟨#[]⟩, ⟨#[117, 117]⟩, ⟨#[120]⟩]
def signTexts : List ByteArray := [⟨#[43]⟩, ⟨#[45]⟩, ⟨#[61]⟩, ⟨#[43]⟩, ⟨#[45]⟩, ⟨#[61]⟩]
def whatTexts : List ByteArray := [⟨#[114]⟩, ⟨#[119]⟩, ⟨#[120]⟩, ⟨#[114, 119]⟩, ⟨#[114, 119, 120]⟩, ⟨#[]⟩, ⟨#[114, 114]⟩, ⟨#[122]⟩]

set_option maxRecDepth 100000 in
set_option maxHeartbeats 2000000 in
theorem drawChangeMode_any (w : World) (o : Option Addr) (n c : Nat) (hD : CodeAt w w.heap.size o n) (hn : n ≤ 2000000) :
    Calls Tryd.prog 18 #[.slice o n c] w (DrawIntStrP w) := by
  have HD := Lib.hid hD
  clear hD
  go_enter Tryd.func18, Tryd.ntmps18
  go_wp2_with fail
  refine (mode_any _ w.heap.size o n c 0 w.heap.size (Cur.made w o n c _) (HD.out.alloc (Nat.le_refl _) _) (Nat.le_refl _) (by omega) hn).mono ?_
  rintro e w1 ⟨_, a1, ⟨x, rfl, hx0, hx1⟩, l1, l2, rfl, hC1, hg1⟩
  have HC1 := Lib.hid hC1
  have HD1 := Lib.hid ((HD.out.alloc (Nat.le_refl _) _).step (Nat.le_refl _) (by simp) hg1)
  have hz1 : w.heap.size + 1 ≤ w1.heap.size := by have := hg1.size; simpa using this
  have HB1 := Lib.hid (below_of_grown ((Below.refl _ w).alloc (Nat.le_refl _) _) hg1 (Nat.le_refl _))
  clear hC1 hg1
  go_wp2_with fail
  refine (of_any 3 _ 10 _ w.heap.size o n c a1 w.heap.size (HC1.out.alloc _) (HD1.out.alloc (by omega) _) (Nat.le_refl _) (by omega) hn (by omega) (by omega) (strs_new w1 whoTexts _ 3 (by decide)) (by simp) (by omega)).mono ?_
  rintro e w2 ⟨_, a2, ⟨s1, rfl, hs1⟩, l3, l4, rfl, hC2, hg2⟩
  have hz2 : w1.heap.size + 1 ≤ w2.heap.size := by have := hg2.size; simpa using this
  have HC2 := Lib.hid hC2
  have HD2 := Lib.hid ((HD1.out.alloc (by omega) _).step (Nat.le_refl _) (by simp; omega) hg2)
  have HB2 := Lib.hid (below_of_grown (HB1.out.alloc (by omega) _) hg2 (Nat.le_refl _))
  clear hC2 hg2
  go_wp2_with fail
  refine (of_any 3 _ 6 _ w.heap.size o n c a2 w.heap.size (HC2.out.alloc _) (HD2.out.alloc (by omega) _) (Nat.le_refl _) (by omega) hn (by omega) (by omega) (strs_new w2 signTexts _ 3 (by decide)) (by simp) (by omega)).mono ?_
  rintro e w3 ⟨_, a3, ⟨s2, rfl, hs2⟩, l5, l6, rfl, hC3, hg3⟩
  have hz3 : w2.heap.size + 1 ≤ w3.heap.size := by have := hg3.size; simpa using this
  have HC3 := Lib.hid hC3
  have HD3 := Lib.hid ((HD2.out.alloc (by omega) _).step (Nat.le_refl _) (by simp; omega) hg3)
  have HB3 := Lib.hid (below_of_grown (HB2.out.alloc (by omega) _) hg3 (Nat.le_refl _))
  clear hC3 hg3
  have ad1 := add_ok s1 s2 (by omega)
  go_wp2_with fail
  refine (of_any 3 _ 8 _ w.heap.size o n c a3 w.heap.size (HC3.out.alloc _) (HD3.out.alloc (by omega) _) (Nat.le_refl _) (by omega) hn (by omega) (by omega) (strs_new w3 whatTexts _ 3 (by decide)) (by simp) (by omega)).mono ?_
  rintro e w4 ⟨_, a4, ⟨s3, rfl, hs3⟩, l7, l8, rfl, hC4, hg4⟩
  have HB4 := Lib.hid (below_of_grown (HB3.out.alloc (by omega) _) hg4 (Nat.le_refl _))
  clear hC4 hg4
  have ad2 := add_ok (s1 ++ s2) s3 (by rw [ByteArray.size_append]; omega)
  go_wp2
  go_ret2
  exact ⟨x, s1 ++ s2 ++ s3, by rw [ByteArray.size_append, ByteArray.size_append]; omega, rfl, HB4.out⟩
end Go.Proofs.YtkindoihmcojdaaDoor
