/-
  Contracts of spec.l1Signs, spec.ModeText and impl.ModeText, for every mode, in a world that holds the table impl.tripleTexts.
  Conditions: the ranges and the table's cells that each contract names.
-/
import Derived.Test.YtkindoihmcojdaaDoorOctR
import Derived.BigQuiet
namespace Go.Proofs.YtkindoihmcojdaaDoor
open Go.ChangeShapes Go.WideShapes Go.ChangeAt Go.RowKit Go.Joins
set_option linter.unusedVariables false

/-- The three signs of three bits. -/
def sigL (k : Int) : List Int := [if k / 4 % 2 = 1 then 114 else 45, if k / 2 % 2 = 1 then 119 else 45, if k % 2 = 1 then 120 else 45]
def sig (k : Int) : ByteArray := strOf (sigL k)
/-- The sign of a mode at place j, the highest bit's first. -/
def sgnAt (m : Int) (j : Nat) : Int := match j with
  | 0 => if m / 256 % 2 = 1 then 114 else 45
  | 1 => if m / 128 % 2 = 1 then 119 else 45
  | 2 => if m / 64 % 2 = 1 then 120 else 45
  | 3 => if m / 32 % 2 = 1 then 114 else 45
  | 4 => if m / 16 % 2 = 1 then 119 else 45
  | 5 => if m / 8 % 2 = 1 then 120 else 45
  | 6 => if m / 4 % 2 = 1 then 114 else 45
  | 7 => if m / 2 % 2 = 1 then 119 else 45
  | _ => if m % 2 = 1 then 120 else 45
/-- The first j signs. -/
def preL (m : Int) (j : Nat) : List Int := (List.range j).map (sgnAt m)
theorem preL_succ (m : Int) (j : Nat) : preL m (j + 1) = preL m j ++ [sgnAt m j] := by simp [preL, List.range_succ]
/-- The nine signs of a mode. -/
def signs (m : Int) : ByteArray := strOf (preL m 9)
theorem signs_eq (m : Int) : sig (m / 64) ++ sig (m / 8 % 8) ++ sig (m % 8) = signs m := by
  unfold sig signs
  rw [strOf_add, strOf_add]
  congr 1
  show [_, _, _, _, _, _, _, _, _] = [sgnAt m 0, sgnAt m 1, sgnAt m 2, sgnAt m 3, sgnAt m 4, sgnAt m 5, sgnAt m 6, sgnAt m 7, sgnAt m 8]
  simp only [sgnAt]
  rw [show m / 64 / 4 % 2 = m / 256 % 2 by omega, show m / 64 / 2 % 2 = m / 128 % 2 by omega, show m / 8 % 8 / 4 % 2 = m / 32 % 2 by omega, show m / 8 % 8 / 2 % 2 = m / 16 % 2 by omega, show m / 8 % 8 % 2 = m / 8 % 2 by omega,
    show m % 8 / 4 % 2 = m / 4 % 2 by omega, show m % 8 / 2 % 2 = m / 2 % 2 by omega, show m % 8 % 2 = m % 2 by omega]
theorem sg_step (m : Int) (j : Nat) (c : Int) (X : ByteArray) (hX : X = strOf [c]) (hc : sgnAt m j = c) : strOf (preL m j) ++ X = strOf (preL m (j + 1)) := by
  rw [preL_succ, ← strOf_add, hX, hc]

theorem strOf_size (l : List Int) : (strOf l).size = l.length := by simp [strOf, ByteArray.size]
theorem sig_size (k : Int) : (sig k).size = 3 := strOf_size _

/-- The table's cells hold the eight texts. -/
def Tab (w : World) : Prop := 0 < w.heap.size ∧ ∀ k : Int, 0 ≤ k → k ≤ 7 → w.cell? ⟨0, k.toNat, none⟩ = some (.string (sig k))
theorem Tab.below {B : Nat} {w w' : World} (h : Tab w) (hb : Below B w w') (hB : 0 < B) : Tab w' :=
  ⟨Nat.lt_of_lt_of_le h.1 hb.size, fun k h0 h1 => by rw [hb.cell (p := ⟨0, k.toNat, none⟩) hB]; exact h.2 k h0 h1⟩

theorem ret_sb {a b : ByteArray} {c : Bool} (h : a = b) : Ending.returned (.tuple #[.string a, .bool c]) = .returned (.tuple #[.string b, .bool c]) := by rw [h]

set_option maxHeartbeats 400000 in
theorem implModeText_yes (m : Int) (w : World) (h : inB 0 511 m = true) (ht : Tab w) :
    Calls Tryd.prog 8 #[.int .i64 m] w fun e w' => e = .returned (.tuple #[.string (signs m), .bool true]) ∧ Below w.heap.size w w' := by
  obtain ⟨h0, h1⟩ := inB_t h
  have t1 := ht.2 (m / 64) (by omega) (by omega)
  have t2 := ht.2 (m / 8 % 8) (by omega) (by omega)
  have t3 := ht.2 (m % 8) (by omega) (by omega)
  have k1 : 0 ≤ m / 64 := by omega
  have k2 : m / 64 < 8 := by omega
  have k3 : 0 ≤ m / 8 % 8 := by omega
  have k4 : m / 8 % 8 < 8 := by omega
  have k5 : 0 ≤ m % 8 := by omega
  have k6 : m % 8 < 8 := by omega
  have ad1 : ∀ W : World, (Op.stringOp .add (sig (m / 64)) (sig (m / 8 % 8))).run Tryd.prog W = .ok (.string (sig (m / 64) ++ sig (m / 8 % 8))) W := fun W => run_string_add_sum W _ _ (by rw [sig_size, sig_size]; omega)
  have ad2 : ∀ W : World, (Op.stringOp .add (sig (m / 64) ++ sig (m / 8 % 8)) (sig (m % 8))).run Tryd.prog W = .ok (.string (sig (m / 64) ++ sig (m / 8 % 8) ++ sig (m % 8))) W := fun W => run_string_add_sum W _ _ (by rw [ByteArray.size_append, sig_size, sig_size, sig_size]; omega)
  go_enter Tryd.func8, Tryd.ntmps8
  go_wp2_with (first | (go_at_call 23; refine (isMode_any _ _).mono ?_; rintro e w' ⟨rfl, rfl⟩) | (go_at_call 24; refine (triples _ _ h0 h1).mono ?_; rintro e w' ⟨rfl, rfl⟩))
  go_quiet (fail)
  go_wp2
  go_ret2
  exact ⟨ret_sb (signs_eq m), ⟨rfl, rfl, rfl, Nat.le_refl _, fun _ _ => rfl⟩⟩

set_option maxHeartbeats 400000 in
theorem implModeText_no (m : Int) (w : World) (h : inB 0 511 m = false) :
    Calls Tryd.prog 8 #[.int .i64 m] w fun e w' => e = .returned (.tuple #[.string ⟨#[]⟩, .bool false]) ∧ Below w.heap.size w w' := by
  go_enter Tryd.func8, Tryd.ntmps8
  go_wp2_with (go_at_call 23; refine (isMode_any _ _).mono ?_; rintro e w' ⟨rfl, rfl⟩)
  go_ret2
  exact ⟨rfl, Below.refl _ _⟩

theorem and1_fin : ∀ n : Fin 512, bits BinOp.and IntKind.i64 (n.val : Int) 1 = ((n.val % 2 : Nat) : Int) := by decide +kernel
theorem and1 (m : Int) (h0 : 0 ≤ m) (h1 : m ≤ 511) : bits BinOp.and IntKind.i64 m 1 = m % 2 := by
  have h := and1_fin ⟨m.toNat, by omega⟩
  simp only [] at h
  rw [show ((m.toNat : Nat) : Int) = m by omega] at h
  rw [h]; omega

set_option maxHeartbeats 1000000 in
theorem l1Signs_any (m : Int) (w : World) (h0 : 0 ≤ m) (h1 : m ≤ 511) :
    Calls Tryd.prog 26 #[.int .i64 m] w fun e w' => e = .returned (.string (signs m)) ∧ w = w' := by
  go_enter Tryd.func26, Tryd.ntmps26
  go_wp2
  go_loop [3, 4] (fun s i => ∃ j : Nat, j ≤ 9 ∧ i = .int .i64 (8 - (j : Int)) ∧ s = .string (strOf (preL m j))) (fun _ i => (intOf i + 1).toNat)
  case atStart => exact ⟨0, by omega, rfl, rfl⟩
  case round =>
    obtain ⟨j, hj, rfl, rfl⟩ := hrel
    rcases (show j = 0 ∨ j = 1 ∨ j = 2 ∨ j = 3 ∨ j = 4 ∨ j = 5 ∨ j = 6 ∨ j = 7 ∨ j = 8 ∨ j = 9 by omega) with rfl | rfl | rfl | rfl | rfl | rfl | rfl | rfl | rfl | rfl
    · have hB := and1 (m / 256) (by omega) (by omega)
      by_cases hc : m / 256 % 2 = 1
      · have hc1 : (m / 256 % 2 == 1) = true := by simpa using hc
        have HC := Lib.hid hc
        clear hc
        go_wp2
        go_round
        case rel => exact ⟨1, by omega, rfl, congrArg Value.string (sg_step m 0 114 _ rfl (if_pos HC.out))⟩
        case measure => simp [intOf]
      · have hc1 : (m / 256 % 2 == 1) = false := by simpa using hc
        have HC := Lib.hid hc
        clear hc
        go_wp2
        go_round
        case rel => exact ⟨1, by omega, rfl, congrArg Value.string (sg_step m 0 45 _ rfl (if_neg HC.out))⟩
        case measure => simp [intOf]
    · have hB := and1 (m / 128) (by omega) (by omega)
      by_cases hc : m / 128 % 2 = 1
      · have hc1 : (m / 128 % 2 == 1) = true := by simpa using hc
        have HC := Lib.hid hc
        clear hc
        go_wp2
        go_round
        case rel => exact ⟨2, by omega, rfl, congrArg Value.string (sg_step m 1 119 _ rfl (if_pos HC.out))⟩
        case measure => simp [intOf]
      · have hc1 : (m / 128 % 2 == 1) = false := by simpa using hc
        have HC := Lib.hid hc
        clear hc
        go_wp2
        go_round
        case rel => exact ⟨2, by omega, rfl, congrArg Value.string (sg_step m 1 45 _ rfl (if_neg HC.out))⟩
        case measure => simp [intOf]
    · have hB := and1 (m / 64) (by omega) (by omega)
      by_cases hc : m / 64 % 2 = 1
      · have hc1 : (m / 64 % 2 == 1) = true := by simpa using hc
        have HC := Lib.hid hc
        clear hc
        go_wp2
        go_round
        case rel => exact ⟨3, by omega, rfl, congrArg Value.string (sg_step m 2 120 _ rfl (if_pos HC.out))⟩
        case measure => simp [intOf]
      · have hc1 : (m / 64 % 2 == 1) = false := by simpa using hc
        have HC := Lib.hid hc
        clear hc
        go_wp2
        go_round
        case rel => exact ⟨3, by omega, rfl, congrArg Value.string (sg_step m 2 45 _ rfl (if_neg HC.out))⟩
        case measure => simp [intOf]
    · have hB := and1 (m / 32) (by omega) (by omega)
      by_cases hc : m / 32 % 2 = 1
      · have hc1 : (m / 32 % 2 == 1) = true := by simpa using hc
        have HC := Lib.hid hc
        clear hc
        go_wp2
        go_round
        case rel => exact ⟨4, by omega, rfl, congrArg Value.string (sg_step m 3 114 _ rfl (if_pos HC.out))⟩
        case measure => simp [intOf]
      · have hc1 : (m / 32 % 2 == 1) = false := by simpa using hc
        have HC := Lib.hid hc
        clear hc
        go_wp2
        go_round
        case rel => exact ⟨4, by omega, rfl, congrArg Value.string (sg_step m 3 45 _ rfl (if_neg HC.out))⟩
        case measure => simp [intOf]
    · have hB := and1 (m / 16) (by omega) (by omega)
      by_cases hc : m / 16 % 2 = 1
      · have hc1 : (m / 16 % 2 == 1) = true := by simpa using hc
        have HC := Lib.hid hc
        clear hc
        go_wp2
        go_round
        case rel => exact ⟨5, by omega, rfl, congrArg Value.string (sg_step m 4 119 _ rfl (if_pos HC.out))⟩
        case measure => simp [intOf]
      · have hc1 : (m / 16 % 2 == 1) = false := by simpa using hc
        have HC := Lib.hid hc
        clear hc
        go_wp2
        go_round
        case rel => exact ⟨5, by omega, rfl, congrArg Value.string (sg_step m 4 45 _ rfl (if_neg HC.out))⟩
        case measure => simp [intOf]
    · have hB := and1 (m / 8) (by omega) (by omega)
      by_cases hc : m / 8 % 2 = 1
      · have hc1 : (m / 8 % 2 == 1) = true := by simpa using hc
        have HC := Lib.hid hc
        clear hc
        go_wp2
        go_round
        case rel => exact ⟨6, by omega, rfl, congrArg Value.string (sg_step m 5 120 _ rfl (if_pos HC.out))⟩
        case measure => simp [intOf]
      · have hc1 : (m / 8 % 2 == 1) = false := by simpa using hc
        have HC := Lib.hid hc
        clear hc
        go_wp2
        go_round
        case rel => exact ⟨6, by omega, rfl, congrArg Value.string (sg_step m 5 45 _ rfl (if_neg HC.out))⟩
        case measure => simp [intOf]
    · have hB := and1 (m / 4) (by omega) (by omega)
      by_cases hc : m / 4 % 2 = 1
      · have hc1 : (m / 4 % 2 == 1) = true := by simpa using hc
        have HC := Lib.hid hc
        clear hc
        go_wp2
        go_round
        case rel => exact ⟨7, by omega, rfl, congrArg Value.string (sg_step m 6 114 _ rfl (if_pos HC.out))⟩
        case measure => simp [intOf]
      · have hc1 : (m / 4 % 2 == 1) = false := by simpa using hc
        have HC := Lib.hid hc
        clear hc
        go_wp2
        go_round
        case rel => exact ⟨7, by omega, rfl, congrArg Value.string (sg_step m 6 45 _ rfl (if_neg HC.out))⟩
        case measure => simp [intOf]
    · have hB := and1 (m / 2) (by omega) (by omega)
      by_cases hc : m / 2 % 2 = 1
      · have hc1 : (m / 2 % 2 == 1) = true := by simpa using hc
        have HC := Lib.hid hc
        clear hc
        go_wp2
        go_round
        case rel => exact ⟨8, by omega, rfl, congrArg Value.string (sg_step m 7 119 _ rfl (if_pos HC.out))⟩
        case measure => simp [intOf]
      · have hc1 : (m / 2 % 2 == 1) = false := by simpa using hc
        have HC := Lib.hid hc
        clear hc
        go_wp2
        go_round
        case rel => exact ⟨8, by omega, rfl, congrArg Value.string (sg_step m 7 45 _ rfl (if_neg HC.out))⟩
        case measure => simp [intOf]
    · have hB := and1 (m) (by omega) (by omega)
      by_cases hc : m % 2 = 1
      · have hc1 : (m % 2 == 1) = true := by simpa using hc
        have HC := Lib.hid hc
        clear hc
        go_wp2
        go_round
        case rel => exact ⟨9, by omega, rfl, congrArg Value.string (sg_step m 8 120 _ rfl (if_pos HC.out))⟩
        case measure => simp [intOf]
      · have hc1 : (m % 2 == 1) = false := by simpa using hc
        have HC := Lib.hid hc
        clear hc
        go_wp2
        go_round
        case rel => exact ⟨9, by omega, rfl, congrArg Value.string (sg_step m 8 45 _ rfl (if_neg HC.out))⟩
        case measure => simp [intOf]
    · go_wp2
      go_ret
      exact ⟨rfl, rfl⟩

set_option maxHeartbeats 400000 in
theorem specModeText_yes (m : Int) (w : World) (h : inB 0 511 m = true) :
    Calls Tryd.prog 9 #[.int .i64 m] w fun e w' => e = .returned (.tuple #[.string (signs m), .bool true]) ∧ w = w' := by
  obtain ⟨h0, h1⟩ := inB_t h
  go_enter Tryd.func9, Tryd.ntmps9
  go_wp2_with (first | (go_at_call 25; refine (l1Mode_any _ _).mono ?_; rintro e w' ⟨rfl, rfl⟩) | (go_at_call 26; refine (l1Signs_any _ _ h0 h1).mono ?_; rintro e w1 ⟨rfl, rfl⟩))
  go_ret2
  exact ⟨rfl, rfl⟩

set_option maxHeartbeats 400000 in
theorem specModeText_no (m : Int) (w : World) (h : inB 0 511 m = false) :
    Calls Tryd.prog 9 #[.int .i64 m] w fun e w' => e = .returned (.tuple #[.string ⟨#[]⟩, .bool false]) ∧ w = w' := by
  go_enter Tryd.func9, Tryd.ntmps9
  go_wp2_with (go_at_call 25; refine (l1Mode_any _ _).mono ?_; rintro e w' ⟨rfl, rfl⟩)
  go_ret2
  exact ⟨rfl, rfl⟩
end Go.Proofs.YtkindoihmcojdaaDoor
