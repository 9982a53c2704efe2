/-
  Contracts of impl.ReadOctal and spec.ReadOctal, for every text: the mode whose three digits it is, and true; or 0 and false.
  Conditions: as each contract names.
-/
import Derived.Test.YtkindoihmcojdaaDoorOctC
namespace Go.Proofs.YtkindoihmcojdaaDoor
open Go.ChangeShapes Go.WideShapes Go.ChangeAt Go.RowKit Go.Joins
set_option linter.unusedVariables false

theorem or8_fin : ∀ (x : Fin 64) (y : Fin 8), bits BinOp.or IntKind.i64 ((x.val : Int) * 8) (y.val : Int) = ((x.val * 8 + y.val : Nat) : Int) := by decide +kernel
theorem or8 (x y : Int) (h0 : 0 ≤ x) (h1 : x ≤ 63) (h2 : 0 ≤ y) (h3 : y ≤ 7) : bits BinOp.or IntKind.i64 (x * 8) y = x * 8 + y := by
  have h := or8_fin ⟨x.toNat, by omega⟩ ⟨y.toNat, by omega⟩
  simp only [] at h
  rw [show ((x.toNat : Nat) : Int) = x by omega, show ((y.toNat : Nat) : Int) = y by omega] at h
  rw [h]; omega
theorem ret_ib {k : IntKind} {a b : Int} {c : Bool} (h : a = b) : Ending.returned (.tuple #[.int k a, .bool c]) = .returned (.tuple #[.int k b, .bool c]) := by rw [h]
theorem or_zero (y : Int) (h2 : 0 ≤ y) (h3 : y ≤ 7) : bits BinOp.or IntKind.i64 0 y = y := by
  have := or8 0 y (by omega) (by omega) h2 h3
  simpa using this
theorem octal_sum (x y z : Int) (hx0 : 48 ≤ x) (hx1 : x ≤ 55) (hy0 : 48 ≤ y) (hy1 : y ≤ 55) (hz0 : 48 ≤ z) (hz1 : z ≤ 55) :
    bits BinOp.or IntKind.i64 (wrap64 (bits BinOp.or IntKind.i64 (wrap64 (bits BinOp.or IntKind.i64 0 (x - 48) * 8)) (y - 48) * 8)) (z - 48) = (x - 48) * 64 + (y - 48) * 8 + (z - 48) := by
  rw [or_zero (x - 48) (by omega) (by omega), IntWalk.wrap64_in ((x - 48) * 8) (by omega), or8 (x - 48) (y - 48) (by omega) (by omega) (by omega) (by omega),
    IntWalk.wrap64_in (((x - 48) * 8 + (y - 48)) * 8) (by omega), or8 ((x - 48) * 8 + (y - 48)) (z - 48) (by omega) (by omega) (by omega) (by omega)]
  omega

theorem text_inj {a b : ByteArray} (h : a.toList = b.toList) : a = b := by
  apply bytes_inj
  rw [← Lib.toList_data, ← Lib.toList_data]
  exact h

theorem three (s : ByteArray) (h : s.size = 3) : ∃ x y z : UInt8, s = ⟨#[x, y, z]⟩ := by
  obtain ⟨⟨l⟩⟩ := s
  match l, h with
  | [x, y, z], _ => exact ⟨x, y, z, rfl⟩

theorem byteOf (x : UInt8) (n : Int) (h : n = (x.toNat : Int)) : UInt8.ofNat n.toNat = x := by
  subst h
  simp

/-- Three digits are the text of a mode. -/
theorem oct_of (x y z : UInt8) (hx0 : 48 ≤ (x.toNat : Int)) (hx1 : (x.toNat : Int) ≤ 55) (hy0 : 48 ≤ (y.toNat : Int)) (hy1 : (y.toNat : Int) ≤ 55) (hz0 : 48 ≤ (z.toNat : Int)) (hz1 : (z.toNat : Int) ≤ 55) :
    oct (((x.toNat : Int) - 48) * 64 + ((y.toNat : Int) - 48) * 8 + ((z.toNat : Int) - 48)) = ⟨#[x, y, z]⟩ := by
  unfold oct strOf
  simp only [List.map_cons, List.map_nil]
  rw [byteOf x _ (by omega), byteOf y _ (by omega), byteOf z _ (by omega)]

theorem oct_bytes (m : Int) (h0 : 0 ≤ m) (h1 : m ≤ 511) : ∃ x y z : UInt8, oct m = ⟨#[x, y, z]⟩ ∧ (x.toNat : Int) = 48 + m / 64 ∧ (y.toNat : Int) = 48 + m / 8 % 8 ∧ (z.toNat : Int) = 48 + m % 8 := by
  refine ⟨UInt8.ofNat (48 + m / 64).toNat, UInt8.ofNat (48 + m / 8 % 8).toNat, UInt8.ofNat (48 + m % 8).toNat, rfl, ?_, ?_, ?_⟩
  all_goals
    rw [UInt8.toNat_ofNat']
    omega

theorem oct_inj (a b : Int) (ha0 : 0 ≤ a) (ha1 : a ≤ 511) (hb0 : 0 ≤ b) (hb1 : b ≤ 511) (h : oct a = oct b) : a = b := by
  obtain ⟨x, y, z, e, e0, e1, e2⟩ := oct_bytes a ha0 ha1
  obtain ⟨x', y', z', e', e0', e1', e2'⟩ := oct_bytes b hb0 hb1
  rw [e, e'] at h
  injection h with h
  simp at h
  obtain ⟨rfl, rfl, rfl⟩ := h
  omega

set_option maxHeartbeats 400000 in
theorem implRead3 (x y z : UInt8) (w : World) (hx0 : 48 ≤ (x.toNat : Int)) (hx1 : (x.toNat : Int) ≤ 55) (hy0 : 48 ≤ (y.toNat : Int)) (hy1 : (y.toNat : Int) ≤ 55) (hz0 : 48 ≤ (z.toNat : Int)) (hz1 : (z.toNat : Int) ≤ 55) :
    Calls Tryd.prog 13 #[.string ⟨#[x, y, z]⟩] w fun e w' => e = .returned (.tuple #[.int .i64 (((x.toNat : Int) - 48) * 64 + ((y.toNat : Int) - 48) * 8 + ((z.toNat : Int) - 48)), .bool true]) ∧ w = w' := by
  have g0 : ∀ h, (⟨#[x, y, z]⟩ : ByteArray)[0]'h = x := fun _ => rfl
  have g1 : ∀ h, (⟨#[x, y, z]⟩ : ByteArray)[1]'h = y := fun _ => rfl
  have g2 : ∀ h, (⟨#[x, y, z]⟩ : ByteArray)[2]'h = z := fun _ => rfl
  go_enter Tryd.func13, Tryd.ntmps13
  go_wp2
  go_rounds 4
  go_ret2
  exact ⟨ret_ib (octal_sum _ _ _ hx0 hx1 hy0 hy1 hz0 hz1), rfl⟩

def BadB (x : UInt8) : Prop := (x.toNat : Int) < 48 ∨ 55 < (x.toNat : Int)
def GoodB (x : UInt8) : Prop := 48 ≤ (x.toNat : Int) ∧ (x.toNat : Int) ≤ 55

set_option maxHeartbeats 400000 in
theorem implRead3_no (x y z : UInt8) (w : World) (h : BadB x ∨ (GoodB x ∧ BadB y) ∨ (GoodB x ∧ GoodB y ∧ BadB z)) :
    Calls Tryd.prog 13 #[.string ⟨#[x, y, z]⟩] w fun e w' => e = .returned (.tuple #[.int .i64 0, .bool false]) ∧ w = w' := by
  have g0 : ∀ h, (⟨#[x, y, z]⟩ : ByteArray)[0]'h = x := fun _ => rfl
  have g1 : ∀ h, (⟨#[x, y, z]⟩ : ByteArray)[1]'h = y := fun _ => rfl
  have g2 : ∀ h, (⟨#[x, y, z]⟩ : ByteArray)[2]'h = z := fun _ => rfl
  rcases h with (h | h) | ⟨⟨a, b⟩, h | h⟩ | ⟨⟨a, b⟩, ⟨c, d⟩, h | h⟩
  all_goals
    go_enter Tryd.func13, Tryd.ntmps13
    go_wp2
    go_rounds 4
    go_ret2
    exact ⟨rfl, rfl⟩

set_option maxHeartbeats 400000 in
theorem implRead_long (s : ByteArray) (w : World) (hs : s.size ≤ maxLen) (h : s.size ≠ 3) :
    Calls Tryd.prog 13 #[.string s] w fun e w' => e = .returned (.tuple #[.int .i64 0, .bool false]) ∧ w = w' := by
  unfold maxLen at hs
  have h1 : ((s.size : Int) == 3) = false := by rw [beq_eq_false_iff_ne]; omega
  have h2 : ((s.size : Int) != 3) = true := by rw [bne_iff_ne]; omega
  have H := Lib.hid h
  clear h
  go_enter Tryd.func13, Tryd.ntmps13
  go_wp2
  go_ret2
  exact ⟨rfl, rfl⟩

/-- impl.ReadOctal at a text that is a mode's. -/
theorem implRead_yes (m : Int) (w : World) (h0 : 0 ≤ m) (h1 : m ≤ 511) :
    Calls Tryd.prog 13 #[.string (oct m)] w fun e w' => e = .returned (.tuple #[.int .i64 m, .bool true]) ∧ w = w' := by
  obtain ⟨x, y, z, e, e0, e1, e2⟩ := oct_bytes m h0 h1
  rw [e]
  refine (implRead3 x y z w (by omega) (by omega) (by omega) (by omega) (by omega) (by omega)).mono ?_
  rintro e' w' ⟨rfl, rfl⟩
  exact ⟨ret_ib (by omega), rfl⟩

/-- No mode has this text. -/
def NoOct (s : ByteArray) : Prop := ∀ m : Int, 0 ≤ m → m ≤ 511 → oct m ≠ s

theorem implRead_no (s : ByteArray) (w : World) (hs : s.size ≤ maxLen) (h : NoOct s) :
    Calls Tryd.prog 13 #[.string s] w fun e w' => e = .returned (.tuple #[.int .i64 0, .bool false]) ∧ w = w' := by
  by_cases h3 : s.size = 3
  · obtain ⟨x, y, z, rfl⟩ := three s h3
    refine implRead3_no x y z w ?_
    unfold BadB GoodB
    rcases Decidable.em ((48 ≤ (x.toNat : Int) ∧ (x.toNat : Int) ≤ 55) ∧ (48 ≤ (y.toNat : Int) ∧ (y.toNat : Int) ≤ 55) ∧ (48 ≤ (z.toNat : Int) ∧ (z.toNat : Int) ≤ 55)) with k | k
    · exact absurd (oct_of x y z k.1.1 k.1.2 k.2.1.1 k.2.1.2 k.2.2.1 k.2.2.2) (h _ (by omega) (by omega))
    · omega
  · exact implRead_long s w hs h3

set_option maxRecDepth 100000 in
set_option maxHeartbeats 400000 in
theorem specRead_no (s : ByteArray) (w : World) (h : NoOct s) :
    Calls Tryd.prog 17 #[.string s] w fun e w' => e = .returned (.tuple #[.int .i64 0, .bool false]) ∧ Below w.heap.size w w' := by
  have H := Lib.hid h
  clear h
  go_enter Tryd.func17, Tryd.ntmps17
  go_wp2
  go_loopw [4] (fun i wr => ∃ k : Nat, k ≤ 512 ∧ i = .int .i64 k ∧ Below w.heap.size w wr) (fun i _ => 512 - (intOf i).toNat)
  case atStart => exact ⟨0, by omega, rfl, Below.refl _ _⟩
  case round =>
    obtain ⟨k, hk, rfl, hb⟩ := hrel
    by_cases hlt : k < 512
    · have hne : ((oct (k : Int)).toList == s.toList) = false := by
        rw [beq_eq_false_iff_ne]
        intro e
        exact H.out (k : Int) (by omega) (by omega) (text_inj e)
      go_wp2_with fail
      refine (l1Octal_any _ _ (by omega) (by omega)).mono ?_
      rintro e w1 ⟨rfl, hb1⟩
      go_wp2
      go_roundw
      case rel => exact ⟨k + 1, by omega, by go_num, hb.trans (hb1.mono hb.size)⟩
      case measure => simp [intOf]; omega
    · go_wp2
      go_ret2
      exact ⟨rfl, hb⟩

set_option maxRecDepth 100000 in
set_option maxHeartbeats 400000 in
theorem specRead_yes (m : Int) (w : World) (h0 : 0 ≤ m) (h1 : m ≤ 511) :
    Calls Tryd.prog 17 #[.string (oct m)] w fun e w' => e = .returned (.tuple #[.int .i64 m, .bool true]) ∧ Below w.heap.size w w' := by
  go_enter Tryd.func17, Tryd.ntmps17
  go_wp2
  go_loopw [4] (fun i wr => ∃ k : Nat, (k : Int) ≤ m ∧ i = .int .i64 k ∧ Below w.heap.size w wr) (fun i _ => 512 - (intOf i).toNat)
  case atStart => exact ⟨0, by omega, rfl, Below.refl _ _⟩
  case round =>
    obtain ⟨k, hk, rfl, hb⟩ := hrel
    by_cases hlt : (k : Int) < m
    · have hne : ((oct (k : Int)).toList == (oct m).toList) = false := by
        rw [beq_eq_false_iff_ne]
        intro e
        have hi := oct_inj (k : Int) m (by omega) (by omega) h0 h1 (text_inj e)
        omega
      go_wp2_with fail
      refine (l1Octal_any _ _ (by omega) (by omega)).mono ?_
      rintro e w1 ⟨rfl, hb1⟩
      go_wp2
      go_roundw
      case rel => exact ⟨k + 1, by omega, by go_num, hb.trans (hb1.mono hb.size)⟩
      case measure => simp [intOf]; omega
    · obtain rfl : m = (k : Int) := by omega
      go_wp2_with fail
      refine (l1Octal_any _ _ (by omega) (by omega)).mono ?_
      rintro e w1 ⟨rfl, hb1⟩
      go_wp2
      go_ret2
      exact ⟨rfl, hb.trans (hb1.mono hb.size)⟩
end Go.Proofs.YtkindoihmcojdaaDoor
