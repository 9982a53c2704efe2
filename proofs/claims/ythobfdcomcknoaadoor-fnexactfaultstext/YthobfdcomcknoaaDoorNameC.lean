
/-
  Contracts of the tests of a name on both sides: impl.isNameSign, impl.isPart, impl.GoodName, spec.l1In, spec.l2Name, spec.GoodName.
  Conditions: a rune is a number of 32 bits; a text's length is a length.
-/
import Derived.Test.YthobfdcomcknoaaDoorInC
import Derived.Test.YthobfdcomcknoaaDoorPathM
import Derived.Lib.OthersKept
namespace Go.Proofs.YthobfdcomcknoaaDoor
open Go.ChangeShapes Go.WideShapes Go.ChangeAt Go.RowKit Go.Joins
set_option linter.unusedVariables false

theorem sign_yes {n : Nat} (h : 97 ≤ n ∧ n ≤ 122 ∨ 48 ≤ n ∧ n ≤ 57 ∨ n = 46 ∨ n = 95 ∨ n = 45) : true = signN n := by simp [signN, h]

set_option maxHeartbeats 1000000 in
theorem sign_any (n : Nat) (w : World) (h : n ≤ 2147483647) : Calls Tryd.prog 29 #[.int .i32 (n : Int)] w fun e w' => e = .returned (.bool (signN n)) ∧ w = w' := by
  go_enter Tryd.func29, Tryd.ntmps29
  go_wp2
  all_goals
    go_ret
    exact ⟨ret_bool (by rw [Bool.eq_iff_iff]; simp [signN]; omega), rfl⟩

theorem below_iter (w : World) (s : ByteArray) (p : Nat) : Below w.heap.size w (w.iter s p) := (Below.refl _ _).alloc (Nat.le_refl _) _

theorem part_no {l : List UInt8} (h : ¬ (1 ≤ l.length ∧ l.length ≤ 8)) : false = partB l := by simp [partB, h]
theorem part_in {l : List UInt8} (h : 1 ≤ l.length ∧ l.length ≤ 8) : partB l = signsB l := by simp [partB, h]
theorem signs_bad {s : ByteArray} {k : Nat} (h : k < s.size) (hb : signN (s[k]'h).toNat = false) : signsB s.data.toList = false := by
  unfold signsB
  rw [List.all_eq_false]
  exact ⟨s[k]'h, List.getElem_mem (by simpa using h), by simp [hb]⟩

set_option maxHeartbeats 1000000 in
theorem isPart_any (s : ByteArray) (w : World) : Calls Tryd.prog 26 #[.string s] w fun e w' => e = .returned (.bool (partB s.data.toList)) ∧ Below w.heap.size w w' := by
  have hl : s.data.toList.length = s.size := len_size s
  by_cases h1 : 1 ≤ s.size
  · by_cases h8 : s.size ≤ 8
    · have e0 : ¬ ((s.size : Int) < 1) := by omega
      have e8 : ¬ (8 < (s.size : Int)) := by omega
      have HP := Lib.hid (part_in (l := s.data.toList) (by omega))
      have HL := Lib.hid hl
      clear hl
      go_enter Tryd.func26, Tryd.ntmps26
      go_wp2
      go_loopw [] (fun wr => ∃ k : Nat, wr = w.iter s k ∧ k ≤ s.size ∧ signsB (s.data.toList.take k) = true) (fun wr => s.size - wr.iterPos w.heap.size)
      case atStart => exact ⟨0, rfl, Nat.zero_le _, rfl⟩
      case round =>
        obtain ⟨k, rfl, hk, hs⟩ := hrel
        have HS := Lib.hid hs
        clear hs
        by_cases hlt : k < s.size
        · by_cases hg : signN (s[k]'hlt).toNat = true
          · have HG := Lib.hid hg
            have hnx := fun ty => run_next_ascii (P := Tryd.prog) w s k ty hlt (signN_lt hg)
            clear hg
            go_wp2_with (go_at_call 29; refine (sign_any _ _ (by have := (s[k]'hlt).toNat_lt; omega)).mono ?_; rintro e w' ⟨rfl, rfl⟩; rw [HG.out])
            go_roundw
            case rel => exact ⟨k + 1, rfl, hlt, by rw [take_snoc' s k hlt, signsB_snoc, HS.out, HG.out]; rfl⟩
            case measure => simp; omega
          · have hr : signN (Utf8.decode s k).1 = false := by
              by_cases ha : (s[k]'hlt).toNat < 128
              · rw [decode_ascii s k hlt ha]; simpa using hg
              · exact signN_hi (decode_high s k hlt (by omega)).1
            have HR := Lib.hid hr
            have HB := Lib.hid (signs_bad hlt (by simpa using hg))
            have hnx := fun ty => run_next_any (P := Tryd.prog) w s k ty hlt
            have hdl := decode_le s k
            clear hg hr
            go_wp2_with (go_at_call 29; refine (sign_any _ _ hdl).mono ?_; rintro e w' ⟨rfl, rfl⟩; rw [HR.out])
            go_ret
            exact ⟨ret_bool (by rw [HP.out, HB.out]), below_iter _ _ _⟩
        · have hnx := fun ty => run_next_end (P := Tryd.prog) w s k ty hlt
          go_wp2
          go_ret
          refine ⟨ret_bool ?_, below_iter _ _ _⟩
          rw [HP.out, ← HS.out, List.take_of_length_le (by rw [HL.out]; omega)]
    · have e0 : ¬ ((s.size : Int) < 1) := by omega
      have HP := Lib.hid (part_no (l := s.data.toList) (by omega))
      clear hl
      go_enter Tryd.func26, Tryd.ntmps26
      go_wp2
      go_ret
      exact ⟨ret_bool HP.out, Below.refl _ _⟩
  · have HP := Lib.hid (part_no (l := s.data.toList) (by omega))
    clear hl
    go_enter Tryd.func26, Tryd.ntmps26
    go_wp2
    go_ret
    exact ⟨ret_bool HP.out, Below.refl _ _⟩
end Go.Proofs.YthobfdcomcknoaaDoor
