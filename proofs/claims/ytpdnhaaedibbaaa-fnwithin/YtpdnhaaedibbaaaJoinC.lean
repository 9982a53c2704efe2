/-
  Contracts of CleanPath and JoinPath on both sides, one sentence each.
  Conditions: texts of at most 2^20 bytes.
-/
import Derived.Test.YtpdnhaaedibbaaaCleanF
namespace Go.Proofs.Ytpdnhaaedibbaaa
open Go.ChangeShapes Go.WideShapes Go.ChangeAt Go.RowKit Go.Joins
set_option linter.unusedVariables false

def cT (l : List UInt8) : List UInt8 := if goodB l then cleanT l else []
theorem cT_yes {l : List UInt8} (h : goodB l = true) : cT l = cleanT l := by simp [cT, h]
theorem cT_no {l : List UInt8} (h : goodB l = false) : cT l = [] := by simp [cT, h]
theorem tup2 {a a' : ByteArray} {b b' : Bool} (h1 : a = a') (h2 : b = b') : Ending.returned (.tuple #[.string a, .bool b]) = .returned (.tuple #[.string a', .bool b']) := by rw [h1, h2]

theorem cleanPath_any (s : ByteArray) (w : World) (hs : s.size ≤ 1073741824) : Calls Try.prog 17 #[.string s] w fun e w' => e = .returned (.tuple #[.string (bs (cT s.data.toList)), .bool (goodB s.data.toList)]) ∧ Below w.heap.size w w' := by
  by_cases h : goodB s.data.toList = true
  · refine (cleanPath_yes s w hs h).mono fun e w' ⟨he, hb⟩ => ⟨?_, hb⟩
    rw [he]; exact tup2 (by rw [cT_yes h]) h.symm
  · have h' : goodB s.data.toList = false := by simpa using h
    refine (cleanPath_no s w hs h').mono fun e w' ⟨he, hb⟩ => ⟨?_, hb⟩
    rw [he]; exact tup2 (by rw [cT_no h']; rfl) h'.symm
theorem specClean_any (s : ByteArray) (w : World) (hs : s.size ≤ 1073741824) : Calls Try.prog 18 #[.string s] w fun e w' => e = .returned (.tuple #[.string (bs (cT s.data.toList)), .bool (goodB s.data.toList)]) ∧ Below w.heap.size w w' := by
  by_cases h : goodB s.data.toList = true
  · refine (specClean_yes s w hs h).mono fun e w' ⟨he, hb⟩ => ⟨?_, hb⟩
    rw [he]; exact tup2 (by rw [cT_yes h]) h.symm
  · have h' : goodB s.data.toList = false := by simpa using h
    refine (specClean_no s w hs h').mono fun e w' ⟨he, hb⟩ => ⟨?_, hb⟩
    rw [he]; exact tup2 (by rw [cT_no h']; rfl) h'.symm

def joinIn (a b : List UInt8) : List UInt8 := if wholeB b then b else a ++ 47 :: b
def okJ (a b : List UInt8) : Bool := goodB a && (goodB b && goodB (joinIn a b))
def joinT (a b : List UInt8) : List UInt8 := if okJ a b then cleanT (joinIn a b) else []
theorem okJ_a {a b : List UInt8} (h : goodB a = false) : okJ a b = false := by simp [okJ, h]
theorem okJ_b {a b : List UInt8} (h : goodB b = false) : okJ a b = false := by simp [okJ, h]
theorem okJ_c {a b : List UInt8} (h1 : goodB a = true) (h2 : goodB b = true) : okJ a b = goodB (joinIn a b) ∧ joinT a b = cT (joinIn a b) := by
  have e : okJ a b = goodB (joinIn a b) := by simp [okJ, h1, h2]
  exact ⟨e, by unfold joinT cT; rw [e]⟩
theorem joinT_no {a b : List UInt8} (h : okJ a b = false) : joinT a b = [] := by simp [joinT, h]
theorem joined (a b : ByteArray) (h : wholeB b.data.toList = false) : joinIn a.data.toList b.data.toList = a.data.toList ++ 47 :: b.data.toList := by
  unfold joinIn; rw [h]; rfl
theorem joined_w (a b : ByteArray) (h : wholeB b.data.toList = true) : b.data.toList = joinIn a.data.toList b.data.toList := by
  unfold joinIn; rw [h]; rfl

set_option maxHeartbeats 1000000 in
theorem joinPath_any (a b : ByteArray) (w : World) (ha : a.size ≤ 1048576) (hb : b.size ≤ 1048576) : Calls Try.prog 27 #[.string a, .string b] w fun e w' => e = .returned (.tuple #[.string (bs (joinT a.data.toList b.data.toList)), .bool (okJ a.data.toList b.data.toList)]) ∧ Below w.heap.size w w' := by
  by_cases g1 : goodB a.data.toList = true
  · have G1 := Lib.hid g1
    by_cases g2 : goodB b.data.toList = true
    · have G2 := Lib.hid g2
      obtain ⟨E1x, E2x⟩ := okJ_c g1 g2
      have E1 := Lib.hid E1x
      have E2 := Lib.hid E2x
      clear E1x E2x
      by_cases hw : wholeB b.data.toList = true
      · have HW := Lib.hid hw
        have HJ := Lib.hid (joined_w a b hw)
        clear g1 g2 hw
        go_enter Try.func27, Try.ntmps27
        go_wp2_with fail
        refine (goodPath_any _ _ (by unfold maxLen; omega)).mono ?_
        rintro e w1 ⟨rfl, hb1⟩
        rw [G1.out]
        go_wp2_with fail
        refine (goodPath_any _ _ (by unfold maxLen; omega)).mono ?_
        rintro e w2 ⟨rfl, hb2⟩
        rw [G2.out]
        go_wp2_with (first | (go_at_call 52; refine (isWhole_any _ _).mono ?_; rintro e w' ⟨rfl, rfl⟩; rw [HW.out]) | fail)
        refine (cleanPath_any _ _ (by omega)).mono ?_
        rintro e w3 ⟨rfl, hb3⟩
        go_wp2
        go_ret2
        exact ⟨tup2 (by rw [E2.out, ← HJ.out]) (by rw [E1.out, ← HJ.out]), (hb1.trans (hb2.mono hb1.size)).trans (hb3.mono (Nat.le_trans hb1.size hb2.size))⟩
      · have HW := Lib.hid (show wholeB b.data.toList = false by simpa using hw)
        have HJ := Lib.hid (joined a b HW.out)
        clear g1 g2 hw
        go_enter Try.func27, Try.ntmps27
        go_wp2_with fail
        refine (goodPath_any _ _ (by unfold maxLen; omega)).mono ?_
        rintro e w1 ⟨rfl, hb1⟩
        rw [G1.out]
        go_wp2_with fail
        refine (goodPath_any _ _ (by unfold maxLen; omega)).mono ?_
        rintro e w2 ⟨rfl, hb2⟩
        rw [G2.out]
        go_wp2_with (first | (go_at_call 52; refine (isWhole_any _ _).mono ?_; rintro e w' ⟨rfl, rfl⟩; rw [HW.out]) | fail)
        refine (cleanPath_any _ _ (by simp only [ByteArray.size_append]; have : (ByteArray.mk #[47]).size = 1 := rfl; omega)).mono ?_
        rintro e w3 ⟨rfl, hb3⟩
        go_wp2
        go_ret2
        exact ⟨tup2 (by rw [E2.out, HJ.out]) (by rw [E1.out, HJ.out]), (hb1.trans (hb2.mono hb1.size)).trans (hb3.mono (Nat.le_trans hb1.size hb2.size))⟩
    · have G2 := Lib.hid (show goodB b.data.toList = false by simpa using g2)
      have E := Lib.hid (okJ_b (a := a.data.toList) G2.out)
      have E2 := Lib.hid (joinT_no E.out)
      clear g1 g2
      go_enter Try.func27, Try.ntmps27
      go_wp2_with fail
      refine (goodPath_any _ _ (by unfold maxLen; omega)).mono ?_
      rintro e w1 ⟨rfl, hb1⟩
      rw [G1.out]
      go_wp2_with fail
      refine (goodPath_any _ _ (by unfold maxLen; omega)).mono ?_
      rintro e w2 ⟨rfl, hb2⟩
      rw [G2.out]
      go_wp2
      go_ret2
      exact ⟨tup2 (by rw [E2.out]; rfl) E.out.symm, hb1.trans (hb2.mono hb1.size)⟩
  · have G1 := Lib.hid (show goodB a.data.toList = false by simpa using g1)
    have E := Lib.hid (okJ_a (b := b.data.toList) G1.out)
    have E2 := Lib.hid (joinT_no E.out)
    clear g1
    go_enter Try.func27, Try.ntmps27
    go_wp2_with fail
    refine (goodPath_any _ _ (by unfold maxLen; omega)).mono ?_
    rintro e w1 ⟨rfl, hb1⟩
    rw [G1.out]
    go_wp2
    go_ret2
    exact ⟨tup2 (by rw [E2.out]; rfl) E.out.symm, hb1⟩

set_option maxHeartbeats 1000000 in
theorem specJoin_any (a b : ByteArray) (w : World) (ha : a.size ≤ 1048576) (hb : b.size ≤ 1048576) : Calls Try.prog 42 #[.string a, .string b] w fun e w' => e = .returned (.tuple #[.string (bs (joinT a.data.toList b.data.toList)), .bool (okJ a.data.toList b.data.toList)]) ∧ Below w.heap.size w w' := by
  by_cases g1 : goodB a.data.toList = true
  · have G1 := Lib.hid g1
    by_cases g2 : goodB b.data.toList = true
    · have G2 := Lib.hid g2
      obtain ⟨E1x, E2x⟩ := okJ_c g1 g2
      have E1 := Lib.hid E1x
      have E2 := Lib.hid E2x
      clear E1x E2x
      have h0 : 0 < b.size := by simp [goodB] at g2; omega
      by_cases hw : (b[0]'h0) = 47
      · have HJ := Lib.hid (joined_w a b (by rw [whole_at h0]; simpa using hw))
        have hw' : ((b[0]'h0).toNat : Int) = 47 := by rw [hw]; rfl
        clear g1 g2 hw
        go_enter Try.func42, Try.ntmps42
        go_wp2_with fail
        refine (l2Path_any _ _ (by omega)).mono ?_
        rintro e w1 ⟨rfl, hb1⟩
        rw [G1.out]
        go_wp2_with fail
        refine (l2Path_any _ _ (by omega)).mono ?_
        rintro e w2 ⟨rfl, hb2⟩
        rw [G2.out]
        go_wp2_with fail
        refine (specClean_any _ _ (by omega)).mono ?_
        rintro e w3 ⟨rfl, hb3⟩
        go_wp2
        go_ret2
        exact ⟨tup2 (by rw [E2.out, ← HJ.out]) (by rw [E1.out, ← HJ.out]), (hb1.trans (hb2.mono hb1.size)).trans (hb3.mono (Nat.le_trans hb1.size hb2.size))⟩
      · have HJ := Lib.hid (joined a b (by rw [whole_at h0]; simpa using hw))
        have hw' : (((b[0]'h0).toNat : Int) == 47) = false := by simpa using not47 hw
        have hw2 : (((b[0]'h0).toNat : Int) != 47) = true := by simpa using not47 hw
        clear g1 g2 hw
        go_enter Try.func42, Try.ntmps42
        go_wp2_with fail
        refine (l2Path_any _ _ (by omega)).mono ?_
        rintro e w1 ⟨rfl, hb1⟩
        rw [G1.out]
        go_wp2_with fail
        refine (l2Path_any _ _ (by omega)).mono ?_
        rintro e w2 ⟨rfl, hb2⟩
        rw [G2.out]
        go_wp2_with fail
        refine (specClean_any _ _ (by simp only [ByteArray.size_append]; have : (ByteArray.mk #[47]).size = 1 := rfl; omega)).mono ?_
        rintro e w3 ⟨rfl, hb3⟩
        go_wp2
        go_ret2
        exact ⟨tup2 (by rw [E2.out, HJ.out]) (by rw [E1.out, HJ.out]), (hb1.trans (hb2.mono hb1.size)).trans (hb3.mono (Nat.le_trans hb1.size hb2.size))⟩
    · have G2 := Lib.hid (show goodB b.data.toList = false by simpa using g2)
      have E := Lib.hid (okJ_b (a := a.data.toList) G2.out)
      have E2 := Lib.hid (joinT_no E.out)
      clear g1 g2
      go_enter Try.func42, Try.ntmps42
      go_wp2_with fail
      refine (l2Path_any _ _ (by omega)).mono ?_
      rintro e w1 ⟨rfl, hb1⟩
      rw [G1.out]
      go_wp2_with fail
      refine (l2Path_any _ _ (by omega)).mono ?_
      rintro e w2 ⟨rfl, hb2⟩
      rw [G2.out]
      go_wp2
      go_ret2
      exact ⟨tup2 (by rw [E2.out]; rfl) E.out.symm, hb1.trans (hb2.mono hb1.size)⟩
  · have G1 := Lib.hid (show goodB a.data.toList = false by simpa using g1)
    have E := Lib.hid (okJ_a (b := b.data.toList) G1.out)
    have E2 := Lib.hid (joinT_no E.out)
    clear g1
    go_enter Try.func42, Try.ntmps42
    go_wp2_with fail
    refine (l2Path_any _ _ (by omega)).mono ?_
    rintro e w1 ⟨rfl, hb1⟩
    rw [G1.out]
    go_wp2
    go_ret2
    exact ⟨tup2 (by rw [E2.out]; rfl) E.out.symm, hb1⟩
end Go.Proofs.Ytpdnhaaedibbaaa
