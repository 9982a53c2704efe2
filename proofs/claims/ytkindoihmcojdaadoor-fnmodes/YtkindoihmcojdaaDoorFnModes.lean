/-
  For every two slices of bytes the law FnModes returns true and its arguments read as before.
  Conditions: the table impl.tripleTexts as the program's text lays it (the card ties it).
-/
import Derived.Test.YtkindoihmcojdaaDoorModesC
import Derived.Test.YtkindoihmcojdaaDoorBigC
import Derived.Test.YtkindoihmcojdaaDoorBytesC
namespace Go.Proofs.YtkindoihmcojdaaDoor.fnModes
open Go.ChangeShapes Go.WideShapes Go.ChangeAt Go.RowKit Go.Joins
set_option linter.unusedVariables false

theorem CodeAt.more {w : World} {B B' : Nat} {o : Option Addr} {n : Nat} (h : CodeAt w B o n) (hB : B ≤ B') : CodeAt w B' o n := by
  intro i hi
  obtain ⟨ad, v, e, hlt, hc, h0, h1⟩ := h i hi
  exact ⟨ad, v, e, by omega, hc, h0, h1⟩

set_option maxRecDepth 100000 in
set_option maxHeartbeats 4000000 in
theorem walk_no (o o' : Option Addr) (n c n' c' : Nat) (w : World) (ht : Tab w) (hD : CodeAt w w.heap.size o n) (hD' : CodeAt w w.heap.size o' n') (hb : bigB n n' = false) (hn : n ≤ 1048576) (hn' : n' ≤ 1048576) :
    Calls Tryd.prog 3 #[.slice o n c, .slice o' n' c'] w fun e w' => e = .returned (.bool true) ∧ Below w.heap.size w w' := by
  have HD := Lib.hid hD
  have HD' := Lib.hid hD'
  have hpos := ht.1
  have HT := Lib.hid ht
  clear hD hD' ht
  go_enter Tryd.func3, Tryd.ntmps3
  go_wp2_with fail
  refine (big_any _ _ _ _ _ _ _ (by omega) (by omega)).mono ?_
  rintro e w' ⟨rfl, rfl⟩
  go_wp2_with fail
  refine (drawModeText_any w o n c HD.out (by omega)).mono ?_
  rintro e w1 ⟨m, rfl, hb1⟩
  have hz1 := hb1.size
  have HB1 := Lib.hid hb1
  have HT1 := Lib.hid (HT.out.below hb1 hpos)
  clear hb1
  by_cases hm : inB 0 511 m = true
  · go_wp2_with fail
    refine (implModeText_yes _ _ hm HT1.out).mono ?_
    rintro e w2 ⟨rfl, hb2⟩
    have hz2 := hb2.size
    have HB2 := Lib.hid (HB1.out.trans (hb2.mono hz1))
    have HT2 := Lib.hid (HT1.out.below hb2 (by omega))
    clear hb2
    go_wp2_with fail
    refine (specModeText_yes _ _ hm).mono ?_
    rintro e w2' ⟨rfl, rfl⟩
    go_wp2_with fail
    refine (implOctal_yes _ _ hm).mono ?_
    rintro e w3 ⟨rfl, hb3⟩
    have hz3 := hb3.size
    have HB3 := Lib.hid (HB2.out.trans (hb3.mono (by omega)))
    have HT3 := Lib.hid (HT2.out.below hb3 (by omega))
    clear hb3
    go_wp2_with fail
    refine (specOctal_yes _ _ hm).mono ?_
    rintro e w4 ⟨rfl, hb4⟩
    have hz4 := hb4.size
    have HB4 := Lib.hid (HB3.out.trans (hb4.mono (by omega)))
    have HT4 := Lib.hid (HT3.out.below hb4 (by omega))
    clear hb4
    obtain ⟨m0, m1⟩ := inB_t hm
    go_wp2_with fail
    refine (implReadMode_yes m _ HT4.out m0 m1).mono ?_
    rintro e w4' ⟨rfl, rfl⟩
    go_wp2_with fail
    refine (implRead_yes m _ m0 m1).mono ?_
    rintro e w4' ⟨rfl, rfl⟩
    go_wp2_with fail
    refine (drawReadMode_any w4 o' n' c' (CodeAt.more (HD'.out.belowB HB4.out (Nat.le_refl _)) HB4.out.size) (by omega)).mono ?_
    rintro e w5 ⟨s, hs, rfl, hb5⟩
    have hz5 := hb5.size
    have HB5 := Lib.hid (HB4.out.trans (hb5.mono (by omega)))
    have HT5 := Lib.hid (HT4.out.below hb5 (by omega))
    clear hb5
    go_wp2_with fail
    refine (implReadMode_sym s _ HT5.out (by unfold maxLen; omega)).mono ?_
    rintro e w5' ⟨rfl, rfl⟩
    go_wp2_with fail
    refine (specReadMode_sym s _).mono ?_
    rintro e w5' ⟨rfl, rfl⟩
    go_wp2_with fail
    refine (drawReadOctal_any w5 o' n' c' (CodeAt.more (HD'.out.belowB HB5.out (Nat.le_refl _)) HB5.out.size) (by omega)).mono ?_
    rintro e w6 ⟨q, hq, rfl, hb6⟩
    have hz6 := hb6.size
    have HB6 := Lib.hid (HB5.out.trans (hb6.mono (by omega)))
    clear hb6
    go_wp2_with fail
    refine (implReadOctal_sym q _ (by unfold maxLen; omega)).mono ?_
    rintro e w6' ⟨rfl, rfl⟩
    go_wp2_with fail
    refine (specReadOctal_sym q _).mono ?_
    rintro e w7 ⟨rfl, hb7⟩
    have hz7 := hb7.size
    have HB7 := Lib.hid (HB6.out.trans (hb7.mono (by omega)))
    clear hb7
    go_wp2_with fail
    refine (drawChangeMode_any w7 o' n' c' (CodeAt.more (HD'.out.belowB HB7.out (Nat.le_refl _)) HB7.out.size) (by omega)).mono ?_
    rintro e w8 ⟨k, how, hh, rfl, hb8⟩
    have hz8 := hb8.size
    have HB8 := Lib.hid (HB7.out.trans (hb8.mono (by omega)))
    clear hb8
    cases hc : chgOf k how.data.toList with
    | none =>
      have HC := Lib.hid hc
      clear hc
      go_wp2_with fail
      refine (implChange_noneR k how _ (by omega) HC.out).mono ?_
      rintro e w9 ⟨rfl, hb9⟩
      have hz9 := hb9.size
      have HB9 := Lib.hid (HB8.out.trans (hb9.mono (by omega)))
      clear hb9
      go_wp2_with fail
      refine (specChange_none k how _ (by omega) HC.out).mono ?_
      rintro e w10 ⟨rfl, hb10⟩
      have HB10 := Lib.hid (HB9.out.trans (hb10.mono (by omega)))
      clear hb10
      go_wp2
      go_ret
      exact ⟨rfl, HB10.out⟩
    | some z =>
      have HC := Lib.hid hc
      have hca := chg_again hc
      obtain ⟨hca, z0, z1⟩ := hca
      have HA := Lib.hid hca
      clear hc hca
      go_wp2_with fail
      refine (implChange_someR k how z _ (by omega) HC.out).mono ?_
      rintro e w9 ⟨rfl, hb9⟩
      have hz9 := hb9.size
      have HB9 := Lib.hid (HB8.out.trans (hb9.mono (by omega)))
      clear hb9
      go_wp2_with fail
      refine (specChange_some k how z _ (by omega) HC.out).mono ?_
      rintro e w10 ⟨rfl, hb10⟩
      have hz10 := hb10.size
      have HB10 := Lib.hid (HB9.out.trans (hb10.mono (by omega)))
      clear hb10
      have z2 : z < 512 := by omega
      go_wp2_with fail
      refine (implChange_someR z how z _ (by omega) HA.out).mono ?_
      rintro e w11 ⟨rfl, hb11⟩
      have HB11 := Lib.hid (HB10.out.trans (hb11.mono (by omega)))
      clear hb11
      go_wp2
      go_ret
      exact ⟨rfl, HB11.out⟩
  · have hm' : inB 0 511 m = false := by simpa using hm
    clear hm
    go_wp2_with fail
    refine (implModeText_no _ _ hm').mono ?_
    rintro e w2 ⟨rfl, hb2⟩
    have hz2 := hb2.size
    have HB2 := Lib.hid (HB1.out.trans (hb2.mono hz1))
    have HT2 := Lib.hid (HT1.out.below hb2 (by omega))
    clear hb2
    go_wp2_with fail
    refine (specModeText_no _ _ hm').mono ?_
    rintro e w2' ⟨rfl, rfl⟩
    go_wp2_with fail
    refine (implOctal_no _ _ hm').mono ?_
    rintro e w3 ⟨rfl, hb3⟩
    have hz3 := hb3.size
    have HB3 := Lib.hid (HB2.out.trans (hb3.mono (by omega)))
    have HT3 := Lib.hid (HT2.out.below hb3 (by omega))
    clear hb3
    go_wp2_with fail
    refine (specOctal_no _ _ hm').mono ?_
    rintro e w4 ⟨rfl, hb4⟩
    have hz4 := hb4.size
    have HB4 := Lib.hid (HB3.out.trans (hb4.mono (by omega)))
    have HT4 := Lib.hid (HT3.out.below hb4 (by omega))
    clear hb4
    go_wp2_with fail
    refine (drawReadMode_any w4 o' n' c' (CodeAt.more (HD'.out.belowB HB4.out (Nat.le_refl _)) HB4.out.size) (by omega)).mono ?_
    rintro e w5 ⟨s, hs, rfl, hb5⟩
    have hz5 := hb5.size
    have HB5 := Lib.hid (HB4.out.trans (hb5.mono (by omega)))
    have HT5 := Lib.hid (HT4.out.below hb5 (by omega))
    clear hb5
    go_wp2_with fail
    refine (implReadMode_sym s _ HT5.out (by unfold maxLen; omega)).mono ?_
    rintro e w5' ⟨rfl, rfl⟩
    go_wp2_with fail
    refine (specReadMode_sym s _).mono ?_
    rintro e w5' ⟨rfl, rfl⟩
    go_wp2_with fail
    refine (drawReadOctal_any w5 o' n' c' (CodeAt.more (HD'.out.belowB HB5.out (Nat.le_refl _)) HB5.out.size) (by omega)).mono ?_
    rintro e w6 ⟨q, hq, rfl, hb6⟩
    have hz6 := hb6.size
    have HB6 := Lib.hid (HB5.out.trans (hb6.mono (by omega)))
    clear hb6
    go_wp2_with fail
    refine (implReadOctal_sym q _ (by unfold maxLen; omega)).mono ?_
    rintro e w6' ⟨rfl, rfl⟩
    go_wp2_with fail
    refine (specReadOctal_sym q _).mono ?_
    rintro e w7 ⟨rfl, hb7⟩
    have hz7 := hb7.size
    have HB7 := Lib.hid (HB6.out.trans (hb7.mono (by omega)))
    clear hb7
    go_wp2_with fail
    refine (drawChangeMode_any w7 o' n' c' (CodeAt.more (HD'.out.belowB HB7.out (Nat.le_refl _)) HB7.out.size) (by omega)).mono ?_
    rintro e w8 ⟨k, how, hh, rfl, hb8⟩
    have hz8 := hb8.size
    have HB8 := Lib.hid (HB7.out.trans (hb8.mono (by omega)))
    clear hb8
    cases hc : chgOf k how.data.toList with
    | none =>
      have HC := Lib.hid hc
      clear hc
      go_wp2_with fail
      refine (implChange_noneR k how _ (by omega) HC.out).mono ?_
      rintro e w9 ⟨rfl, hb9⟩
      have hz9 := hb9.size
      have HB9 := Lib.hid (HB8.out.trans (hb9.mono (by omega)))
      clear hb9
      go_wp2_with fail
      refine (specChange_none k how _ (by omega) HC.out).mono ?_
      rintro e w10 ⟨rfl, hb10⟩
      have HB10 := Lib.hid (HB9.out.trans (hb10.mono (by omega)))
      clear hb10
      go_wp2
      go_ret
      exact ⟨rfl, HB10.out⟩
    | some z =>
      have HC := Lib.hid hc
      have hca := chg_again hc
      obtain ⟨hca, z0, z1⟩ := hca
      have HA := Lib.hid hca
      clear hc hca
      go_wp2_with fail
      refine (implChange_someR k how z _ (by omega) HC.out).mono ?_
      rintro e w9 ⟨rfl, hb9⟩
      have hz9 := hb9.size
      have HB9 := Lib.hid (HB8.out.trans (hb9.mono (by omega)))
      clear hb9
      go_wp2_with fail
      refine (specChange_some k how z _ (by omega) HC.out).mono ?_
      rintro e w10 ⟨rfl, hb10⟩
      have hz10 := hb10.size
      have HB10 := Lib.hid (HB9.out.trans (hb10.mono (by omega)))
      clear hb10
      have z2 : z < 512 := by omega
      go_wp2_with fail
      refine (implChange_someR z how z _ (by omega) HA.out).mono ?_
      rintro e w11 ⟨rfl, hb11⟩
      have HB11 := Lib.hid (HB10.out.trans (hb11.mono (by omega)))
      clear hb11
      go_wp2
      go_ret
      exact ⟨rfl, HB11.out⟩

set_option maxRecDepth 100000 in
set_option maxHeartbeats 400000 in
theorem walk_big (o o' : Option Addr) (n c n' c' : Nat) (w : World) (hb : bigB n n' = true) (hn : n ≤ 9223372036854775807) (hn' : n' ≤ 9223372036854775807) :
    Calls Tryd.prog 3 #[.slice o n c, .slice o' n' c'] w fun e w' => e = .returned (.bool true) ∧ Below w.heap.size w w' := by
  go_enter Tryd.func3, Tryd.ntmps3
  go_wp2_with fail
  refine (big_any _ _ _ _ _ _ _ hn hn').mono ?_
  rintro e w' ⟨rfl, rfl⟩
  go_wp2
  go_ret
  exact ⟨rfl, Below.refl _ _⟩

theorem walk (o : Option Addr) (n c : Nat) (hn : n ≤ maxLen) (o' : Option Addr) (n' c' : Nat) (hn' : n' ≤ maxLen) (w : World) (ht : Tab w) (hx : CodeAt w w.heap.size o n) (hx' : CodeAt w w.heap.size o' n') :
    Calls Tryd.prog 3 #[.slice o n c, .slice o' n' c'] w fun e w' => e = .returned (.bool true) ∧ Below w.heap.size w w' := by
  unfold maxLen at hn hn'
  cases hb : bigB n n'
  · have h := hb
    simp [bigB] at h
    exact walk_no o o' n c n' c' w ht hx hx' hb (by omega) (by omega)
  · exact walk_big o o' n c n' c' w hb hn hn'
end Go.Proofs.YtkindoihmcojdaaDoor.fnModes
