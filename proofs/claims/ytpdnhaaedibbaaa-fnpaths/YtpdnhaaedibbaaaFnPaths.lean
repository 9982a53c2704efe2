/-
  For every two slices of bytes the law FnPaths returns true: the walk.
  Conditions: none beyond the row's own form.
-/
import Derived.Test.YtpdnhaaedibbaaaLawsC
namespace Go.Proofs.Ytpdnhaaedibbaaa.fnPaths
open Go.ChangeShapes Go.WideShapes Go.ChangeAt Go.RowKit Go.Joins
set_option linter.unusedVariables false

theorem size_data (l : List UInt8) : (bs l).size = l.length := bs_size l

set_option maxRecDepth 100000 in
set_option maxHeartbeats 8000000 in
theorem walk_no (o o' : Option Addr) (n c n' c' : Nat) (w : World) (hD : CodeAt w w.heap.size o n) (hD' : CodeAt w w.heap.size o' n') (hb0 : bigB n n' = false) (hn : n ≤ 1048576) (hn' : n' ≤ 1048576) :
    Calls Try.prog 3 #[.slice o n c, .slice o' n' c'] w fun e w' => e = .returned (.bool true) ∧ Below w.heap.size w w' := by
  have HD := Lib.hid hD
  have HD' := Lib.hid hD'
  have HBG := Lib.hid hb0
  clear hD hD' hb0
  go_enter Try.func3, Try.ntmps3
  go_wp2_with fail
  refine (big_any _ _ _ _ _ _ _ (by omega) (by omega)).mono ?_
  rintro e w' ⟨rfl, rfl⟩
  rw [HBG.out]
  go_wp2_with fail
  refine (drawCleanPath_any w o n c HD.out (by omega)).mono ?_
  rintro e w1 ⟨s, hs, rfl, hb1⟩
  have HB1 := Lib.hid hb1
  clear hb1
  by_cases hg : goodB s.data.toList = true
  · have HG := Lib.hid hg
    obtain ⟨X, hX⟩ : ∃ X, X = bs (cT s.data.toList) := ⟨_, rfl⟩
    obtain ⟨Y, hY⟩ : ∃ Y, Y = bs (baseT s.data.toList) := ⟨_, rfl⟩
    obtain ⟨Z, hZ⟩ : ∃ Z, Z = bs (dirT s.data.toList) := ⟨_, rfl⟩
    have HX := Lib.hid hX
    have HY := Lib.hid hY
    have HZ := Lib.hid hZ
    have HXL : Hid (X.data.toList = cleanT s.data.toList) := Lib.hid (by rw [hX, bs_list, cT_yes hg])
    have HG1 : Hid (goodB X.data.toList = true) := Lib.hid (by rw [HXL.out]; exact cleanT_good hg)
    have HC1 : Hid (bs (cT X.data.toList) = X) := Lib.hid (by rw [HXL.out, cT_again hg, hX, cT_yes hg])
    have hx1 : X.size ≤ 60 := by rw [← len_size, HXL.out]; exact cleanT_le hg
    have hx0 : 0 < X.size := by rw [← len_size, HXL.out]; exact List.length_pos_iff.2 (cleanT_ne hg)
    have HWX : Hid (decide ((X[0]'hx0) = 47) = wholeB s.data.toList) := Lib.hid (by rw [← whole_at hx0, HXL.out, cleanT_whole' hg])
    have HPX : Hid (wholeB s.data.toList = true → partT X.data.toList = cleanOf s.data.toList) := Lib.hid (fun h => by rw [partT_yes HG1.out, HXL.out, cleanT_parts hg (.inl h)])
    have hpl : (partT X.data.toList).length ≤ 61 := by rw [partT_yes HG1.out]; have := parts_le X.data.toList; rw [len_size] at this; omega
    clear hg hX
    by_cases ho : okB s.data.toList = true
    · have HO := Lib.hid ho
      obtain ⟨hnb, hj1, hj2⟩ := joins_back ho
      have HYL : Hid (Y.data.toList = baseL s.data.toList) := Lib.hid (by rw [hY, bs_list, (ok_yes ho).2])
      have HZL0 : Hid (Z.data.toList = dirL s.data.toList) := Lib.hid (by rw [hZ, bs_list, (ok_yes ho).1])
      have HNY : Hid (nameB Y.data.toList = true) := Lib.hid (by rw [HYL.out]; exact hnb)
      have HJ2 : Hid (okJ Z.data.toList Y.data.toList = true) := Lib.hid (by rw [HYL.out, HZL0.out]; exact hj1)
      have HJ1 : Hid (bs (joinT Z.data.toList Y.data.toList) = X) := Lib.hid (by rw [HYL.out, HZL0.out, hj2, HX.out, cT_yes HG.out])
      have hyz : Y.size ≤ 60 := by
        have h1 := HJ2.out
        simp [okJ, goodB] at h1
        omega
      have hzz : Z.size ≤ 60 := by
        have h1 := HJ2.out
        simp [okJ, goodB] at h1
        omega
      clear ho hY hZ hnb hj1 hj2
      go_wp2_with fail
      refine (cleanPath_any s _ (by omega)).mono ?_
      rintro e w2 ⟨rfl, hb⟩
      have HB2 := Lib.hid (HB1.out.trans (hb.mono HB1.out.size))
      rw [HG.out, ← HX.out]
      clear hb
      go_wp2_with fail
      refine (specClean_any s _ (by omega)).mono ?_
      rintro e w3 ⟨rfl, hb⟩
      have HB3 := Lib.hid (HB2.out.trans (hb.mono HB2.out.size))
      rw [HG.out, ← HX.out]
      clear hb
      go_wp2_with fail
      refine (baseOf_any s _ (by omega)).mono ?_
      rintro e w4 ⟨rfl, hb⟩
      have HB4 := Lib.hid (HB3.out.trans (hb.mono HB3.out.size))
      rw [HO.out, ← HY.out]
      clear hb
      go_wp2_with fail
      refine (specBase_any s _ (by omega)).mono ?_
      rintro e w5 ⟨rfl, hb⟩
      have HB5 := Lib.hid (HB4.out.trans (hb.mono HB4.out.size))
      rw [HO.out, ← HY.out]
      clear hb
      go_wp2_with fail
      refine (dirOf_any s _ (by omega)).mono ?_
      rintro e w6 ⟨rfl, hb⟩
      have HB6 := Lib.hid (HB5.out.trans (hb.mono HB5.out.size))
      rw [HO.out, ← HZ.out]
      clear hb
      go_wp2_with fail
      refine (specDir_any s _ (by omega)).mono ?_
      rintro e w7 ⟨rfl, hb⟩
      have HB7 := Lib.hid (HB6.out.trans (hb.mono HB6.out.size))
      rw [HO.out, ← HZ.out]
      clear hb
      go_wp2_with fail
      refine (goodPath_any s _ (by unfold maxLen; omega)).mono ?_
      rintro e w8 ⟨rfl, hb⟩
      have HB8 := Lib.hid (HB7.out.trans (hb.mono HB7.out.size))
      rw [HG.out]
      clear hb
      go_wp2_with fail
      refine (specGoodPath_any s _ (by omega)).mono ?_
      rintro e w9 ⟨rfl, hb⟩
      have HB9 := Lib.hid (HB8.out.trans (hb.mono HB8.out.size))
      rw [HG.out]
      clear hb
      go_wp2_with fail
      refine (goodPath_any s _ (by unfold maxLen; omega)).mono ?_
      rintro e w10 ⟨rfl, hb⟩
      have HB10 := Lib.hid (HB9.out.trans (hb.mono HB9.out.size))
      rw [HG.out]
      clear hb
      by_cases hw : wholeB s.data.toList = true
      · have HW := Lib.hid hw
        have h47 : ((X[0]'hx0).toNat : Int) = 47 := by
          have h1 := HWX.out
          rw [hw] at h1
          rw [of_decide_eq_true h1]; rfl
        have HPT := Lib.hid (HPX.out hw)
        clear hw
        by_cases hlen : (partT X.data.toList).length ≤ 20
        · have HOF : Hid (ofOk (partT X.data.toList) = true) := Lib.hid (by rw [HPT.out] at hlen ⊢; exact (whole_of HG.out HW.out hlen).1)
          have HOT : Hid (bs (ofT (partT X.data.toList)) = X) := Lib.hid (by rw [HPT.out] at hlen ⊢; rw [(whole_of HG.out HW.out hlen).2, HX.out, cT_yes HG.out])
          go_wp2_with fail
          refine (cleanPath_any X _ (by omega)).mono ?_
          rintro e w11 ⟨rfl, hb⟩
          have HB11 := Lib.hid (HB10.out.trans (hb.mono HB10.out.size))
          rw [HC1.out, HG1.out]
          clear hb
          go_wp2_with fail
          refine (partsOf_any X _ (by omega)).mono ?_
          rintro e w12 ⟨vp, rfl, hLp, hb⟩
          have HB12 := Lib.hid (HB11.out.trans (hb.mono HB11.out.size))
          rw [HG1.out]
          have HRp12 := Lib.hid hLp.read
          obtain ⟨op, cp, rfl, _, hcmp, _⟩ := hLp.read
          clear hLp
          unfold maxLen at hcmp
          clear hb
          go_wp2_with fail
          refine (pathOf_any _ _ _ HRp12.out).mono ?_
          rintro e w13 ⟨rfl, hb⟩
          have HB13 := Lib.hid (HB12.out.trans (hb.mono HB12.out.size))
          rw [HOF.out, HOT.out]
          clear hb
          go_wp2_with fail
          refine (joinPath_any Z Y _ (by omega) (by omega)).mono ?_
          rintro e w14 ⟨rfl, hb⟩
          have HB14 := Lib.hid (HB13.out.trans (hb.mono HB13.out.size))
          rw [HJ1.out, HJ2.out]
          clear hb
          go_wp2_with fail
          refine (goodName_any Y _).mono ?_
          rintro e w15 ⟨rfl, hb⟩
          have HB15 := Lib.hid (HB14.out.trans (hb.mono HB14.out.size))
          rw [HNY.out]
          clear hb
          go_wp2_with fail
          refine (drawPathOf_any _ o' n' c' (codeAt_at HD'.out HB15.out) (by omega)).mono ?_
          rintro e w16 ⟨vL, psL, hl30, hl1000, rfl, hLL, hb⟩
          have HB16 := Lib.hid (HB15.out.trans (hb.mono HB15.out.size))
          have HR16 := Lib.hid hLL.read
          have HZL : Hid (∀ p ∈ psL, p.length ≤ 1048576) := Lib.hid (fun p hp => Nat.le_trans (hl1000 p hp) (by omega))
          clear hb hLL hl1000
          go_wp2_with fail
          refine (pathOf_any psL _ _ HR16.out).mono ?_
          rintro e w17 ⟨rfl, hb⟩
          have HB17 := Lib.hid (HB16.out.trans (hb.mono HB16.out.size))
          have HR17 := Lib.hid (HR16.out.below hb)
          clear hb
          go_wp2_with fail
          refine (specPathOf_any psL _ _ HR17.out HZL.out).mono ?_
          rintro e w18 ⟨rfl, hb⟩
          have HB18 := Lib.hid (HB17.out.trans (hb.mono HB17.out.size))
          clear hb
          go_wp2_with fail
          refine (drawPartsOf_any _ o' n' c' (codeAt_at HD'.out HB18.out) (by omega)).mono ?_
          rintro e w19 ⟨sq, hsq, rfl, hb⟩
          have HB19 := Lib.hid (HB18.out.trans (hb.mono HB18.out.size))
          clear hb
          go_wp2_with fail
          refine (partsOf_any sq _ (by omega)).mono ?_
          rintro e w20 ⟨vq, rfl, hLq, hb⟩
          have HB20 := Lib.hid (HB19.out.trans (hb.mono HB19.out.size))
          have HQ20 := Lib.hid hLq.read
          clear hLq
          clear hb
          go_wp2_with fail
          refine (specPartsOf_any sq _ (by omega)).mono ?_
          rintro e w21 ⟨vt, rfl, hLt, hb⟩
          have HB21 := Lib.hid (HB20.out.trans (hb.mono HB20.out.size))
          have HQ21 := Lib.hid (HQ20.out.below hb)
          have HT21 := Lib.hid hLt.read
          clear hLt
          clear hb
          go_wp2_with fail
          refine (drawGoodName_any _ o' n' c' (codeAt_at HD'.out HB21.out) (by omega)).mono ?_
          rintro e w22 ⟨sn, hsn, rfl, hb⟩
          have HB22 := Lib.hid (HB21.out.trans (hb.mono HB21.out.size))
          have HQ22 := Lib.hid (HQ21.out.below hb)
          have HT22 := Lib.hid (HT21.out.below hb)
          clear hb
          go_wp2_with fail
          refine (sameTexts_same _ _ _ _ HQ22.out HT22.out).mono ?_
          rintro e w23 ⟨rfl, hb⟩
          have HB23 := Lib.hid (HB22.out.trans (hb.mono HB22.out.size))
          clear hb
          go_wp2_with fail
          refine (goodName_any _ _).mono ?_
          rintro e w24 ⟨rfl, hb⟩
          have HB24 := Lib.hid (HB23.out.trans (hb.mono HB23.out.size))
          clear hb
          go_wp2_with fail
          refine (specGoodName_any _ _ (by unfold maxLen; omega)).mono ?_
          rintro e wz ⟨rfl, rfl⟩
          go_wp2
          go_ret
          exact ⟨rfl, HB24.out⟩
        · have HOF : Hid (ofOk (partT X.data.toList) = false) := Lib.hid (ofOk_many hlen).1
          go_wp2_with fail
          refine (cleanPath_any X _ (by omega)).mono ?_
          rintro e w11 ⟨rfl, hb⟩
          have HB11 := Lib.hid (HB10.out.trans (hb.mono HB10.out.size))
          rw [HC1.out, HG1.out]
          clear hb
          go_wp2_with fail
          refine (partsOf_any X _ (by omega)).mono ?_
          rintro e w12 ⟨vp, rfl, hLp, hb⟩
          have HB12 := Lib.hid (HB11.out.trans (hb.mono HB11.out.size))
          rw [HG1.out]
          have HRp12 := Lib.hid hLp.read
          obtain ⟨op, cp, rfl, _, hcmp, _⟩ := hLp.read
          clear hLp
          unfold maxLen at hcmp
          clear hb
          go_wp2_with fail
          refine (pathOf_any _ _ _ HRp12.out).mono ?_
          rintro e w13 ⟨rfl, hb⟩
          have HB13 := Lib.hid (HB12.out.trans (hb.mono HB12.out.size))
          rw [HOF.out]
          clear hb
          go_wp2_with fail
          refine (joinPath_any Z Y _ (by omega) (by omega)).mono ?_
          rintro e w14 ⟨rfl, hb⟩
          have HB14 := Lib.hid (HB13.out.trans (hb.mono HB13.out.size))
          rw [HJ1.out, HJ2.out]
          clear hb
          go_wp2_with fail
          refine (goodName_any Y _).mono ?_
          rintro e w15 ⟨rfl, hb⟩
          have HB15 := Lib.hid (HB14.out.trans (hb.mono HB14.out.size))
          rw [HNY.out]
          clear hb
          go_wp2_with fail
          refine (drawPathOf_any _ o' n' c' (codeAt_at HD'.out HB15.out) (by omega)).mono ?_
          rintro e w16 ⟨vL, psL, hl30, hl1000, rfl, hLL, hb⟩
          have HB16 := Lib.hid (HB15.out.trans (hb.mono HB15.out.size))
          have HR16 := Lib.hid hLL.read
          have HZL : Hid (∀ p ∈ psL, p.length ≤ 1048576) := Lib.hid (fun p hp => Nat.le_trans (hl1000 p hp) (by omega))
          clear hb hLL hl1000
          go_wp2_with fail
          refine (pathOf_any psL _ _ HR16.out).mono ?_
          rintro e w17 ⟨rfl, hb⟩
          have HB17 := Lib.hid (HB16.out.trans (hb.mono HB16.out.size))
          have HR17 := Lib.hid (HR16.out.below hb)
          clear hb
          go_wp2_with fail
          refine (specPathOf_any psL _ _ HR17.out HZL.out).mono ?_
          rintro e w18 ⟨rfl, hb⟩
          have HB18 := Lib.hid (HB17.out.trans (hb.mono HB17.out.size))
          clear hb
          go_wp2_with fail
          refine (drawPartsOf_any _ o' n' c' (codeAt_at HD'.out HB18.out) (by omega)).mono ?_
          rintro e w19 ⟨sq, hsq, rfl, hb⟩
          have HB19 := Lib.hid (HB18.out.trans (hb.mono HB18.out.size))
          clear hb
          go_wp2_with fail
          refine (partsOf_any sq _ (by omega)).mono ?_
          rintro e w20 ⟨vq, rfl, hLq, hb⟩
          have HB20 := Lib.hid (HB19.out.trans (hb.mono HB19.out.size))
          have HQ20 := Lib.hid hLq.read
          clear hLq
          clear hb
          go_wp2_with fail
          refine (specPartsOf_any sq _ (by omega)).mono ?_
          rintro e w21 ⟨vt, rfl, hLt, hb⟩
          have HB21 := Lib.hid (HB20.out.trans (hb.mono HB20.out.size))
          have HQ21 := Lib.hid (HQ20.out.below hb)
          have HT21 := Lib.hid hLt.read
          clear hLt
          clear hb
          go_wp2_with fail
          refine (drawGoodName_any _ o' n' c' (codeAt_at HD'.out HB21.out) (by omega)).mono ?_
          rintro e w22 ⟨sn, hsn, rfl, hb⟩
          have HB22 := Lib.hid (HB21.out.trans (hb.mono HB21.out.size))
          have HQ22 := Lib.hid (HQ21.out.below hb)
          have HT22 := Lib.hid (HT21.out.below hb)
          clear hb
          go_wp2_with fail
          refine (sameTexts_same _ _ _ _ HQ22.out HT22.out).mono ?_
          rintro e w23 ⟨rfl, hb⟩
          have HB23 := Lib.hid (HB22.out.trans (hb.mono HB22.out.size))
          clear hb
          go_wp2_with fail
          refine (goodName_any _ _).mono ?_
          rintro e w24 ⟨rfl, hb⟩
          have HB24 := Lib.hid (HB23.out.trans (hb.mono HB23.out.size))
          clear hb
          go_wp2_with fail
          refine (specGoodName_any _ _ (by unfold maxLen; omega)).mono ?_
          rintro e wz ⟨rfl, rfl⟩
          go_wp2
          go_ret
          exact ⟨rfl, HB24.out⟩
      · have h47 : (((X[0]'hx0).toNat : Int) == 47) = false := by
          have h1 := HWX.out
          have hw2 : wholeB s.data.toList = false := by simpa using hw
          rw [hw2] at h1
          simpa using not47 (of_decide_eq_false h1)
        clear hw
        go_wp2_with fail
        refine (cleanPath_any X _ (by omega)).mono ?_
        rintro e w11 ⟨rfl, hb⟩
        have HB11 := Lib.hid (HB10.out.trans (hb.mono HB10.out.size))
        rw [HC1.out, HG1.out]
        clear hb
        go_wp2_with fail
        refine (partsOf_any X _ (by omega)).mono ?_
        rintro e w12 ⟨vp, rfl, hLp, hb⟩
        have HB12 := Lib.hid (HB11.out.trans (hb.mono HB11.out.size))
        rw [HG1.out]
        have HRp12 := Lib.hid hLp.read
        obtain ⟨op, cp, rfl, _, hcmp, _⟩ := hLp.read
        clear hLp
        unfold maxLen at hcmp
        clear hb
        go_wp2_with fail
        refine (joinPath_any Z Y _ (by omega) (by omega)).mono ?_
        rintro e w13 ⟨rfl, hb⟩
        have HB13 := Lib.hid (HB12.out.trans (hb.mono HB12.out.size))
        rw [HJ1.out, HJ2.out]
        clear hb
        go_wp2_with fail
        refine (goodName_any Y _).mono ?_
        rintro e w14 ⟨rfl, hb⟩
        have HB14 := Lib.hid (HB13.out.trans (hb.mono HB13.out.size))
        rw [HNY.out]
        clear hb
        go_wp2_with fail
        refine (drawPathOf_any _ o' n' c' (codeAt_at HD'.out HB14.out) (by omega)).mono ?_
        rintro e w15 ⟨vL, psL, hl30, hl1000, rfl, hLL, hb⟩
        have HB15 := Lib.hid (HB14.out.trans (hb.mono HB14.out.size))
        have HR15 := Lib.hid hLL.read
        have HZL : Hid (∀ p ∈ psL, p.length ≤ 1048576) := Lib.hid (fun p hp => Nat.le_trans (hl1000 p hp) (by omega))
        clear hb hLL hl1000
        go_wp2_with fail
        refine (pathOf_any psL _ _ HR15.out).mono ?_
        rintro e w16 ⟨rfl, hb⟩
        have HB16 := Lib.hid (HB15.out.trans (hb.mono HB15.out.size))
        have HR16 := Lib.hid (HR15.out.below hb)
        clear hb
        go_wp2_with fail
        refine (specPathOf_any psL _ _ HR16.out HZL.out).mono ?_
        rintro e w17 ⟨rfl, hb⟩
        have HB17 := Lib.hid (HB16.out.trans (hb.mono HB16.out.size))
        clear hb
        go_wp2_with fail
        refine (drawPartsOf_any _ o' n' c' (codeAt_at HD'.out HB17.out) (by omega)).mono ?_
        rintro e w18 ⟨sq, hsq, rfl, hb⟩
        have HB18 := Lib.hid (HB17.out.trans (hb.mono HB17.out.size))
        clear hb
        go_wp2_with fail
        refine (partsOf_any sq _ (by omega)).mono ?_
        rintro e w19 ⟨vq, rfl, hLq, hb⟩
        have HB19 := Lib.hid (HB18.out.trans (hb.mono HB18.out.size))
        have HQ19 := Lib.hid hLq.read
        clear hLq
        clear hb
        go_wp2_with fail
        refine (specPartsOf_any sq _ (by omega)).mono ?_
        rintro e w20 ⟨vt, rfl, hLt, hb⟩
        have HB20 := Lib.hid (HB19.out.trans (hb.mono HB19.out.size))
        have HQ20 := Lib.hid (HQ19.out.below hb)
        have HT20 := Lib.hid hLt.read
        clear hLt
        clear hb
        go_wp2_with fail
        refine (drawGoodName_any _ o' n' c' (codeAt_at HD'.out HB20.out) (by omega)).mono ?_
        rintro e w21 ⟨sn, hsn, rfl, hb⟩
        have HB21 := Lib.hid (HB20.out.trans (hb.mono HB20.out.size))
        have HQ21 := Lib.hid (HQ20.out.below hb)
        have HT21 := Lib.hid (HT20.out.below hb)
        clear hb
        go_wp2_with fail
        refine (sameTexts_same _ _ _ _ HQ21.out HT21.out).mono ?_
        rintro e w22 ⟨rfl, hb⟩
        have HB22 := Lib.hid (HB21.out.trans (hb.mono HB21.out.size))
        clear hb
        go_wp2_with fail
        refine (goodName_any _ _).mono ?_
        rintro e w23 ⟨rfl, hb⟩
        have HB23 := Lib.hid (HB22.out.trans (hb.mono HB22.out.size))
        clear hb
        go_wp2_with fail
        refine (specGoodName_any _ _ (by unfold maxLen; omega)).mono ?_
        rintro e wz ⟨rfl, rfl⟩
        go_wp2
        go_ret
        exact ⟨rfl, HB23.out⟩
    · have HO := Lib.hid (show okB s.data.toList = false by simpa using ho)
      clear ho hY hZ
      go_wp2_with fail
      refine (cleanPath_any s _ (by omega)).mono ?_
      rintro e w2 ⟨rfl, hb⟩
      have HB2 := Lib.hid (HB1.out.trans (hb.mono HB1.out.size))
      rw [HG.out, ← HX.out]
      clear hb
      go_wp2_with fail
      refine (specClean_any s _ (by omega)).mono ?_
      rintro e w3 ⟨rfl, hb⟩
      have HB3 := Lib.hid (HB2.out.trans (hb.mono HB2.out.size))
      rw [HG.out, ← HX.out]
      clear hb
      go_wp2_with fail
      refine (baseOf_any s _ (by omega)).mono ?_
      rintro e w4 ⟨rfl, hb⟩
      have HB4 := Lib.hid (HB3.out.trans (hb.mono HB3.out.size))
      rw [HO.out, ← HY.out]
      clear hb
      go_wp2_with fail
      refine (specBase_any s _ (by omega)).mono ?_
      rintro e w5 ⟨rfl, hb⟩
      have HB5 := Lib.hid (HB4.out.trans (hb.mono HB4.out.size))
      rw [HO.out, ← HY.out]
      clear hb
      go_wp2_with fail
      refine (dirOf_any s _ (by omega)).mono ?_
      rintro e w6 ⟨rfl, hb⟩
      have HB6 := Lib.hid (HB5.out.trans (hb.mono HB5.out.size))
      rw [HO.out, ← HZ.out]
      clear hb
      go_wp2_with fail
      refine (specDir_any s _ (by omega)).mono ?_
      rintro e w7 ⟨rfl, hb⟩
      have HB7 := Lib.hid (HB6.out.trans (hb.mono HB6.out.size))
      rw [HO.out, ← HZ.out]
      clear hb
      go_wp2_with fail
      refine (goodPath_any s _ (by unfold maxLen; omega)).mono ?_
      rintro e w8 ⟨rfl, hb⟩
      have HB8 := Lib.hid (HB7.out.trans (hb.mono HB7.out.size))
      rw [HG.out]
      clear hb
      go_wp2_with fail
      refine (specGoodPath_any s _ (by omega)).mono ?_
      rintro e w9 ⟨rfl, hb⟩
      have HB9 := Lib.hid (HB8.out.trans (hb.mono HB8.out.size))
      rw [HG.out]
      clear hb
      go_wp2_with fail
      refine (goodPath_any s _ (by unfold maxLen; omega)).mono ?_
      rintro e w10 ⟨rfl, hb⟩
      have HB10 := Lib.hid (HB9.out.trans (hb.mono HB9.out.size))
      rw [HG.out]
      clear hb
      by_cases hw : wholeB s.data.toList = true
      · have HW := Lib.hid hw
        have h47 : ((X[0]'hx0).toNat : Int) = 47 := by
          have h1 := HWX.out
          rw [hw] at h1
          rw [of_decide_eq_true h1]; rfl
        have HPT := Lib.hid (HPX.out hw)
        clear hw
        by_cases hlen : (partT X.data.toList).length ≤ 20
        · have HOF : Hid (ofOk (partT X.data.toList) = true) := Lib.hid (by rw [HPT.out] at hlen ⊢; exact (whole_of HG.out HW.out hlen).1)
          have HOT : Hid (bs (ofT (partT X.data.toList)) = X) := Lib.hid (by rw [HPT.out] at hlen ⊢; rw [(whole_of HG.out HW.out hlen).2, HX.out, cT_yes HG.out])
          go_wp2_with fail
          refine (cleanPath_any X _ (by omega)).mono ?_
          rintro e w11 ⟨rfl, hb⟩
          have HB11 := Lib.hid (HB10.out.trans (hb.mono HB10.out.size))
          rw [HC1.out, HG1.out]
          clear hb
          go_wp2_with fail
          refine (partsOf_any X _ (by omega)).mono ?_
          rintro e w12 ⟨vp, rfl, hLp, hb⟩
          have HB12 := Lib.hid (HB11.out.trans (hb.mono HB11.out.size))
          rw [HG1.out]
          have HRp12 := Lib.hid hLp.read
          obtain ⟨op, cp, rfl, _, hcmp, _⟩ := hLp.read
          clear hLp
          unfold maxLen at hcmp
          clear hb
          go_wp2_with fail
          refine (pathOf_any _ _ _ HRp12.out).mono ?_
          rintro e w13 ⟨rfl, hb⟩
          have HB13 := Lib.hid (HB12.out.trans (hb.mono HB12.out.size))
          rw [HOF.out, HOT.out]
          clear hb
          go_wp2_with fail
          refine (drawPathOf_any _ o' n' c' (codeAt_at HD'.out HB13.out) (by omega)).mono ?_
          rintro e w14 ⟨vL, psL, hl30, hl1000, rfl, hLL, hb⟩
          have HB14 := Lib.hid (HB13.out.trans (hb.mono HB13.out.size))
          have HR14 := Lib.hid hLL.read
          have HZL : Hid (∀ p ∈ psL, p.length ≤ 1048576) := Lib.hid (fun p hp => Nat.le_trans (hl1000 p hp) (by omega))
          clear hb hLL hl1000
          go_wp2_with fail
          refine (pathOf_any psL _ _ HR14.out).mono ?_
          rintro e w15 ⟨rfl, hb⟩
          have HB15 := Lib.hid (HB14.out.trans (hb.mono HB14.out.size))
          have HR15 := Lib.hid (HR14.out.below hb)
          clear hb
          go_wp2_with fail
          refine (specPathOf_any psL _ _ HR15.out HZL.out).mono ?_
          rintro e w16 ⟨rfl, hb⟩
          have HB16 := Lib.hid (HB15.out.trans (hb.mono HB15.out.size))
          clear hb
          go_wp2_with fail
          refine (drawPartsOf_any _ o' n' c' (codeAt_at HD'.out HB16.out) (by omega)).mono ?_
          rintro e w17 ⟨sq, hsq, rfl, hb⟩
          have HB17 := Lib.hid (HB16.out.trans (hb.mono HB16.out.size))
          clear hb
          go_wp2_with fail
          refine (partsOf_any sq _ (by omega)).mono ?_
          rintro e w18 ⟨vq, rfl, hLq, hb⟩
          have HB18 := Lib.hid (HB17.out.trans (hb.mono HB17.out.size))
          have HQ18 := Lib.hid hLq.read
          clear hLq
          clear hb
          go_wp2_with fail
          refine (specPartsOf_any sq _ (by omega)).mono ?_
          rintro e w19 ⟨vt, rfl, hLt, hb⟩
          have HB19 := Lib.hid (HB18.out.trans (hb.mono HB18.out.size))
          have HQ19 := Lib.hid (HQ18.out.below hb)
          have HT19 := Lib.hid hLt.read
          clear hLt
          clear hb
          go_wp2_with fail
          refine (drawGoodName_any _ o' n' c' (codeAt_at HD'.out HB19.out) (by omega)).mono ?_
          rintro e w20 ⟨sn, hsn, rfl, hb⟩
          have HB20 := Lib.hid (HB19.out.trans (hb.mono HB19.out.size))
          have HQ20 := Lib.hid (HQ19.out.below hb)
          have HT20 := Lib.hid (HT19.out.below hb)
          clear hb
          go_wp2_with fail
          refine (sameTexts_same _ _ _ _ HQ20.out HT20.out).mono ?_
          rintro e w21 ⟨rfl, hb⟩
          have HB21 := Lib.hid (HB20.out.trans (hb.mono HB20.out.size))
          clear hb
          go_wp2_with fail
          refine (goodName_any _ _).mono ?_
          rintro e w22 ⟨rfl, hb⟩
          have HB22 := Lib.hid (HB21.out.trans (hb.mono HB21.out.size))
          clear hb
          go_wp2_with fail
          refine (specGoodName_any _ _ (by unfold maxLen; omega)).mono ?_
          rintro e wz ⟨rfl, rfl⟩
          go_wp2
          go_ret
          exact ⟨rfl, HB22.out⟩
        · have HOF : Hid (ofOk (partT X.data.toList) = false) := Lib.hid (ofOk_many hlen).1
          go_wp2_with fail
          refine (cleanPath_any X _ (by omega)).mono ?_
          rintro e w11 ⟨rfl, hb⟩
          have HB11 := Lib.hid (HB10.out.trans (hb.mono HB10.out.size))
          rw [HC1.out, HG1.out]
          clear hb
          go_wp2_with fail
          refine (partsOf_any X _ (by omega)).mono ?_
          rintro e w12 ⟨vp, rfl, hLp, hb⟩
          have HB12 := Lib.hid (HB11.out.trans (hb.mono HB11.out.size))
          rw [HG1.out]
          have HRp12 := Lib.hid hLp.read
          obtain ⟨op, cp, rfl, _, hcmp, _⟩ := hLp.read
          clear hLp
          unfold maxLen at hcmp
          clear hb
          go_wp2_with fail
          refine (pathOf_any _ _ _ HRp12.out).mono ?_
          rintro e w13 ⟨rfl, hb⟩
          have HB13 := Lib.hid (HB12.out.trans (hb.mono HB12.out.size))
          rw [HOF.out]
          clear hb
          go_wp2_with fail
          refine (drawPathOf_any _ o' n' c' (codeAt_at HD'.out HB13.out) (by omega)).mono ?_
          rintro e w14 ⟨vL, psL, hl30, hl1000, rfl, hLL, hb⟩
          have HB14 := Lib.hid (HB13.out.trans (hb.mono HB13.out.size))
          have HR14 := Lib.hid hLL.read
          have HZL : Hid (∀ p ∈ psL, p.length ≤ 1048576) := Lib.hid (fun p hp => Nat.le_trans (hl1000 p hp) (by omega))
          clear hb hLL hl1000
          go_wp2_with fail
          refine (pathOf_any psL _ _ HR14.out).mono ?_
          rintro e w15 ⟨rfl, hb⟩
          have HB15 := Lib.hid (HB14.out.trans (hb.mono HB14.out.size))
          have HR15 := Lib.hid (HR14.out.below hb)
          clear hb
          go_wp2_with fail
          refine (specPathOf_any psL _ _ HR15.out HZL.out).mono ?_
          rintro e w16 ⟨rfl, hb⟩
          have HB16 := Lib.hid (HB15.out.trans (hb.mono HB15.out.size))
          clear hb
          go_wp2_with fail
          refine (drawPartsOf_any _ o' n' c' (codeAt_at HD'.out HB16.out) (by omega)).mono ?_
          rintro e w17 ⟨sq, hsq, rfl, hb⟩
          have HB17 := Lib.hid (HB16.out.trans (hb.mono HB16.out.size))
          clear hb
          go_wp2_with fail
          refine (partsOf_any sq _ (by omega)).mono ?_
          rintro e w18 ⟨vq, rfl, hLq, hb⟩
          have HB18 := Lib.hid (HB17.out.trans (hb.mono HB17.out.size))
          have HQ18 := Lib.hid hLq.read
          clear hLq
          clear hb
          go_wp2_with fail
          refine (specPartsOf_any sq _ (by omega)).mono ?_
          rintro e w19 ⟨vt, rfl, hLt, hb⟩
          have HB19 := Lib.hid (HB18.out.trans (hb.mono HB18.out.size))
          have HQ19 := Lib.hid (HQ18.out.below hb)
          have HT19 := Lib.hid hLt.read
          clear hLt
          clear hb
          go_wp2_with fail
          refine (drawGoodName_any _ o' n' c' (codeAt_at HD'.out HB19.out) (by omega)).mono ?_
          rintro e w20 ⟨sn, hsn, rfl, hb⟩
          have HB20 := Lib.hid (HB19.out.trans (hb.mono HB19.out.size))
          have HQ20 := Lib.hid (HQ19.out.below hb)
          have HT20 := Lib.hid (HT19.out.below hb)
          clear hb
          go_wp2_with fail
          refine (sameTexts_same _ _ _ _ HQ20.out HT20.out).mono ?_
          rintro e w21 ⟨rfl, hb⟩
          have HB21 := Lib.hid (HB20.out.trans (hb.mono HB20.out.size))
          clear hb
          go_wp2_with fail
          refine (goodName_any _ _).mono ?_
          rintro e w22 ⟨rfl, hb⟩
          have HB22 := Lib.hid (HB21.out.trans (hb.mono HB21.out.size))
          clear hb
          go_wp2_with fail
          refine (specGoodName_any _ _ (by unfold maxLen; omega)).mono ?_
          rintro e wz ⟨rfl, rfl⟩
          go_wp2
          go_ret
          exact ⟨rfl, HB22.out⟩
      · have h47 : (((X[0]'hx0).toNat : Int) == 47) = false := by
          have h1 := HWX.out
          have hw2 : wholeB s.data.toList = false := by simpa using hw
          rw [hw2] at h1
          simpa using not47 (of_decide_eq_false h1)
        clear hw
        go_wp2_with fail
        refine (cleanPath_any X _ (by omega)).mono ?_
        rintro e w11 ⟨rfl, hb⟩
        have HB11 := Lib.hid (HB10.out.trans (hb.mono HB10.out.size))
        rw [HC1.out, HG1.out]
        clear hb
        go_wp2_with fail
        refine (partsOf_any X _ (by omega)).mono ?_
        rintro e w12 ⟨vp, rfl, hLp, hb⟩
        have HB12 := Lib.hid (HB11.out.trans (hb.mono HB11.out.size))
        rw [HG1.out]
        have HRp12 := Lib.hid hLp.read
        obtain ⟨op, cp, rfl, _, hcmp, _⟩ := hLp.read
        clear hLp
        unfold maxLen at hcmp
        clear hb
        go_wp2_with fail
        refine (drawPathOf_any _ o' n' c' (codeAt_at HD'.out HB12.out) (by omega)).mono ?_
        rintro e w13 ⟨vL, psL, hl30, hl1000, rfl, hLL, hb⟩
        have HB13 := Lib.hid (HB12.out.trans (hb.mono HB12.out.size))
        have HR13 := Lib.hid hLL.read
        have HZL : Hid (∀ p ∈ psL, p.length ≤ 1048576) := Lib.hid (fun p hp => Nat.le_trans (hl1000 p hp) (by omega))
        clear hb hLL hl1000
        go_wp2_with fail
        refine (pathOf_any psL _ _ HR13.out).mono ?_
        rintro e w14 ⟨rfl, hb⟩
        have HB14 := Lib.hid (HB13.out.trans (hb.mono HB13.out.size))
        have HR14 := Lib.hid (HR13.out.below hb)
        clear hb
        go_wp2_with fail
        refine (specPathOf_any psL _ _ HR14.out HZL.out).mono ?_
        rintro e w15 ⟨rfl, hb⟩
        have HB15 := Lib.hid (HB14.out.trans (hb.mono HB14.out.size))
        clear hb
        go_wp2_with fail
        refine (drawPartsOf_any _ o' n' c' (codeAt_at HD'.out HB15.out) (by omega)).mono ?_
        rintro e w16 ⟨sq, hsq, rfl, hb⟩
        have HB16 := Lib.hid (HB15.out.trans (hb.mono HB15.out.size))
        clear hb
        go_wp2_with fail
        refine (partsOf_any sq _ (by omega)).mono ?_
        rintro e w17 ⟨vq, rfl, hLq, hb⟩
        have HB17 := Lib.hid (HB16.out.trans (hb.mono HB16.out.size))
        have HQ17 := Lib.hid hLq.read
        clear hLq
        clear hb
        go_wp2_with fail
        refine (specPartsOf_any sq _ (by omega)).mono ?_
        rintro e w18 ⟨vt, rfl, hLt, hb⟩
        have HB18 := Lib.hid (HB17.out.trans (hb.mono HB17.out.size))
        have HQ18 := Lib.hid (HQ17.out.below hb)
        have HT18 := Lib.hid hLt.read
        clear hLt
        clear hb
        go_wp2_with fail
        refine (drawGoodName_any _ o' n' c' (codeAt_at HD'.out HB18.out) (by omega)).mono ?_
        rintro e w19 ⟨sn, hsn, rfl, hb⟩
        have HB19 := Lib.hid (HB18.out.trans (hb.mono HB18.out.size))
        have HQ19 := Lib.hid (HQ18.out.below hb)
        have HT19 := Lib.hid (HT18.out.below hb)
        clear hb
        go_wp2_with fail
        refine (sameTexts_same _ _ _ _ HQ19.out HT19.out).mono ?_
        rintro e w20 ⟨rfl, hb⟩
        have HB20 := Lib.hid (HB19.out.trans (hb.mono HB19.out.size))
        clear hb
        go_wp2_with fail
        refine (goodName_any _ _).mono ?_
        rintro e w21 ⟨rfl, hb⟩
        have HB21 := Lib.hid (HB20.out.trans (hb.mono HB20.out.size))
        clear hb
        go_wp2_with fail
        refine (specGoodName_any _ _ (by unfold maxLen; omega)).mono ?_
        rintro e wz ⟨rfl, rfl⟩
        go_wp2
        go_ret
        exact ⟨rfl, HB21.out⟩
  · have HG := Lib.hid (show goodB s.data.toList = false by simpa using hg)
    obtain ⟨X, hX⟩ : ∃ X, X = bs (cT s.data.toList) := ⟨_, rfl⟩
    obtain ⟨Y, hY⟩ : ∃ Y, Y = bs (baseT s.data.toList) := ⟨_, rfl⟩
    obtain ⟨Z, hZ⟩ : ∃ Z, Z = bs (dirT s.data.toList) := ⟨_, rfl⟩
    have HX := Lib.hid hX
    have HY := Lib.hid hY
    have HZ := Lib.hid hZ
    have HO := Lib.hid (okB_good HG.out)
    clear hg hX hY hZ
    go_wp2_with fail
    refine (cleanPath_any s _ (by omega)).mono ?_
    rintro e w2 ⟨rfl, hb⟩
    have HB2 := Lib.hid (HB1.out.trans (hb.mono HB1.out.size))
    rw [HG.out, ← HX.out]
    clear hb
    go_wp2_with fail
    refine (specClean_any s _ (by omega)).mono ?_
    rintro e w3 ⟨rfl, hb⟩
    have HB3 := Lib.hid (HB2.out.trans (hb.mono HB2.out.size))
    rw [HG.out, ← HX.out]
    clear hb
    go_wp2_with fail
    refine (baseOf_any s _ (by omega)).mono ?_
    rintro e w4 ⟨rfl, hb⟩
    have HB4 := Lib.hid (HB3.out.trans (hb.mono HB3.out.size))
    rw [HO.out, ← HY.out]
    clear hb
    go_wp2_with fail
    refine (specBase_any s _ (by omega)).mono ?_
    rintro e w5 ⟨rfl, hb⟩
    have HB5 := Lib.hid (HB4.out.trans (hb.mono HB4.out.size))
    rw [HO.out, ← HY.out]
    clear hb
    go_wp2_with fail
    refine (dirOf_any s _ (by omega)).mono ?_
    rintro e w6 ⟨rfl, hb⟩
    have HB6 := Lib.hid (HB5.out.trans (hb.mono HB5.out.size))
    rw [HO.out, ← HZ.out]
    clear hb
    go_wp2_with fail
    refine (specDir_any s _ (by omega)).mono ?_
    rintro e w7 ⟨rfl, hb⟩
    have HB7 := Lib.hid (HB6.out.trans (hb.mono HB6.out.size))
    rw [HO.out, ← HZ.out]
    clear hb
    go_wp2_with fail
    refine (goodPath_any s _ (by unfold maxLen; omega)).mono ?_
    rintro e w8 ⟨rfl, hb⟩
    have HB8 := Lib.hid (HB7.out.trans (hb.mono HB7.out.size))
    rw [HG.out]
    clear hb
    go_wp2_with fail
    refine (specGoodPath_any s _ (by omega)).mono ?_
    rintro e w9 ⟨rfl, hb⟩
    have HB9 := Lib.hid (HB8.out.trans (hb.mono HB8.out.size))
    rw [HG.out]
    clear hb
    go_wp2_with fail
    refine (goodPath_any s _ (by unfold maxLen; omega)).mono ?_
    rintro e w10 ⟨rfl, hb⟩
    have HB10 := Lib.hid (HB9.out.trans (hb.mono HB9.out.size))
    rw [HG.out]
    clear hb
    go_wp2_with fail
    refine (drawPathOf_any _ o' n' c' (codeAt_at HD'.out HB10.out) (by omega)).mono ?_
    rintro e w11 ⟨vL, psL, hl30, hl1000, rfl, hLL, hb⟩
    have HB11 := Lib.hid (HB10.out.trans (hb.mono HB10.out.size))
    have HR11 := Lib.hid hLL.read
    have HZL : Hid (∀ p ∈ psL, p.length ≤ 1048576) := Lib.hid (fun p hp => Nat.le_trans (hl1000 p hp) (by omega))
    clear hb hLL hl1000
    go_wp2_with fail
    refine (pathOf_any psL _ _ HR11.out).mono ?_
    rintro e w12 ⟨rfl, hb⟩
    have HB12 := Lib.hid (HB11.out.trans (hb.mono HB11.out.size))
    have HR12 := Lib.hid (HR11.out.below hb)
    clear hb
    go_wp2_with fail
    refine (specPathOf_any psL _ _ HR12.out HZL.out).mono ?_
    rintro e w13 ⟨rfl, hb⟩
    have HB13 := Lib.hid (HB12.out.trans (hb.mono HB12.out.size))
    clear hb
    go_wp2_with fail
    refine (drawPartsOf_any _ o' n' c' (codeAt_at HD'.out HB13.out) (by omega)).mono ?_
    rintro e w14 ⟨sq, hsq, rfl, hb⟩
    have HB14 := Lib.hid (HB13.out.trans (hb.mono HB13.out.size))
    clear hb
    go_wp2_with fail
    refine (partsOf_any sq _ (by omega)).mono ?_
    rintro e w15 ⟨vq, rfl, hLq, hb⟩
    have HB15 := Lib.hid (HB14.out.trans (hb.mono HB14.out.size))
    have HQ15 := Lib.hid hLq.read
    clear hLq
    clear hb
    go_wp2_with fail
    refine (specPartsOf_any sq _ (by omega)).mono ?_
    rintro e w16 ⟨vt, rfl, hLt, hb⟩
    have HB16 := Lib.hid (HB15.out.trans (hb.mono HB15.out.size))
    have HQ16 := Lib.hid (HQ15.out.below hb)
    have HT16 := Lib.hid hLt.read
    clear hLt
    clear hb
    go_wp2_with fail
    refine (drawGoodName_any _ o' n' c' (codeAt_at HD'.out HB16.out) (by omega)).mono ?_
    rintro e w17 ⟨sn, hsn, rfl, hb⟩
    have HB17 := Lib.hid (HB16.out.trans (hb.mono HB16.out.size))
    have HQ17 := Lib.hid (HQ16.out.below hb)
    have HT17 := Lib.hid (HT16.out.below hb)
    clear hb
    go_wp2_with fail
    refine (sameTexts_same _ _ _ _ HQ17.out HT17.out).mono ?_
    rintro e w18 ⟨rfl, hb⟩
    have HB18 := Lib.hid (HB17.out.trans (hb.mono HB17.out.size))
    clear hb
    go_wp2_with fail
    refine (goodName_any _ _).mono ?_
    rintro e w19 ⟨rfl, hb⟩
    have HB19 := Lib.hid (HB18.out.trans (hb.mono HB18.out.size))
    clear hb
    go_wp2_with fail
    refine (specGoodName_any _ _ (by unfold maxLen; omega)).mono ?_
    rintro e wz ⟨rfl, rfl⟩
    go_wp2
    go_ret
    exact ⟨rfl, HB19.out⟩

set_option maxRecDepth 100000 in
set_option maxHeartbeats 400000 in
theorem walk_big (o o' : Option Addr) (n c n' c' : Nat) (w : World) (hb : bigB n n' = true) (hn : n ≤ 9223372036854775807) (hn' : n' ≤ 9223372036854775807) :
    Calls Try.prog 3 #[.slice o n c, .slice o' n' c'] w fun e w' => e = .returned (.bool true) ∧ Below w.heap.size w w' := by
  have HB := Lib.hid hb
  clear hb
  go_enter Try.func3, Try.ntmps3
  go_wp2_with fail
  refine (big_any _ _ _ _ _ _ _ hn hn').mono ?_
  rintro e w' ⟨rfl, rfl⟩
  rw [HB.out]
  go_wp2
  go_ret
  exact ⟨rfl, Below.refl _ _⟩
end Go.Proofs.Ytpdnhaaedibbaaa.fnPaths
