/-
  For every two slices of bytes the law FnWithin returns true: the walk.
  Conditions: none beyond the row's own form.
-/
import Derived.Test.YtpdnhaaedibbaaaLawsC
import Derived.Test.YtpdnhaaedibbaaaWithinM
namespace Go.Proofs.Ytpdnhaaedibbaaa.fnWithin
open Go.ChangeShapes Go.WideShapes Go.ChangeAt Go.RowKit Go.Joins
set_option linter.unusedVariables false

set_option maxRecDepth 100000 in
set_option maxHeartbeats 8000000 in
theorem walk_no (o o' : Option Addr) (n c n' c' : Nat) (w : World) (hD : CodeAt w w.heap.size o n) (hD' : CodeAt w w.heap.size o' n') (hb0 : bigB n n' = false) (hn : n ≤ 1048576) (hn' : n' ≤ 1048576) :
    Calls Try.prog 4 #[.slice o n c, .slice o' n' c'] w fun e w' => e = .returned (.bool true) ∧ Below w.heap.size w w' := by
  have HD := Lib.hid hD
  have HD' := Lib.hid hD'
  have HBG := Lib.hid hb0
  clear hD hD' hb0
  go_enter Try.func4, Try.ntmps4
  go_wp2_with fail
  refine (big_any _ _ _ _ _ _ _ (by omega) (by omega)).mono ?_
  rintro e w' ⟨rfl, rfl⟩
  rw [HBG.out]
  go_wp2_with fail
  refine (drawFromTo_any w o n c HD.out (by omega)).mono ?_
  rintro e w1 ⟨a, b, ha, hbz, rfl, hb1⟩
  have HB1 := Lib.hid hb1
  clear hb1
  obtain ⟨R, hR⟩ : ∃ R, R = bs (fromT a.data.toList b.data.toList) := ⟨_, rfl⟩
  have HR := Lib.hid hR
  have hRz : R.size ≤ 10001 := by rw [hR, bs_size]; exact from_len _ _
  by_cases hf : okF a.data.toList b.data.toList = true
  · have HF := Lib.hid hf
    obtain ⟨ga, gb, gw, gw2⟩ := okF_good hf
    have HGA := Lib.hid ga
    have HGB := Lib.hid gb
    have HW := Lib.hid gw
    have HW2 := Lib.hid gw2
    have HSF := Lib.hid (okF_self (okF_parts hf).1)
    have HRT : Hid (okF (ByteArray.mk #[47]).data.toList b.data.toList = true ∧ okW (ByteArray.mk #[47]).data.toList b.data.toList = true) := Lib.hid (okF_root (okF_parts hf).2.1)
    have HJT : Hid (okJ a.data.toList R.data.toList = true → bs (joinT a.data.toList R.data.toList) = bs (cT b.data.toList)) := Lib.hid (fun h => by
      rw [hR, bs_list] at h ⊢
      rw [from_join hf h])
    have HBT : Hid (okF b.data.toList a.data.toList = true → bs (cT a.data.toList) = bs (cT b.data.toList)) := Lib.hid (fun h => by rw [okF_both hf h])
    have HBN : Hid (okF b.data.toList a.data.toList = false → ((bs (cT a.data.toList)).toList == (bs (cT b.data.toList)).toList) = false) := Lib.hid (fun h => by
      rw [ByteArray.toList_eq, ByteArray.toList_eq, bs_list, bs_list]
      simpa using okF_one hf h)
    obtain ⟨Y, hY⟩ : ∃ Y, Y = bs (cT b.data.toList) := ⟨_, rfl⟩
    obtain ⟨X, hX⟩ : ∃ X, X = bs (cT a.data.toList) := ⟨_, rfl⟩
    rw [← hY] at HJT HBT HBN
    rw [← hX] at HBT HBN
    have HY := Lib.hid hY
    have HX := Lib.hid hX
    clear hf ga gb gw gw2 hR hX hY
    go_wp2_with fail
    refine (fromTo_any a b _ (by omega) (by omega)).mono ?_
    rintro e w2 ⟨rfl, hb⟩
    have HB2 := Lib.hid (HB1.out.trans (hb.mono HB1.out.size))
    rw [HF.out, ← HR.out]
    clear hb
    go_wp2_with fail
    refine (specFrom_any a b _ (by omega) (by omega)).mono ?_
    rintro e w3 ⟨rfl, hb⟩
    have HB3 := Lib.hid (HB2.out.trans (hb.mono HB2.out.size))
    rw [HF.out, ← HR.out]
    clear hb
    go_wp2_with fail
    refine (isWithin_any a b _ (by omega) (by omega)).mono ?_
    rintro e w4 ⟨rfl, hb⟩
    have HB4 := Lib.hid (HB3.out.trans (hb.mono HB3.out.size))
    rw [HF.out, HW.out]
    clear hb
    go_wp2_with fail
    refine (specWithin_any a b _ (by omega) (by omega)).mono ?_
    rintro e w5 ⟨rfl, hb⟩
    have HB5 := Lib.hid (HB4.out.trans (hb.mono HB4.out.size))
    rw [HF.out, HW.out]
    clear hb
    by_cases hj : okJ a.data.toList R.data.toList = true
    · have HJ := Lib.hid hj
      have HJ2 := Lib.hid (HJT.out hj)
      clear hj
      go_wp2_with fail
      refine (joinPath_any a R _ (by omega) (by omega)).mono ?_
      rintro e w6 ⟨rfl, hb⟩
      have HB6 := Lib.hid (HB5.out.trans (hb.mono HB5.out.size))
      rw [HJ.out, HJ2.out]
      clear hb
      go_wp2_with fail
      refine (cleanPath_any b _ (by omega)).mono ?_
      rintro e w7 ⟨rfl, hb⟩
      have HB7 := Lib.hid (HB6.out.trans (hb.mono HB6.out.size))
      rw [HGB.out, ← HY.out]
      clear hb
      go_wp2_with fail
      refine (isWithin_any a a _ (by omega) (by omega)).mono ?_
      rintro e w8 ⟨rfl, hb⟩
      have HB8 := Lib.hid (HB7.out.trans (hb.mono HB7.out.size))
      rw [HSF.out.1, HSF.out.2]
      clear hb
      go_wp2_with fail
      refine (isWithin_any _ b _ (by decide) (by omega)).mono ?_
      rintro e w9 ⟨rfl, hb⟩
      have HB9 := Lib.hid (HB8.out.trans (hb.mono HB8.out.size))
      rw [HRT.out.1, HRT.out.2]
      clear hb
      by_cases hk : okF b.data.toList a.data.toList = true
      · have HK := Lib.hid hk
        have HE := Lib.hid (HBT.out hk)
        clear hk
        go_wp2_with fail
        refine (isWithin_any b a _ (by omega) (by omega)).mono ?_
        rintro e w10 ⟨rfl, hb⟩
        have HB10 := Lib.hid (HB9.out.trans (hb.mono HB9.out.size))
        rw [HK.out, HW2.out]
        clear hb
        go_wp2_with fail
        refine (cleanPath_any a _ (by omega)).mono ?_
        rintro e w11 ⟨rfl, hb⟩
        have HB11 := Lib.hid (HB10.out.trans (hb.mono HB10.out.size))
        rw [HGA.out, ← HX.out, HE.out]
        clear hb
        go_wp2_with fail
        refine (cleanPath_any b _ (by omega)).mono ?_
        rintro e w12 ⟨rfl, hb⟩
        have HB12 := Lib.hid (HB11.out.trans (hb.mono HB11.out.size))
        rw [HGB.out, ← HY.out]
        clear hb
        go_wp2_with fail
        refine (drawJoinPath_any _ o' n' c' (codeAt_at HD'.out HB12.out) (by omega)).mono ?_
        rintro e w13 ⟨x2, y2, hx2, hy2, rfl, hb⟩
        have HB13 := Lib.hid (HB12.out.trans (hb.mono HB12.out.size))
        clear hb
        go_wp2_with fail
        refine (joinPath_any x2 y2 _ (by omega) (by omega)).mono ?_
        rintro e w14 ⟨rfl, hb⟩
        have HB14 := Lib.hid (HB13.out.trans (hb.mono HB13.out.size))
        clear hb
        go_wp2_with fail
        refine (specJoin_any x2 y2 _ (by omega) (by omega)).mono ?_
        rintro e w15 ⟨rfl, hb⟩
        have HB15 := Lib.hid (HB14.out.trans (hb.mono HB14.out.size))
        clear hb
        go_wp2_with fail
        refine (drawDirOf_any _ o' n' c' (codeAt_at HD'.out HB15.out) (by omega)).mono ?_
        rintro e w16 ⟨d2, hd2, rfl, hb⟩
        have HB16 := Lib.hid (HB15.out.trans (hb.mono HB15.out.size))
        clear hb
        go_wp2_with fail
        refine (dirOf_any d2 _ (by omega)).mono ?_
        rintro e w17 ⟨rfl, hb⟩
        have HB17 := Lib.hid (HB16.out.trans (hb.mono HB16.out.size))
        clear hb
        go_wp2_with fail
        refine (specDir_any d2 _ (by omega)).mono ?_
        rintro e w18 ⟨rfl, hb⟩
        have HB18 := Lib.hid (HB17.out.trans (hb.mono HB17.out.size))
        clear hb
        go_wp2
        go_ret
        exact ⟨rfl, HB18.out⟩
      · have HK := Lib.hid (show okF b.data.toList a.data.toList = false by simpa using hk)
        have t1 := HBN.out HK.out
        clear hk
        go_wp2_with fail
        refine (isWithin_any b a _ (by omega) (by omega)).mono ?_
        rintro e w10 ⟨rfl, hb⟩
        have HB10 := Lib.hid (HB9.out.trans (hb.mono HB9.out.size))
        rw [HK.out, HW2.out]
        clear hb
        go_wp2_with fail
        refine (cleanPath_any a _ (by omega)).mono ?_
        rintro e w11 ⟨rfl, hb⟩
        have HB11 := Lib.hid (HB10.out.trans (hb.mono HB10.out.size))
        rw [HGA.out, ← HX.out]
        clear hb
        go_wp2_with fail
        refine (cleanPath_any b _ (by omega)).mono ?_
        rintro e w12 ⟨rfl, hb⟩
        have HB12 := Lib.hid (HB11.out.trans (hb.mono HB11.out.size))
        rw [HGB.out, ← HY.out]
        clear hb
        go_wp2_with fail
        refine (drawJoinPath_any _ o' n' c' (codeAt_at HD'.out HB12.out) (by omega)).mono ?_
        rintro e w13 ⟨x2, y2, hx2, hy2, rfl, hb⟩
        have HB13 := Lib.hid (HB12.out.trans (hb.mono HB12.out.size))
        clear hb
        go_wp2_with fail
        refine (joinPath_any x2 y2 _ (by omega) (by omega)).mono ?_
        rintro e w14 ⟨rfl, hb⟩
        have HB14 := Lib.hid (HB13.out.trans (hb.mono HB13.out.size))
        clear hb
        go_wp2_with fail
        refine (specJoin_any x2 y2 _ (by omega) (by omega)).mono ?_
        rintro e w15 ⟨rfl, hb⟩
        have HB15 := Lib.hid (HB14.out.trans (hb.mono HB14.out.size))
        clear hb
        go_wp2_with fail
        refine (drawDirOf_any _ o' n' c' (codeAt_at HD'.out HB15.out) (by omega)).mono ?_
        rintro e w16 ⟨d2, hd2, rfl, hb⟩
        have HB16 := Lib.hid (HB15.out.trans (hb.mono HB15.out.size))
        clear hb
        go_wp2_with fail
        refine (dirOf_any d2 _ (by omega)).mono ?_
        rintro e w17 ⟨rfl, hb⟩
        have HB17 := Lib.hid (HB16.out.trans (hb.mono HB16.out.size))
        clear hb
        go_wp2_with fail
        refine (specDir_any d2 _ (by omega)).mono ?_
        rintro e w18 ⟨rfl, hb⟩
        have HB18 := Lib.hid (HB17.out.trans (hb.mono HB17.out.size))
        clear hb
        go_wp2
        go_ret
        exact ⟨rfl, HB18.out⟩
    · have HJ := Lib.hid (show okJ a.data.toList R.data.toList = false by simpa using hj)
      have HJ2 := Lib.hid (joinT_no HJ.out)
      clear hj
      go_wp2_with fail
      refine (joinPath_any a R _ (by omega) (by omega)).mono ?_
      rintro e w6 ⟨rfl, hb⟩
      have HB6 := Lib.hid (HB5.out.trans (hb.mono HB5.out.size))
      rw [HJ.out]
      clear hb
      go_wp2_with fail
      refine (cleanPath_any b _ (by omega)).mono ?_
      rintro e w7 ⟨rfl, hb⟩
      have HB7 := Lib.hid (HB6.out.trans (hb.mono HB6.out.size))
      rw [HGB.out, ← HY.out]
      clear hb
      go_wp2_with fail
      refine (isWithin_any a a _ (by omega) (by omega)).mono ?_
      rintro e w8 ⟨rfl, hb⟩
      have HB8 := Lib.hid (HB7.out.trans (hb.mono HB7.out.size))
      rw [HSF.out.1, HSF.out.2]
      clear hb
      go_wp2_with fail
      refine (isWithin_any _ b _ (by decide) (by omega)).mono ?_
      rintro e w9 ⟨rfl, hb⟩
      have HB9 := Lib.hid (HB8.out.trans (hb.mono HB8.out.size))
      rw [HRT.out.1, HRT.out.2]
      clear hb
      by_cases hk : okF b.data.toList a.data.toList = true
      · have HK := Lib.hid hk
        have HE := Lib.hid (HBT.out hk)
        clear hk
        go_wp2_with fail
        refine (isWithin_any b a _ (by omega) (by omega)).mono ?_
        rintro e w10 ⟨rfl, hb⟩
        have HB10 := Lib.hid (HB9.out.trans (hb.mono HB9.out.size))
        rw [HK.out, HW2.out]
        clear hb
        go_wp2_with fail
        refine (cleanPath_any a _ (by omega)).mono ?_
        rintro e w11 ⟨rfl, hb⟩
        have HB11 := Lib.hid (HB10.out.trans (hb.mono HB10.out.size))
        rw [HGA.out, ← HX.out, HE.out]
        clear hb
        go_wp2_with fail
        refine (cleanPath_any b _ (by omega)).mono ?_
        rintro e w12 ⟨rfl, hb⟩
        have HB12 := Lib.hid (HB11.out.trans (hb.mono HB11.out.size))
        rw [HGB.out, ← HY.out]
        clear hb
        go_wp2_with fail
        refine (drawJoinPath_any _ o' n' c' (codeAt_at HD'.out HB12.out) (by omega)).mono ?_
        rintro e w13 ⟨x2, y2, hx2, hy2, rfl, hb⟩
        have HB13 := Lib.hid (HB12.out.trans (hb.mono HB12.out.size))
        clear hb
        go_wp2_with fail
        refine (joinPath_any x2 y2 _ (by omega) (by omega)).mono ?_
        rintro e w14 ⟨rfl, hb⟩
        have HB14 := Lib.hid (HB13.out.trans (hb.mono HB13.out.size))
        clear hb
        go_wp2_with fail
        refine (specJoin_any x2 y2 _ (by omega) (by omega)).mono ?_
        rintro e w15 ⟨rfl, hb⟩
        have HB15 := Lib.hid (HB14.out.trans (hb.mono HB14.out.size))
        clear hb
        go_wp2_with fail
        refine (drawDirOf_any _ o' n' c' (codeAt_at HD'.out HB15.out) (by omega)).mono ?_
        rintro e w16 ⟨d2, hd2, rfl, hb⟩
        have HB16 := Lib.hid (HB15.out.trans (hb.mono HB15.out.size))
        clear hb
        go_wp2_with fail
        refine (dirOf_any d2 _ (by omega)).mono ?_
        rintro e w17 ⟨rfl, hb⟩
        have HB17 := Lib.hid (HB16.out.trans (hb.mono HB16.out.size))
        clear hb
        go_wp2_with fail
        refine (specDir_any d2 _ (by omega)).mono ?_
        rintro e w18 ⟨rfl, hb⟩
        have HB18 := Lib.hid (HB17.out.trans (hb.mono HB17.out.size))
        clear hb
        go_wp2
        go_ret
        exact ⟨rfl, HB18.out⟩
      · have HK := Lib.hid (show okF b.data.toList a.data.toList = false by simpa using hk)
        have t1 := HBN.out HK.out
        clear hk
        go_wp2_with fail
        refine (isWithin_any b a _ (by omega) (by omega)).mono ?_
        rintro e w10 ⟨rfl, hb⟩
        have HB10 := Lib.hid (HB9.out.trans (hb.mono HB9.out.size))
        rw [HK.out, HW2.out]
        clear hb
        go_wp2_with fail
        refine (cleanPath_any a _ (by omega)).mono ?_
        rintro e w11 ⟨rfl, hb⟩
        have HB11 := Lib.hid (HB10.out.trans (hb.mono HB10.out.size))
        rw [HGA.out, ← HX.out]
        clear hb
        go_wp2_with fail
        refine (cleanPath_any b _ (by omega)).mono ?_
        rintro e w12 ⟨rfl, hb⟩
        have HB12 := Lib.hid (HB11.out.trans (hb.mono HB11.out.size))
        rw [HGB.out, ← HY.out]
        clear hb
        go_wp2_with fail
        refine (drawJoinPath_any _ o' n' c' (codeAt_at HD'.out HB12.out) (by omega)).mono ?_
        rintro e w13 ⟨x2, y2, hx2, hy2, rfl, hb⟩
        have HB13 := Lib.hid (HB12.out.trans (hb.mono HB12.out.size))
        clear hb
        go_wp2_with fail
        refine (joinPath_any x2 y2 _ (by omega) (by omega)).mono ?_
        rintro e w14 ⟨rfl, hb⟩
        have HB14 := Lib.hid (HB13.out.trans (hb.mono HB13.out.size))
        clear hb
        go_wp2_with fail
        refine (specJoin_any x2 y2 _ (by omega) (by omega)).mono ?_
        rintro e w15 ⟨rfl, hb⟩
        have HB15 := Lib.hid (HB14.out.trans (hb.mono HB14.out.size))
        clear hb
        go_wp2_with fail
        refine (drawDirOf_any _ o' n' c' (codeAt_at HD'.out HB15.out) (by omega)).mono ?_
        rintro e w16 ⟨d2, hd2, rfl, hb⟩
        have HB16 := Lib.hid (HB15.out.trans (hb.mono HB15.out.size))
        clear hb
        go_wp2_with fail
        refine (dirOf_any d2 _ (by omega)).mono ?_
        rintro e w17 ⟨rfl, hb⟩
        have HB17 := Lib.hid (HB16.out.trans (hb.mono HB16.out.size))
        clear hb
        go_wp2_with fail
        refine (specDir_any d2 _ (by omega)).mono ?_
        rintro e w18 ⟨rfl, hb⟩
        have HB18 := Lib.hid (HB17.out.trans (hb.mono HB17.out.size))
        clear hb
        go_wp2
        go_ret
        exact ⟨rfl, HB18.out⟩
  · have HF := Lib.hid (show okF a.data.toList b.data.toList = false by simpa using hf)
    by_cases hw : okW a.data.toList b.data.toList = true
    · have HW := Lib.hid hw
      have hw2 : wgB a.data.toList = true ∧ wgB b.data.toList = true := by simpa [okW] using hw
      have HSF := Lib.hid (okF_self hw2.1)
      have HRT : Hid (okF (ByteArray.mk #[47]).data.toList b.data.toList = true ∧ okW (ByteArray.mk #[47]).data.toList b.data.toList = true) := Lib.hid (okF_root hw2.2)
      clear hf hw hw2 hR
      go_wp2_with fail
      refine (fromTo_any a b _ (by omega) (by omega)).mono ?_
      rintro e w2 ⟨rfl, hb⟩
      have HB2 := Lib.hid (HB1.out.trans (hb.mono HB1.out.size))
      rw [HF.out, ← HR.out]
      clear hb
      go_wp2_with fail
      refine (specFrom_any a b _ (by omega) (by omega)).mono ?_
      rintro e w3 ⟨rfl, hb⟩
      have HB3 := Lib.hid (HB2.out.trans (hb.mono HB2.out.size))
      rw [HF.out, ← HR.out]
      clear hb
      go_wp2_with fail
      refine (isWithin_any a b _ (by omega) (by omega)).mono ?_
      rintro e w4 ⟨rfl, hb⟩
      have HB4 := Lib.hid (HB3.out.trans (hb.mono HB3.out.size))
      rw [HF.out, HW.out]
      clear hb
      go_wp2_with fail
      refine (specWithin_any a b _ (by omega) (by omega)).mono ?_
      rintro e w5 ⟨rfl, hb⟩
      have HB5 := Lib.hid (HB4.out.trans (hb.mono HB4.out.size))
      rw [HF.out, HW.out]
      clear hb
      go_wp2_with fail
      refine (isWithin_any a a _ (by omega) (by omega)).mono ?_
      rintro e w6 ⟨rfl, hb⟩
      have HB6 := Lib.hid (HB5.out.trans (hb.mono HB5.out.size))
      rw [HSF.out.1, HSF.out.2]
      clear hb
      go_wp2_with fail
      refine (isWithin_any _ b _ (by decide) (by omega)).mono ?_
      rintro e w7 ⟨rfl, hb⟩
      have HB7 := Lib.hid (HB6.out.trans (hb.mono HB6.out.size))
      rw [HRT.out.1, HRT.out.2]
      clear hb
      go_wp2_with fail
      refine (drawJoinPath_any _ o' n' c' (codeAt_at HD'.out HB7.out) (by omega)).mono ?_
      rintro e w8 ⟨x2, y2, hx2, hy2, rfl, hb⟩
      have HB8 := Lib.hid (HB7.out.trans (hb.mono HB7.out.size))
      clear hb
      go_wp2_with fail
      refine (joinPath_any x2 y2 _ (by omega) (by omega)).mono ?_
      rintro e w9 ⟨rfl, hb⟩
      have HB9 := Lib.hid (HB8.out.trans (hb.mono HB8.out.size))
      clear hb
      go_wp2_with fail
      refine (specJoin_any x2 y2 _ (by omega) (by omega)).mono ?_
      rintro e w10 ⟨rfl, hb⟩
      have HB10 := Lib.hid (HB9.out.trans (hb.mono HB9.out.size))
      clear hb
      go_wp2_with fail
      refine (drawDirOf_any _ o' n' c' (codeAt_at HD'.out HB10.out) (by omega)).mono ?_
      rintro e w11 ⟨d2, hd2, rfl, hb⟩
      have HB11 := Lib.hid (HB10.out.trans (hb.mono HB10.out.size))
      clear hb
      go_wp2_with fail
      refine (dirOf_any d2 _ (by omega)).mono ?_
      rintro e w12 ⟨rfl, hb⟩
      have HB12 := Lib.hid (HB11.out.trans (hb.mono HB11.out.size))
      clear hb
      go_wp2_with fail
      refine (specDir_any d2 _ (by omega)).mono ?_
      rintro e w13 ⟨rfl, hb⟩
      have HB13 := Lib.hid (HB12.out.trans (hb.mono HB12.out.size))
      clear hb
      go_wp2
      go_ret
      exact ⟨rfl, HB13.out⟩
    · have HW := Lib.hid (show okW a.data.toList b.data.toList = false by simpa using hw)
      clear hf hw hR
      go_wp2_with fail
      refine (fromTo_any a b _ (by omega) (by omega)).mono ?_
      rintro e w2 ⟨rfl, hb⟩
      have HB2 := Lib.hid (HB1.out.trans (hb.mono HB1.out.size))
      rw [HF.out, ← HR.out]
      clear hb
      go_wp2_with fail
      refine (specFrom_any a b _ (by omega) (by omega)).mono ?_
      rintro e w3 ⟨rfl, hb⟩
      have HB3 := Lib.hid (HB2.out.trans (hb.mono HB2.out.size))
      rw [HF.out, ← HR.out]
      clear hb
      go_wp2_with fail
      refine (isWithin_any a b _ (by omega) (by omega)).mono ?_
      rintro e w4 ⟨rfl, hb⟩
      have HB4 := Lib.hid (HB3.out.trans (hb.mono HB3.out.size))
      rw [HF.out, HW.out]
      clear hb
      go_wp2_with fail
      refine (specWithin_any a b _ (by omega) (by omega)).mono ?_
      rintro e w5 ⟨rfl, hb⟩
      have HB5 := Lib.hid (HB4.out.trans (hb.mono HB4.out.size))
      rw [HF.out, HW.out]
      clear hb
      go_wp2_with fail
      refine (drawJoinPath_any _ o' n' c' (codeAt_at HD'.out HB5.out) (by omega)).mono ?_
      rintro e w6 ⟨x2, y2, hx2, hy2, rfl, hb⟩
      have HB6 := Lib.hid (HB5.out.trans (hb.mono HB5.out.size))
      clear hb
      go_wp2_with fail
      refine (joinPath_any x2 y2 _ (by omega) (by omega)).mono ?_
      rintro e w7 ⟨rfl, hb⟩
      have HB7 := Lib.hid (HB6.out.trans (hb.mono HB6.out.size))
      clear hb
      go_wp2_with fail
      refine (specJoin_any x2 y2 _ (by omega) (by omega)).mono ?_
      rintro e w8 ⟨rfl, hb⟩
      have HB8 := Lib.hid (HB7.out.trans (hb.mono HB7.out.size))
      clear hb
      go_wp2_with fail
      refine (drawDirOf_any _ o' n' c' (codeAt_at HD'.out HB8.out) (by omega)).mono ?_
      rintro e w9 ⟨d2, hd2, rfl, hb⟩
      have HB9 := Lib.hid (HB8.out.trans (hb.mono HB8.out.size))
      clear hb
      go_wp2_with fail
      refine (dirOf_any d2 _ (by omega)).mono ?_
      rintro e w10 ⟨rfl, hb⟩
      have HB10 := Lib.hid (HB9.out.trans (hb.mono HB9.out.size))
      clear hb
      go_wp2_with fail
      refine (specDir_any d2 _ (by omega)).mono ?_
      rintro e w11 ⟨rfl, hb⟩
      have HB11 := Lib.hid (HB10.out.trans (hb.mono HB10.out.size))
      clear hb
      go_wp2
      go_ret
      exact ⟨rfl, HB11.out⟩

set_option maxRecDepth 100000 in
set_option maxHeartbeats 400000 in
theorem walk_big (o o' : Option Addr) (n c n' c' : Nat) (w : World) (hb : bigB n n' = true) (hn : n ≤ 9223372036854775807) (hn' : n' ≤ 9223372036854775807) :
    Calls Try.prog 4 #[.slice o n c, .slice o' n' c'] w fun e w' => e = .returned (.bool true) ∧ Below w.heap.size w w' := by
  have HB := Lib.hid hb
  clear hb
  go_enter Try.func4, Try.ntmps4
  go_wp2_with fail
  refine (big_any _ _ _ _ _ _ _ hn hn').mono ?_
  rintro e w' ⟨rfl, rfl⟩
  rw [HB.out]
  go_wp2
  go_ret
  exact ⟨rfl, Below.refl _ _⟩
end Go.Proofs.Ytpdnhaaedibbaaa.fnWithin
