/-
  Contracts of spec.l2Whole, spec.l2Within, spec.IsWithin, spec.FromTo.
  Conditions: texts of at most 2^30 bytes.
-/
import Derived.Test.YtpdnhaaedibbaaaFromC
namespace Go.Proofs.Ytpdnhaaedibbaaa
open Go.ChangeShapes Go.WideShapes Go.ChangeAt Go.RowKit Go.Joins
set_option linter.unusedVariables false

set_option maxHeartbeats 400000 in
theorem l2Whole_any (s : ByteArray) (w : World) (hs : s.size ≤ 1073741824) : Calls Try.prog 72 #[.string s] w fun e w' => e = .returned (.bool (wgB s.data.toList)) ∧ Below w.heap.size w w' := by
  by_cases hg : goodB s.data.toList = true
  · have HG := Lib.hid hg
    have h0 : 0 < s.size := by simp [goodB] at hg; omega
    have HWA := Lib.hid (whole_at h0)
    by_cases hw : (s[0]'h0) = 47
    · have hw' : ((s[0]'h0).toNat : Int) = 47 := by rw [hw]; rfl
      have HE : Hid (wgB s.data.toList = true) := Lib.hid (by simp [wgB, hg, HWA.out, hw])
      clear hg hw
      go_enter Try.func72, Try.ntmps72
      go_wp2_with fail
      refine (l2Path_any _ _ hs).mono ?_
      rintro e w1 ⟨rfl, hb⟩
      rw [HG.out]
      go_wp2
      go_ret
      exact ⟨ret_bool HE.out.symm, hb⟩
    · have hw' : (((s[0]'h0).toNat : Int) == 47) = false := by simpa using not47 hw
      have HE : Hid (wgB s.data.toList = false) := Lib.hid (by simp [wgB, HWA.out, hw])
      clear hg hw
      go_enter Try.func72, Try.ntmps72
      go_wp2_with fail
      refine (l2Path_any _ _ hs).mono ?_
      rintro e w1 ⟨rfl, hb⟩
      rw [HG.out]
      go_wp2
      go_ret
      exact ⟨ret_bool HE.out.symm, hb⟩
  · have HG := Lib.hid (show goodB s.data.toList = false by simpa using hg)
    have HE : Hid (wgB s.data.toList = false) := Lib.hid (by simp [wgB, HG.out])
    clear hg
    go_enter Try.func72, Try.ntmps72
    go_wp2_with fail
    refine (l2Path_any _ _ hs).mono ?_
    rintro e w1 ⟨rfl, hb⟩
    rw [HG.out]
    go_wp2
    go_ret
    exact ⟨ret_bool HE.out.symm, hb⟩

theorem pre_take {ps qs : List (List UInt8)} (hl : ps.length ≤ qs.length) (h : ∀ i (h1 : i < ps.length), ps[i] = qs[i]'(by omega)) : ps.isPrefixOf qs = true := by
  rw [List.isPrefixOf_iff_prefix, List.prefix_iff_eq_take]
  apply List.ext_getElem
  · simp; omega
  · intro i h1 h2
    rw [List.getElem_take]
    exact h i h1
theorem pre_bad {ps qs : List (List UInt8)} {i : Nat} (h1 : i < ps.length) (h2 : i < qs.length) (h : ps[i] ≠ qs[i]) : ps.isPrefixOf qs = false := by
  rw [Bool.eq_false_iff]
  intro hp
  have h3 := List.isPrefixOf_iff_prefix.1 hp
  exact h (h3.getElem h1)
theorem pre_long {ps qs : List (List UInt8)} (h : qs.length < ps.length) : ps.isPrefixOf qs = false := by
  rw [Bool.eq_false_iff]
  intro hp
  have := (List.isPrefixOf_iff_prefix.1 hp).length_le
  omega

set_option maxHeartbeats 2000000 in
theorem l2Within_any (a b : ByteArray) (w : World) (ha : a.size ≤ 1073741824) (hb : b.size ≤ 1073741824) (a0 : 0 < a.size) (b0 : 0 < b.size) : Calls Try.prog 73 #[.string a, .string b] w fun e w' => e = .returned (.bool ((cleanOf a.data.toList).isPrefixOf (cleanOf b.data.toList))) ∧ Below w.heap.size w w' := by
  go_enter Try.func73, Try.ntmps73
  go_wp2_with fail
  refine (l2Clean_any _ _ ha a0).mono ?_
  rintro e w1 ⟨v1, rfl, hL1, hb1⟩
  go_wp2_with fail
  refine (l2Clean_any _ _ hb b0).mono ?_
  rintro e w2 ⟨v2, rfl, hL2, hb2⟩
  have hR1 := hL1.read.below hb2
  have hR2 := hL2.read
  have h12 := hb1.trans (hb2.mono hb1.size)
  clear hL1 hL2 hb1 hb2
  obtain ⟨ps, hps⟩ : ∃ ps, ps = cleanOf a.data.toList := ⟨_, rfl⟩
  obtain ⟨qs, hqs⟩ : ∃ qs, qs = cleanOf b.data.toList := ⟨_, rfl⟩
  have HE : Hid ((cleanOf a.data.toList).isPrefixOf (cleanOf b.data.toList) = ps.isPrefixOf qs) := Lib.hid (by rw [hps, hqs])
  rw [← hps] at hR1
  rw [← hqs] at hR2
  clear hps hqs
  obtain ⟨o1, c1, rfl, hlc1, hcm1, hH1⟩ := hR1
  obtain ⟨o2, c2, rfl, hlc2, hcm2, hH2⟩ := hR2
  have HH1 := Lib.hid hH1
  have HH2 := Lib.hid hH2
  clear hH1 hH2
  unfold maxLen at hcm1 hcm2
  by_cases hlen : ps.length ≤ qs.length
  · go_wp2
    go_loop [20] (fun i => ∃ k : Nat, k ≤ ps.length ∧ i = .int .i64 k ∧ ∀ j (h1 : j < k) (h2 : j < ps.length) (h3 : j < qs.length), ps[j] = qs[j]) (fun i => ps.length - (intOf i).toNat)
    case atStart => exact ⟨0, Nat.zero_le _, rfl, fun j h => absurd h (by omega)⟩
    case round =>
      obtain ⟨k, hk, rfl, hA⟩ := hrel
      have HA := Lib.hid hA
      clear hA
      by_cases hlt : k < ps.length
      · have hlt2 : k < qs.length := by omega
        obtain ⟨g1, f1, rfl, _, hc1⟩ := HH1.out k hlt
        obtain ⟨g2, f2, rfl, _, hc2⟩ := HH2.out k hlt2
        by_cases he : ps[k] = qs[k]
        · have HEq := Lib.hid he
          rw [he] at hc1
          obtain ⟨x, hx⟩ : ∃ x, x = bs qs[k] := ⟨_, rfl⟩
          rw [← hx] at hc1 hc2
          clear he hx
          go_wp2
          go_round
          case rel =>
            refine ⟨k + 1, hlt, by go_num, fun j h1 h2 h3 => ?_⟩
            by_cases hj : j = k
            · subst hj; exact HEq.out
            · exact HA.out j (by omega) h2 h3
          case measure => simp [intOf]; omega
        · have HB := Lib.hid (pre_bad hlt hlt2 he)
          have t1 : ((bs ps[k]).toList == (bs qs[k]).toList) = false := by
            rw [ByteArray.toList_eq, ByteArray.toList_eq, bs_list, bs_list]; simpa using he
          obtain ⟨x, hx⟩ : ∃ x, x = bs ps[k] := ⟨_, rfl⟩
          obtain ⟨y, hy⟩ : ∃ y, y = bs qs[k] := ⟨_, rfl⟩
          rw [← hx] at hc1 t1
          rw [← hy] at hc2 t1
          clear he hx hy
          go_wp2
          go_ret
          exact ⟨ret_bool (by rw [HE.out, HB.out]), h12⟩
      · have HB := Lib.hid (pre_take hlen (fun i h1 => HA.out i (by omega) h1 (by omega)))
        go_wp2
        go_ret
        exact ⟨ret_bool (by rw [HE.out, HB.out]), h12⟩
  · have HB := Lib.hid (pre_long (ps := ps) (qs := qs) (by omega))
    go_wp2
    go_ret
    exact ⟨ret_bool (by rw [HE.out, HB.out]), h12⟩

theorem wg_pos {s : ByteArray} (h : wgB s.data.toList = true) : 0 < s.size := by
  simp [wgB, goodB] at h; omega
theorem okF_in {a b : List UInt8} (ha : wgB a = true) (hb : wgB b = true) : okF a b = (cleanOf a).isPrefixOf (cleanOf b) := by simp [okF, ha, hb]

set_option maxHeartbeats 1000000 in
theorem specWithin_any (a b : ByteArray) (w : World) (ha : a.size ≤ 1073741824) (hb : b.size ≤ 1073741824) : Calls Try.prog 40 #[.string a, .string b] w fun e w' => e = .returned (.tuple #[.bool (okF a.data.toList b.data.toList), .bool (okW a.data.toList b.data.toList)]) ∧ Below w.heap.size w w' := by
  by_cases g1 : wgB a.data.toList = true
  · have G1 := Lib.hid g1
    by_cases g2 : wgB b.data.toList = true
    · have G2 := Lib.hid g2
      have HW : Hid (okW a.data.toList b.data.toList = true) := Lib.hid (by simp [okW, g1, g2])
      have HF := Lib.hid (okF_in g1 g2)
      clear g1 g2
      go_enter Try.func40, Try.ntmps40
      go_wp2_with fail
      refine (l2Whole_any _ _ (by omega)).mono ?_
      rintro e w1 ⟨rfl, hb1⟩
      rw [G1.out]
      go_wp2_with fail
      refine (l2Whole_any _ _ (by omega)).mono ?_
      rintro e w2 ⟨rfl, hb2⟩
      rw [G2.out]
      go_wp2_with fail
      refine (l2Within_any _ _ _ (by omega) (by omega) (wg_pos G1.out) (wg_pos G2.out)).mono ?_
      rintro e w3 ⟨rfl, hb3⟩
      go_wp2
      go_ret2
      have h12 := hb1.trans (hb2.mono hb1.size)
      exact ⟨tupb HF.out.symm HW.out.symm, h12.trans (hb3.mono h12.size)⟩
    · have G2 := Lib.hid (show wgB b.data.toList = false by simpa using g2)
      have O1 := Lib.hid (okF_no (a := a.data.toList) (b := b.data.toList) (by rw [G2.out, Bool.and_false])).1
      have HW : Hid (okW a.data.toList b.data.toList = false) := Lib.hid (by simp [okW, G2.out])
      clear g1 g2
      go_enter Try.func40, Try.ntmps40
      go_wp2_with fail
      refine (l2Whole_any _ _ (by omega)).mono ?_
      rintro e w1 ⟨rfl, hb1⟩
      rw [G1.out]
      go_wp2_with fail
      refine (l2Whole_any _ _ (by omega)).mono ?_
      rintro e w2 ⟨rfl, hb2⟩
      rw [G2.out]
      go_wp2
      go_ret2
      exact ⟨tupb O1.out.symm HW.out.symm, hb1.trans (hb2.mono hb1.size)⟩
  · have G1 := Lib.hid (show wgB a.data.toList = false by simpa using g1)
    have O1 := Lib.hid (okF_no (a := a.data.toList) (b := b.data.toList) (by rw [G1.out, Bool.false_and])).1
    have HW : Hid (okW a.data.toList b.data.toList = false) := Lib.hid (by simp [okW, G1.out])
    clear g1
    go_enter Try.func40, Try.ntmps40
    go_wp2_with fail
    refine (l2Whole_any _ _ (by omega)).mono ?_
    rintro e w1 ⟨rfl, hb1⟩
    rw [G1.out]
    go_wp2
    go_ret2
    exact ⟨tupb O1.out.symm HW.out.symm, hb1⟩

/-- What is behind the first n elements of a list that can be read. -/
theorem rd_tail {W : World} {g off c n : Nat} {ps : List (List UInt8)} (h : Rd W (.slice (some ⟨g, off, none⟩) ps.length c) ps) (hn : n ≤ ps.length) : Rd W (.slice (some ⟨g, off + n, none⟩) (ps.length - n) (c - n)) (ps.drop n) := by
  obtain ⟨o, c', e, hlc, hcm, hH⟩ := h
  simp only [Value.slice.injEq, true_and] at e
  obtain ⟨rfl, rfl⟩ := e
  refine ⟨_, _, by rw [List.length_drop], by rw [List.length_drop]; omega, by omega, fun i hi => ?_⟩
  rw [List.length_drop] at hi
  obtain ⟨g', off', e, hg, hc⟩ := hH (n + i) (by omega)
  simp only [Option.some.injEq, Addr.mk.injEq, and_true] at e
  obtain ⟨rfl, rfl⟩ := e
  refine ⟨g, off + n, rfl, hg, ?_⟩
  rw [List.getElem_drop, Nat.add_assoc]
  exact hc

set_option maxHeartbeats 2000000 in
theorem specFrom_any (a b : ByteArray) (w : World) (ha : a.size ≤ 1073741824) (hb : b.size ≤ 1073741824) : Calls Try.prog 38 #[.string a, .string b] w fun e w' => e = .returned (.tuple #[.string (bs (fromT a.data.toList b.data.toList)), .bool (okF a.data.toList b.data.toList)]) ∧ Below w.heap.size w w' := by
  by_cases g1 : wgB a.data.toList = true
  · have G1 := Lib.hid g1
    by_cases g2 : wgB b.data.toList = true
    · have G2 := Lib.hid g2
      have HF := Lib.hid (okF_in g1 g2)
      by_cases hk : okF a.data.toList b.data.toList = true
      · have HK := Lib.hid hk
        have HT : Hid (fromT a.data.toList b.data.toList = fromL a.data.toList b.data.toList) := Lib.hid (by unfold fromT; rw [hk]; rfl)
        have HP : Hid ((cleanOf a.data.toList).isPrefixOf (cleanOf b.data.toList) = true) := Lib.hid (by rw [← HF.out, hk])
        have hle : (cleanOf a.data.toList).length ≤ (cleanOf b.data.toList).length := (List.isPrefixOf_iff_prefix.1 HP.out).length_le
        have hsl : (slashed (cleanOf b.data.toList)).length ≤ 10000 := by
          have h1 := G2.out
          simp only [wgB, Bool.and_eq_true] at h1
          exact slashed_small h1.2
        clear g1 g2 hk
        go_enter Try.func38, Try.ntmps38
        go_wp2_with fail
        refine (l2Whole_any _ _ (by omega)).mono ?_
        rintro e w1 ⟨rfl, hb1⟩
        rw [G1.out]
        go_wp2_with fail
        refine (l2Whole_any _ _ (by omega)).mono ?_
        rintro e w2 ⟨rfl, hb2⟩
        rw [G2.out]
        go_wp2_with fail
        refine (l2Within_any _ _ _ (by omega) (by omega) (wg_pos G1.out) (wg_pos G2.out)).mono ?_
        rintro e w3 ⟨rfl, hb3⟩
        rw [HP.out]
        go_wp2_with fail
        refine (l2Clean_any _ _ (by omega) (wg_pos G2.out)).mono ?_
        rintro e w4 ⟨v4, rfl, hL4, hb4⟩
        go_wp2_with fail
        refine (l2Clean_any _ _ (by omega) (wg_pos G1.out)).mono ?_
        rintro e w5 ⟨v5, rfl, hL5, hb5⟩
        have h12 := hb1.trans (hb2.mono hb1.size)
        have h13 := h12.trans (hb3.mono h12.size)
        have h14 := h13.trans (hb4.mono h13.size)
        have h15 := h14.trans (hb5.mono h14.size)
        have hR4 := hL4.read.below hb5
        have h4 : (v4 = .slice none 0 0 ∧ (cleanOf b.data.toList).length = 0) ∨ ∃ g cap, v4 = .slice (some ⟨g, 0, none⟩) (cleanOf b.data.toList).length cap ∧ (cleanOf b.data.toList).length ≤ cap ∧ cap ≤ maxLen := by
          rcases hL4.2 with h | ⟨g, cap, cur, e, _, _, h1, h2, _⟩
          · exact .inl h
          · exact .inr ⟨g, cap, e, h1, h2⟩
        obtain ⟨o5, c5, rfl, _, hcm5, _⟩ := hL5.read
        clear hL4 hL5 hb1 hb2 hb3 hb4 hb5 h12 h13 h14
        obtain ⟨ps, hps⟩ : ∃ ps, ps = cleanOf a.data.toList := ⟨_, rfl⟩
        obtain ⟨qs, hqs⟩ : ∃ qs, qs = cleanOf b.data.toList := ⟨_, rfl⟩
        have HL : Hid (fromL a.data.toList b.data.toList = if qs.drop ps.length = [] then [46] else (slashed (qs.drop ps.length)).drop 1) := Lib.hid (by rw [hps, hqs]; rfl)
        rw [← hps] at hle ⊢
        rw [← hqs] at hle hR4 hsl h4
        clear hps hqs
        have HR := Lib.hid hR4
        clear hR4
        unfold maxLen at hcm5
        rcases h4 with ⟨rfl, hz⟩ | ⟨g, cap, rfl, hnc, hcm⟩
        · obtain rfl : qs = [] := List.eq_nil_of_length_eq_zero hz
          obtain rfl : ps = [] := List.eq_nil_of_length_eq_zero (by simpa using hle)
          have HE : Hid (fromL a.data.toList b.data.toList = [46]) := Lib.hid (by rw [HL.out]; rfl)
          clear HL
          go_wp2
          go_ret2
          exact ⟨tup2 (by rw [HT.out, HE.out]; rfl) HK.out.symm, h15⟩
        · unfold maxLen at hcm
          by_cases hcap : cap = ps.length
          · have he : qs.length = ps.length := by omega
            have HE : Hid (fromL a.data.toList b.data.toList = [46]) := Lib.hid (by rw [HL.out, if_pos (List.drop_eq_nil_of_le (by omega))])
            rw [he]
            subst hcap
            clear HL he
            go_wp2
            go_ret2
            exact ⟨tup2 (by rw [HT.out, HE.out]; rfl) HK.out.symm, h15⟩
          · have hcap2 : ¬ ps.length = cap := fun e => hcap e.symm
            by_cases he : qs.length = ps.length
            · have HE : Hid (fromL a.data.toList b.data.toList = [46]) := Lib.hid (by rw [HL.out, if_pos (List.drop_eq_nil_of_le (by omega))])
              rw [he]
              clear HL he HR
              go_wp2
              go_ret2
              exact ⟨tup2 (by rw [HT.out, HE.out]; rfl) HK.out.symm, h15⟩
            · have hd : qs.drop ps.length ≠ [] := by
                intro e
                have := congrArg List.length e
                simp at this; omega
              have HE : Hid (fromL a.data.toList b.data.toList = (pathL (qs.drop ps.length)).drop 1) := Lib.hid (by rw [HL.out, if_neg hd]; unfold pathL; rw [if_neg hd])
              have HD0 := rd_tail HR.out hle
              rw [Nat.zero_add] at HD0
              have HD := Lib.hid HD0
              clear HD0
              have hn1 : (((qs.length - ps.length : Nat) : Int) == 0) = false := by simp; omega
              have hn2 : (((qs.length : Int) - (ps.length : Int)) == 0) = false := by simp; omega
              have hdl : (slashed (qs.drop ps.length)).length ≤ 10000 := by
                have h1 := slashed_app (qs.take ps.length) (qs.drop ps.length)
                rw [List.take_append_drop] at h1
                rw [h1] at hsl; simp at hsl; omega
              have hp1 : 1 ≤ (bs (pathL (qs.drop ps.length))).size := by rw [bs_size, ← join_eq]; simp
              have hp2 : (bs (pathL (qs.drop ps.length))).size ≤ 10000 := by rw [bs_size]; unfold pathL; rw [if_neg hd]; exact hdl
              clear HL HR he hd
              go_wp2_with fail
              refine (l2Of_any _ _ _ HD.out (by omega)).mono ?_
              rintro e w6 ⟨rfl, rfl⟩
              obtain ⟨x, hx⟩ : ∃ x, x = bs (pathL (qs.drop ps.length)) := ⟨_, rfl⟩
              rw [← hx] at hp1 hp2 ⊢
              have HX := Lib.hid hx
              clear hx
              go_wp2
              go_ret2
              refine ⟨tup2 ?_ HK.out.symm, h15⟩
              rw [HT.out, HE.out, bs_ext, HX.out, bs_list, bs_size, List.take_of_length_le (Nat.le_refl _)]
      · have HK := Lib.hid (show okF a.data.toList b.data.toList = false by simpa using hk)
        have HP : Hid ((cleanOf a.data.toList).isPrefixOf (cleanOf b.data.toList) = false) := Lib.hid (by rw [← HF.out, HK.out])
        have HT : Hid (fromT a.data.toList b.data.toList = []) := Lib.hid (by unfold fromT; rw [HK.out]; rfl)
        clear g1 g2 hk
        go_enter Try.func38, Try.ntmps38
        go_wp2_with fail
        refine (l2Whole_any _ _ (by omega)).mono ?_
        rintro e w1 ⟨rfl, hb1⟩
        rw [G1.out]
        go_wp2_with fail
        refine (l2Whole_any _ _ (by omega)).mono ?_
        rintro e w2 ⟨rfl, hb2⟩
        rw [G2.out]
        go_wp2_with fail
        refine (l2Within_any _ _ _ (by omega) (by omega) (wg_pos G1.out) (wg_pos G2.out)).mono ?_
        rintro e w3 ⟨rfl, hb3⟩
        rw [HP.out]
        go_wp2
        go_ret2
        have h12 := hb1.trans (hb2.mono hb1.size)
        exact ⟨tup2 (by rw [HT.out]; rfl) HK.out.symm, h12.trans (hb3.mono h12.size)⟩
    · have G2 := Lib.hid (show wgB b.data.toList = false by simpa using g2)
      obtain ⟨o1, o2⟩ := okF_no (a := a.data.toList) (b := b.data.toList) (by rw [G2.out, Bool.and_false])
      have O1 := Lib.hid o1
      have O2 := Lib.hid o2
      clear g1 g2 o1 o2
      go_enter Try.func38, Try.ntmps38
      go_wp2_with fail
      refine (l2Whole_any _ _ (by omega)).mono ?_
      rintro e w1 ⟨rfl, hb1⟩
      rw [G1.out]
      go_wp2_with fail
      refine (l2Whole_any _ _ (by omega)).mono ?_
      rintro e w2 ⟨rfl, hb2⟩
      rw [G2.out]
      go_wp2
      go_ret2
      exact ⟨tup2 (by rw [O2.out]; rfl) O1.out.symm, hb1.trans (hb2.mono hb1.size)⟩
  · have G1 := Lib.hid (show wgB a.data.toList = false by simpa using g1)
    obtain ⟨o1, o2⟩ := okF_no (a := a.data.toList) (b := b.data.toList) (by rw [G1.out, Bool.false_and])
    have O1 := Lib.hid o1
    have O2 := Lib.hid o2
    clear g1 o1 o2
    go_enter Try.func38, Try.ntmps38
    go_wp2_with fail
    refine (l2Whole_any _ _ (by omega)).mono ?_
    rintro e w1 ⟨rfl, hb1⟩
    rw [G1.out]
    go_wp2
    go_ret2
    exact ⟨tup2 (by rw [O2.out]; rfl) O1.out.symm, hb1⟩
end Go.Proofs.Ytpdnhaaedibbaaa
