/-
  Contracts of spec.l2Last, spec.l2Dir, spec.BaseOf, spec.DirOf.
  Conditions: a text of at most 2^30 bytes.
-/
import Derived.Test.YtpdnhaaedibbaaaBaseD
namespace Go.Proofs.Ytpdnhaaedibbaaa
open Go.ChangeShapes Go.WideShapes Go.ChangeAt Go.RowKit Go.Joins
set_option linter.unusedVariables false

set_option maxHeartbeats 1000000 in
theorem l2Last_any (s : ByteArray) (w : World) (hs : s.size ≤ 1073741824) (h0 : 0 < s.size) : Calls Try.prog 56 #[.string s] w fun e w' => e = .returned (.string (bs (baseL s.data.toList))) ∧ Below w.heap.size w w' := by
  go_enter Try.func56, Try.ntmps56
  go_wp2_with fail
  refine (l2Clean_any _ _ hs h0).mono ?_
  rintro e w1 ⟨v, rfl, hL, hb1⟩
  rcases snoc_of (cleanOf s.data.toList) with hn | ⟨ds, d, hn⟩
  · have HB : Hid (baseL s.data.toList = []) := Lib.hid (by simp [baseL, hn])
    rw [hn] at hL
    obtain ⟨o, c, e0, _⟩ := hL.read
    simp only [List.length_nil] at e0
    subst e0
    clear hn hL
    go_wp2
    go_ret
    exact ⟨by rw [HB.out]; rfl, hb1⟩
  · have HB := Lib.hid (baseL_snoc hn)
    rw [hn] at hL
    obtain ⟨g, cap, rfl, hlc, hcm, hlast⟩ := lst_last hL
    unfold maxLen at hcm
    clear hn hL
    by_cases hd : d = [46, 46]
    · have HB2 : Hid (baseL s.data.toList = []) := Lib.hid (by rw [HB.out, if_pos hd])
      subst hd
      have hlast' : w1.cell? ⟨g, ds.length, none⟩ = some (.string ⟨#[46, 46]⟩) := hlast
      clear hlast HB
      go_wp2
      go_ret
      exact ⟨by rw [HB2.out]; rfl, hb1⟩
    · have HB2 : Hid (baseL s.data.toList = d) := Lib.hid (by rw [HB.out, if_neg hd])
      have t1 := text_neq hd
      obtain ⟨x, hx⟩ : ∃ x, x = bs d := ⟨_, rfl⟩
      rw [← hx] at hlast t1
      have HX := Lib.hid hx
      clear hd hx HB
      go_wp2
      go_ret
      exact ⟨by rw [HB2.out, ← HX.out]; rfl, hb1⟩

theorem rd_drop {W : World} {g cap : Nat} {ps : List (List UInt8)} {p : List UInt8} {R : Nat} (h : Lst W R (.slice (some ⟨g, 0, none⟩) (ps.length + 1) cap) (ps ++ [p])) : Rd W (.slice (some ⟨g, 0, none⟩) ps.length cap) ps := (cut_row h).read

set_option maxHeartbeats 1000000 in
theorem l2Dir_any (s : ByteArray) (w : World) (hs : s.size ≤ 1073741824) (hg : goodB s.data.toList = true) (hne : cleanOf s.data.toList ≠ []) : Calls Try.prog 57 #[.string s] w fun e w' => e = .returned (.string (bs (dirL s.data.toList))) ∧ Below w.heap.size w w' := by
  have hsl := slashed_small hg
  have h0 : 0 < s.size := by simp [goodB] at hg; omega
  have HWA := Lib.hid (whole_at h0)
  obtain ⟨ds, d, hn⟩ := (snoc_of (cleanOf s.data.toList)).resolve_left hne
  have hsd : (slashed ds).length ≤ 10000 := by rw [hn, slashed_app] at hsl; simp at hsl; omega
  have HN := Lib.hid hn
  clear hg hne hn hsl
  go_enter Try.func57, Try.ntmps57
  go_wp2_with fail
  refine (l2Clean_any _ _ hs h0).mono ?_
  rintro e w1 ⟨v, rfl, hL, hb1⟩
  rw [HN.out] at hL
  obtain ⟨g, cap, rfl, hlc, hcm, hlast⟩ := lst_last hL
  have HR := Lib.hid (rd_drop hL)
  unfold maxLen at hcm
  clear hL hlast
  go_wp2_with fail
  refine (l2Of_any ds _ _ HR.out (by omega)).mono ?_
  rintro e w2 ⟨rfl, rfl⟩
  by_cases hw : (s[0]'h0) = 47
  · have hw' : ((s[0]'h0).toNat : Int) = 47 := by rw [hw]; rfl
    have HD : Hid (dirL s.data.toList = pathL ds) := Lib.hid (by unfold dirL; rw [HWA.out, if_pos (by simpa using hw), HN.out, List.dropLast_concat])
    clear hw
    go_wp2
    go_ret
    exact ⟨by rw [HD.out]; rfl, hb1⟩
  · have hw' : (((s[0]'h0).toNat : Int) == 47) = false := by simpa using not47 hw
    by_cases hq : ds = []
    · subst hq
      have HD : Hid (dirL s.data.toList = [46]) := Lib.hid (by unfold dirL; rw [HWA.out, if_neg (by simpa using hw), HN.out]; rfl)
      clear hw
      go_wp2
      go_ret
      exact ⟨by rw [HD.out]; rfl, hb1⟩
    · have hlen := List.length_pos_iff.2 hq
      have HD : Hid (dirL s.data.toList = (pathL ds).drop 1) := Lib.hid (by
        unfold dirL pathL
        have : (ds ++ [d]).length ≠ 1 := by simp; omega
        rw [HWA.out, if_neg (by simpa using hw), HN.out, if_neg this, List.dropLast_concat, if_neg hq])
      have hl1 : (((ds.length : Int) + 1) == 1) = false := by simp; omega
      have hp1 : 1 ≤ (bs (pathL ds)).size := by rw [bs_size, ← join_eq]; simp
      have hp2 : (bs (pathL ds)).size ≤ 10000 := by rw [bs_size]; unfold pathL; rw [if_neg hq]; exact hsd
      obtain ⟨x, hx⟩ : ∃ x, x = bs (pathL ds) := ⟨_, rfl⟩
      rw [← hx] at hp1 hp2 ⊢
      have HX := Lib.hid hx
      clear hx hw hq
      go_wp2
      go_ret
      refine ⟨ret_str ?_, hb1⟩
      rw [HD.out, bs_ext, HX.out, bs_list, bs_size, List.take_of_length_le (Nat.le_refl _)]

theorem base_ok {l : List UInt8} (hg : goodB l = true) (hb : baseL l ≠ []) : okB l = true := by
  cases h : baseL l with
  | nil => exact absurd h hb
  | cons c r => simp [okB, hg, h]
theorem base_clean {l : List UInt8} (hb : baseL l ≠ []) : cleanOf l ≠ [] := fun h => hb (by simp [baseL, h])

set_option maxHeartbeats 1000000 in
theorem specBase_any (s : ByteArray) (w : World) (hs : s.size ≤ 1073741824) : Calls Try.prog 20 #[.string s] w fun e w' => e = .returned (.tuple #[.string (bs (baseT s.data.toList)), .bool (okB s.data.toList)]) ∧ Below w.heap.size w w' := by
  by_cases hg : goodB s.data.toList = true
  · have h0 : 0 < s.size := by simp [goodB] at hg; omega
    have HG := Lib.hid hg
    by_cases hb : baseL s.data.toList = []
    · have HB := Lib.hid hb
      have HO := Lib.hid (okB_nil hb)
      have HT := Lib.hid (ok_no HO.out).2
      clear hg hb
      go_enter Try.func20, Try.ntmps20
      go_wp2_with fail
      refine (l2Path_any _ _ hs).mono ?_
      rintro e w1 ⟨rfl, hb1⟩
      rw [HG.out]
      go_wp2_with fail
      refine (l2Last_any _ _ hs h0).mono ?_
      rintro e w2 ⟨rfl, hb2⟩
      rw [HB.out, show bs [] = (⟨#[]⟩ : ByteArray) from rfl]
      go_wp2
      go_ret2
      exact ⟨tup2 (by rw [HT.out]; rfl) HO.out.symm, hb1.trans (hb2.mono hb1.size)⟩
    · have HO := Lib.hid (base_ok hg hb)
      have HT := Lib.hid (ok_yes HO.out).2
      obtain ⟨t1, t2, t3⟩ := text_ne hb
      clear hg hb
      go_enter Try.func20, Try.ntmps20
      go_wp2_with fail
      refine (l2Path_any _ _ hs).mono ?_
      rintro e w1 ⟨rfl, hb1⟩
      rw [HG.out]
      go_wp2_with fail
      refine (l2Last_any _ _ hs h0).mono ?_
      rintro e w2 ⟨rfl, hb2⟩
      obtain ⟨x, hx⟩ : ∃ x, x = bs (baseL s.data.toList) := ⟨_, rfl⟩
      rw [← hx] at t1 t2 t3 ⊢
      have HX := Lib.hid hx
      clear hx
      go_wp2_with fail
      refine (l2Last_any _ _ hs h0).mono ?_
      rintro e w3 ⟨rfl, hb3⟩
      go_wp2
      go_ret2
      exact ⟨tup2 (by rw [HT.out]) HO.out.symm, (hb1.trans (hb2.mono hb1.size)).trans (hb3.mono (Nat.le_trans hb1.size hb2.size))⟩
  · have HG := Lib.hid (show goodB s.data.toList = false by simpa using hg)
    have HO := Lib.hid (okB_good HG.out)
    have HT := Lib.hid (ok_no HO.out).2
    clear hg
    go_enter Try.func20, Try.ntmps20
    go_wp2_with fail
    refine (l2Path_any _ _ hs).mono ?_
    rintro e w1 ⟨rfl, hb1⟩
    rw [HG.out]
    go_wp2
    go_ret2
    exact ⟨tup2 (by rw [HT.out]; rfl) HO.out.symm, hb1⟩

set_option maxHeartbeats 1000000 in
theorem specDir_any (s : ByteArray) (w : World) (hs : s.size ≤ 1073741824) : Calls Try.prog 22 #[.string s] w fun e w' => e = .returned (.tuple #[.string (bs (dirT s.data.toList)), .bool (okB s.data.toList)]) ∧ Below w.heap.size w w' := by
  by_cases hg : goodB s.data.toList = true
  · have h0 : 0 < s.size := by simp [goodB] at hg; omega
    have HG := Lib.hid hg
    by_cases hb : baseL s.data.toList = []
    · have HB := Lib.hid hb
      have HO := Lib.hid (okB_nil hb)
      have HT := Lib.hid (ok_no HO.out).1
      clear hg hb
      go_enter Try.func22, Try.ntmps22
      go_wp2_with fail
      refine (l2Path_any _ _ hs).mono ?_
      rintro e w1 ⟨rfl, hb1⟩
      rw [HG.out]
      go_wp2_with fail
      refine (l2Last_any _ _ hs h0).mono ?_
      rintro e w2 ⟨rfl, hb2⟩
      rw [HB.out, show bs [] = (⟨#[]⟩ : ByteArray) from rfl]
      go_wp2
      go_ret2
      exact ⟨tup2 (by rw [HT.out]; rfl) HO.out.symm, hb1.trans (hb2.mono hb1.size)⟩
    · have HO := Lib.hid (base_ok hg hb)
      have HC := Lib.hid (base_clean hb)
      have HT := Lib.hid (ok_yes HO.out).1
      obtain ⟨t1, t2, t3⟩ := text_ne hb
      clear hg hb
      go_enter Try.func22, Try.ntmps22
      go_wp2_with fail
      refine (l2Path_any _ _ hs).mono ?_
      rintro e w1 ⟨rfl, hb1⟩
      rw [HG.out]
      go_wp2_with fail
      refine (l2Last_any _ _ hs h0).mono ?_
      rintro e w2 ⟨rfl, hb2⟩
      obtain ⟨x, hx⟩ : ∃ x, x = bs (baseL s.data.toList) := ⟨_, rfl⟩
      rw [← hx] at t1 t2 t3 ⊢
      have HX := Lib.hid hx
      clear hx
      go_wp2_with fail
      refine (l2Dir_any _ _ hs HG.out HC.out).mono ?_
      rintro e w3 ⟨rfl, hb3⟩
      go_wp2
      go_ret2
      exact ⟨tup2 (by rw [HT.out]) HO.out.symm, (hb1.trans (hb2.mono hb1.size)).trans (hb3.mono (Nat.le_trans hb1.size hb2.size))⟩
  · have HG := Lib.hid (show goodB s.data.toList = false by simpa using hg)
    have HO := Lib.hid (okB_good HG.out)
    have HT := Lib.hid (ok_no HO.out).1
    clear hg
    go_enter Try.func22, Try.ntmps22
    go_wp2_with fail
    refine (l2Path_any _ _ hs).mono ?_
    rintro e w1 ⟨rfl, hb1⟩
    rw [HG.out]
    go_wp2
    go_ret2
    exact ⟨tup2 (by rw [HT.out]; rfl) HO.out.symm, hb1⟩
end Go.Proofs.Ytpdnhaaedibbaaa
