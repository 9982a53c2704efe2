/-
  Contracts of spec.l2Clean, spec.l2Of, spec.l2CleanText, spec.CleanPath.
  Conditions: a text of at most 2^30 bytes; of lists of texts that together are not longer.
-/
import Derived.Test.YtpdnhaaedibbaaaCleanD
namespace Go.Proofs.Ytpdnhaaedibbaaa
open Go.ChangeShapes Go.WideShapes Go.ChangeAt Go.RowKit Go.Joins
set_option linter.unusedVariables false

theorem clean_take (wh : Bool) {ps : List (List UInt8)} {k : Nat} (h : k < ps.length) : clean wh (ps.take (k + 1)) = clStep wh (clean wh (ps.take k)) ps[k] := by
  rw [List.take_succ_eq_append_getElem h, clean_snoc]
theorem whole_at {s : ByteArray} (h : 0 < s.size) : wholeB s.data.toList = decide ((s[0]'h) = 47) := by
  have hl := len_size s
  unfold wholeB
  have : s.data.toList.head? = some (s[0]'h) := by
    rw [List.head?_eq_getElem?, List.getElem?_eq_getElem (by omega)]
    rfl
  rw [this, Bool.eq_iff_iff]
  simp

set_option maxHeartbeats 4000000 in
theorem l2Clean_any (s : ByteArray) (w : World) (hs : s.size ≤ 1073741824) (h0 : 0 < s.size) : Calls Try.prog 74 #[.string s] w fun e w' => ∃ v, e = .returned v ∧ Lst w' w.heap.size v (cleanOf s.data.toList) ∧ Below w.heap.size w w' := by
  obtain ⟨i0, hi, hz0, hz1, hz2⟩ := info_parts strInfo
  have hpl := parts_le s.data.toList
  rw [len_size] at hpl
  have HW := Lib.hid (whole_at h0)
  go_enter Try.func74, Try.ntmps74
  go_wp2_with fail
  refine (l2Parts_any s _ hs).mono ?_
  rintro e w1 ⟨v, rfl, hL, hb1⟩
  obtain ⟨ps, hps⟩ : ∃ ps, ps = parts s.data.toList := ⟨_, rfl⟩
  rw [← hps] at hL hpl
  obtain ⟨wh, hwh⟩ : ∃ wh, wh = wholeB s.data.toList := ⟨_, rfl⟩
  have HC : Hid (cleanOf s.data.toList = clean wh ps) := Lib.hid (by rw [hps, hwh]; rfl)
  rw [← hwh] at HW
  clear hps hwh
  obtain ⟨o, c, rfl, hlc, hcm, hH⟩ := hL.read
  have HH := Lib.hid hH
  clear hH hL
  unfold maxLen at hcm
  go_wp2
  go_loopw [3, 10] (fun out i wr => ∃ k : Nat, k ≤ ps.length ∧ i = .int .i64 k ∧ Lst wr w1.heap.size out (clean wh (ps.take k)) ∧ Below w1.heap.size w1 wr) (fun _ i _ => ps.length - (intOf i).toNat)
  case atStart => exact ⟨0, Nat.zero_le _, rfl, Lst.nil _ _, Below.refl _ _⟩
  case round =>
    obtain ⟨k, hk, rfl, hL, hB⟩ := hrel
    have hfl : (clean wh (ps.take k)).length ≤ k := Nat.le_trans (clean_len _ _) (List.length_take_le _ _)
    by_cases hlt : k < ps.length
    · obtain ⟨g, off, rfl, hg, hc⟩ := HH.out k hlt
      have hcell : wr.cell? ⟨g, off + k, none⟩ = some (.string (bs ps[k])) := (hB.cell (p := ⟨g, off + k, none⟩) hg).trans hc
      have HST := Lib.hid (clean_take wh hlt)
      clear hc
      obtain ⟨cs, hcs⟩ : ∃ cs, cs = clean wh (ps.take k) := ⟨_, rfl⟩
      rw [← hcs] at hL hfl HST
      clear hcs
      by_cases h1 : ps[k] = [46]
      · rw [h1] at hcell HST
        have HE : Hid (clean wh (ps.take (k + 1)) = cs) := Lib.hid (by rw [HST.out, cl_dot])
        have hcell' : wr.cell? ⟨g, off + k, none⟩ = some (.string ⟨#[46]⟩) := hcell
        obtain ⟨o2, c2, e2, _⟩ := hL.read
        subst e2
        clear hcell h1 HST
        go_wp2
        go_roundw
        case rel => exact ⟨k + 1, hlt, by go_num, by rw [HE.out]; exact hL, hB⟩
        case measure => simp [intOf]; omega
      · by_cases h2 : ps[k] = [46, 46]
        · rw [h2] at hcell HST
          have hcell' : wr.cell? ⟨g, off + k, none⟩ = some (.string ⟨#[46, 46]⟩) := hcell
          clear hcell h1 h2
          rcases snoc_of cs with rfl | ⟨ds, d, rfl⟩
          · obtain ⟨o2, c2, e2, _⟩ := hL.read
            simp only [List.length_nil] at e2
            subst e2
            have hL2 : wr.ownsRow w1.heap.size 9 1 (.slice o2 0 c2) 0 [] := hL
            by_cases hw : (s[0]'h0) = 47
            · have hw' : ((s[0]'h0).toNat : Int) = 47 := by rw [hw]; rfl
              have HE : Hid (clean wh (ps.take (k + 1)) = []) := Lib.hid (by rw [HST.out, cl_none, HW.out, hw]; rfl)
              clear hw HST
              go_wp2
              go_roundw
              case rel => exact ⟨k + 1, hlt, by go_num, by rw [HE.out]; exact hL, hB⟩
              case measure => simp [intOf]; omega
            · have hw' : (((s[0]'h0).toNat : Int) == 47) = false := by simpa using not47 hw
              have HE : Hid (clean wh (ps.take (k + 1)) = [] ++ [[46, 46]]) := Lib.hid (by rw [HST.out, cl_none, HW.out]; simp [hw])
              clear hw HST
              go_wp2_with (at_builtin; refine wpList_append_own _ rfl _ _ 28 rfl w1.heap.size 9 i0 (.string ⟨#[]⟩) 1 16 Try.underlying28 hi hz0 hz1 hz2 rfl (by decide) _ _ _ rfl (hL2.alloc _) ⟨wr.heap.size, 0, none⟩ 1 1 [.string ⟨#[46, 46]⟩] rfl rfl (cell_one_new _ _ _) (by simp [Value.oneCell']) (by unfold maxLen; omega) (by omega) (by have := hB.size; simp; omega) ?_)
              intro v' w2 hown' hgrow _
              have hb2 := below_app hB hB.size hL2 hgrow
              have HL := Lib.hid (Lst.snoc (ps := []) (p := [46, 46]) (x := ⟨#[46, 46]⟩) rfl hown')
              clear hown' hgrow hL hL2
              go_wp2
              go_roundw
              case rel => exact ⟨k + 1, hlt, by go_num, by rw [HE.out]; exact HL.out, hb2⟩
              case measure => simp [intOf]; omega
          · obtain ⟨g2, cap, rfl, hlc2, hcm2, hlast⟩ := lst_last hL
            unfold maxLen at hcm2
            simp only [List.length_append, List.length_cons, List.length_nil, Nat.zero_add] at hfl
            by_cases hd : d = [46, 46]
            · subst hd
              have hlast' : wr.cell? ⟨g2, ds.length, none⟩ = some (.string ⟨#[46, 46]⟩) := hlast
              clear hlast
              have hL2 : wr.ownsRow w1.heap.size 9 1 (.slice (some ⟨g2, 0, none⟩) (ds.length + 1) cap) (ds.length + 1) (strs (ds ++ [[46, 46]])) := by simpa [Lst] using hL
              by_cases hw : (s[0]'h0) = 47
              · have hw' : ((s[0]'h0).toNat : Int) = 47 := by rw [hw]; rfl
                have HE : Hid (clean wh (ps.take (k + 1)) = ds ++ [[46, 46]]) := Lib.hid (by rw [HST.out, cl_stay, HW.out, hw]; rfl)
                clear hw HST
                go_wp2
                go_roundw
                case rel => exact ⟨k + 1, hlt, by go_num, by rw [HE.out]; exact hL, hB⟩
                case measure => simp [intOf]; omega
              · have hw' : (((s[0]'h0).toNat : Int) == 47) = false := by simpa using not47 hw
                have HE : Hid (clean wh (ps.take (k + 1)) = ds ++ [[46, 46]] ++ [[46, 46]]) := Lib.hid (by rw [HST.out, cl_stay, HW.out]; simp [hw])
                clear hw HST
                go_wp2_with (at_builtin; refine wpList_append_own _ rfl _ _ 28 rfl w1.heap.size 9 i0 (.string ⟨#[]⟩) 1 16 Try.underlying28 hi hz0 hz1 hz2 rfl (by decide) _ _ _ rfl (hL2.alloc _) ⟨wr.heap.size, 0, none⟩ 1 1 [.string ⟨#[46, 46]⟩] rfl rfl (cell_one_new _ _ _) (by simp [Value.oneCell']) (by unfold maxLen; omega) (by omega) (by have := hB.size; simp; omega) ?_)
                intro v' w2 hown' hgrow _
                have hb2 := below_app hB hB.size hL2 hgrow
                have HL := Lib.hid (Lst.snoc (ps := ds ++ [[46, 46]]) (p := [46, 46]) (x := ⟨#[46, 46]⟩) rfl (by simpa using hown'))
                clear hown' hgrow hL hL2
                go_wp2
                go_roundw
                case rel => exact ⟨k + 1, hlt, by go_num, by rw [HE.out]; exact HL.out, hb2⟩
                case measure => simp [intOf]; omega
            · have HE : Hid (clean wh (ps.take (k + 1)) = ds) := Lib.hid (by rw [HST.out, cl_pop _ _ hd])
              have t1 := text_neq hd
              obtain ⟨y, hy⟩ : ∃ y, y = bs d := ⟨_, rfl⟩
              rw [← hy] at hlast t1
              have HL := Lib.hid (cut_row hL)
              clear hd HST hy hL
              go_wp2
              go_roundw
              case rel => exact ⟨k + 1, hlt, by go_num, by rw [HE.out]; exact HL.out, hB⟩
              case measure => simp [intOf]; omega
        · have HE : Hid (clean wh (ps.take (k + 1)) = cs ++ [ps[k]]) := Lib.hid (by rw [HST.out, cl_name _ _ h1 h2])
          have t1 := text_neq h1
          have t2 := text_neq h2
          obtain ⟨x, hx⟩ : ∃ x, x = bs ps[k] := ⟨_, rfl⟩
          rw [← hx] at hcell t1 t2
          have HX := Lib.hid hx
          obtain ⟨o2, c2, e2, _⟩ := hL.read
          subst e2
          clear h1 h2 HST hx
          go_wp2_with (at_builtin; refine wpList_append_own _ rfl _ _ 28 rfl w1.heap.size 9 i0 (.string ⟨#[]⟩) 1 16 Try.underlying28 hi hz0 hz1 hz2 rfl (by decide) _ _ _ rfl (hL.alloc _) ⟨wr.heap.size, 0, none⟩ 1 1 [.string x] rfl rfl (cell_one_new _ _ _) (by simp [Value.oneCell']) (by unfold maxLen; omega) (by omega) (by have := hB.size; simp; omega) ?_)
          intro v' w2 hown' hgrow _
          have hb2 := below_app hB hB.size hL hgrow
          have HL := Lib.hid (Lst.snoc HX.out hown')
          clear hown' hgrow hL
          go_wp2
          go_roundw
          case rel => exact ⟨k + 1, hlt, by go_num, by rw [HE.out]; exact HL.out, hb2⟩
          case measure => simp [intOf]; omega
    · have HF : Hid (clean wh (ps.take k) = cleanOf s.data.toList) := Lib.hid (by rw [HC.out, List.take_of_length_le (by omega)])
      go_wp2
      go_ret
      refine ⟨_, rfl, ?_, hb1.trans (hB.mono hb1.size)⟩
      rw [HF.out] at hL
      exact lst_mono hL hb1.size

end Go.Proofs.Ytpdnhaaedibbaaa
