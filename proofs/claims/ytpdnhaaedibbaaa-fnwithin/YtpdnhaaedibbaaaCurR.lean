/-
  The contract of the model's draw of a list of names (spec.DrawPathOf): some list of short texts, nothing old turned.
  Conditions: a readable slice of at most 2000000 bytes.
-/
import Derived.Test.YtpdnhaaedibbaaaCurQ
namespace Go.Proofs.Ytpdnhaaedibbaaa
open Go.ChangeShapes Go.WideShapes Go.ChangeAt Go.RowKit Go.Joins
set_option linter.unusedVariables false

set_option maxRecDepth 100000 in
set_option maxHeartbeats 4000000 in
theorem drawPathOf_any (w : World) (o : Option Addr) (n c : Nat) (hD : CodeAt w w.heap.size o n) (hn : n ≤ 2000000) :
    Calls Try.prog 29 #[.slice o n c] w (DrawListP w) := by
  obtain ⟨i0, hi, hz0, hz1, hz2⟩ := info_parts strInfo
  have HD := Lib.hid hD
  clear hD
  go_enter Try.func29, Try.ntmps29
  go_wp2_with fail
  refine (pick_any _ _ w.heap.size o n c 0 w.heap.size (Cur.made w o n c _) (HD.out.alloc (Nat.le_refl _) _) (Nat.le_refl _) (by omega) hn (by omega) (by omega)).mono ?_
  rintro e w1 ⟨_, a1, ⟨z, rfl, hz3, hz4⟩, l1, l2, rfl, hC1, hg1⟩
  have HC1 := Lib.hid hC1
  have HD1 := Lib.hid ((HD.out.alloc (Nat.le_refl _) _).step (Nat.le_refl _) (by simp) hg1)
  have hzw1 : w.heap.size + 1 ≤ w1.heap.size := by have := hg1.size; simpa using this
  have HB1 := Lib.hid (below_of_grown ((Below.refl _ w).alloc (Nat.le_refl _) _) hg1 (Nat.le_refl _))
  clear hC1 hg1
  go_wp2
  go_loopw [4, 5] (fun v nv wr => ∃ (r : Nat) (ps : List (List UInt8)) (aa : Nat), nv = .int .i64 (r : Int) ∧ r ≤ 4 ∧ Lst wr (w.heap.size + 1) v ps ∧ ps.length + r ≤ 4 ∧ (∀ p ∈ ps, p.length ≤ 1000) ∧ aa + 2 * r ≤ 20 ∧ Cur wr w.heap.size o n c aa ∧ CodeAt wr w.heap.size o n ∧ Below w.heap.size w wr ∧ w.heap.size + 1 ≤ wr.heap.size) (fun _ nv _ => (intOf nv).toNat)
  case atStart => exact ⟨z.toNat, [], a1, by rw [Int.toNat_of_nonneg (by omega)], by omega, Lst.nil _ _, by simp; omega, by simp, by omega, HC1.out, HD1.out, HB1.out, hzw1⟩
  case round =>
    obtain ⟨r, ps, aa, rfl, hr, hL, hpl, hpz, haa, hCr, hDr, hBr, hzr⟩ := hrel
    have HPZ := Lib.hid hpz
    have HLr := Lib.hid hL
    have HCr := Lib.hid hCr
    have HDr := Lib.hid hDr
    have HBr := Lib.hid hBr
    clear hpz hCr hDr hBr
    by_cases hr0 : 0 < r
    · go_wp2_with fail
      refine (word_any _ w.heap.size o n c aa w.heap.size HCr.out HDr.out (Nat.le_refl _) (by omega) hn (by omega)).mono ?_
      rintro e w3 ⟨_, a3, ⟨x, rfl, hx⟩, l5, l6, rfl, hC3, hg3⟩
      have hz3' := hg3.size
      have HC3 := Lib.hid hC3
      have HD3 := Lib.hid (HDr.out.step (Nat.le_refl _) (by omega) hg3)
      have HB3 := Lib.hid (below_of_grown HBr.out hg3 (Nat.le_refl _))
      have hL3 := lst_step HLr.out hg3 (by omega)
      clear hC3 hg3 hL
      go_wp2_with (at_builtin; refine wpList_append_own _ rfl _ _ 28 rfl (w.heap.size + 1) 9 i0 (.string ⟨#[]⟩) 1 16 Try.underlying28 hi hz0 hz1 hz2 rfl (by decide) _ _ _ rfl (hL3.alloc _) ⟨w3.heap.size, 0, none⟩ 1 1 [.string x] rfl rfl (cell_one_new _ _ _) (by simp [Value.oneCell']) (by unfold maxLen; omega) (by omega) (by simp; omega) ?_)
      intro v' w4 hown' hgrow _
      have hb4 := below_app (B := w.heap.size + 1) (w := w3) (Below.refl _ _) (by omega) hL3 hgrow
      have HL4 := Lib.hid (Lst.snoc (bs_toL x) hown')
      have HC4 := Lib.hid (cur_app HC3.out hL3 (by omega) hgrow)
      have HD4 := Lib.hid (HD3.out.belowB hb4 (by omega))
      have hz4 := hb4.size
      have HB4 := Lib.hid (HB3.out.trans (hb4.mono (by omega)))
      clear hown' hgrow hL3 hb4
      go_wp2
      go_roundw
      case rel => exact ⟨r - 1, ps ++ [x.data.toList], a3, by rw [Int.ofNat_sub (by omega)]; rfl, by omega, HL4.out, by simp; omega, mem_snoc_len HPZ.out (by omega), by omega, HC4.out, HD4.out, HB4.out, by omega⟩
      case measure => simp [intOf]; omega
    · clear hL
      go_wp2_with fail
      refine (one_any _ _ w.heap.size o n c aa w.heap.size HCr.out HDr.out (Nat.le_refl _) (by omega) hn (by omega) (by omega)).mono ?_
      rintro e w3 ⟨_, a3, ⟨q3, rfl⟩, l5, l6, rfl, hC3, hg3⟩
      have hz3' := hg3.size
      have HC3 := Lib.hid hC3
      have HD3 := Lib.hid (HDr.out.step (Nat.le_refl _) (by omega) hg3)
      have HB3 := Lib.hid (below_of_grown HBr.out hg3 (Nat.le_refl _))
      have HL3 := Lib.hid (lst_step HLr.out hg3 (by omega))
      clear hC3 hg3
      cases q3
      · skip
        go_wp2_with fail
        refine (one_any _ _ w.heap.size o n c a3 w.heap.size HC3.out HD3.out (Nat.le_refl _) (by omega) hn (by omega) (by omega)).mono ?_
        rintro e w6 ⟨_, a6, ⟨q6, rfl⟩, l11, l12, rfl, hC6, hg6⟩
        have hz6 := hg6.size
        have HB6 := Lib.hid (below_of_grown HB3.out hg6 (Nat.le_refl _))
        have HL6 := Lib.hid (lst_step HL3.out hg6 (by omega))
        clear hC6 hg6
        cases q6
        · go_wp2
          go_ret
          exact ⟨_, _, by omega, HPZ.out, rfl, lst_mono HL6.out (by omega), HB6.out⟩
        · go_wp2
          go_loopw [4, 6] (fun v i wr => ∃ (k : Nat) (ps : List (List UInt8)), i = .int .i64 (k : Int) ∧ k ≤ 9 ∧ Lst wr (w.heap.size + 1) v ps ∧ ps.length ≤ 4 + k ∧ (∀ p ∈ ps, p.length ≤ 1000) ∧ Below w.heap.size w wr ∧ w.heap.size + 1 ≤ wr.heap.size) (fun _ i _ => 9 - (intOf i).toNat)
          case atStart => exact ⟨0, _, rfl, by omega, HL6.out, by omega, HPZ.out, HB6.out, by omega⟩
          case round =>
            obtain ⟨k, ps, rfl, hk, hL, hpl, hpz, hB, hzr⟩ := hrel
            have HPZ := Lib.hid hpz
            have HBr := Lib.hid hB
            clear hpz
            by_cases hlt : k < 9
            · go_wp2_with (at_builtin; refine wpList_append_own _ rfl _ _ 28 rfl (w.heap.size + 1) 9 i0 (.string ⟨#[]⟩) 1 16 Try.underlying28 hi hz0 hz1 hz2 rfl (by decide) _ _ _ rfl (hL.alloc _) ⟨wr.heap.size, 0, none⟩ 1 1 [.string ⟨#[108, 111, 110, 103, 45, 111, 110, 101]⟩] rfl rfl (cell_one_new _ _ _) (by simp [Value.oneCell']) (by unfold maxLen; omega) (by omega) (by simp; omega) ?_)
              intro v' w7 hown' hgrow _
              have hb7 := below_app (B := w.heap.size + 1) (w := wr) (Below.refl _ _) (by omega) hL hgrow
              have HL7 := Lib.hid (Lst.snoc (p := [108, 111, 110, 103, 45, 111, 110, 101]) rfl hown')
              have hz7 := hb7.size
              have HB7 := Lib.hid (HBr.out.trans (hb7.mono (by omega)))
              clear hown' hgrow hL hb7 hB
              go_wp2
              go_roundw
              case rel =>
                refine ⟨k + 1, ps ++ [[108, 111, 110, 103, 45, 111, 110, 101]], by go_num, by omega, HL7.out, by simp; omega, ?_, HB7.out, by omega⟩
                intro p hp
                rcases List.mem_append.1 hp with h1 | h1
                · exact HPZ.out p h1
                · simp at h1; subst h1; decide
              case measure => simp [intOf]; omega
            · go_wp2
              go_ret
              exact ⟨_, _, by omega, HPZ.out, rfl, lst_mono hL (by omega), HBr.out⟩
      · have hS := strs_new w3 [⟨#[]⟩, ⟨#[46]⟩, ⟨#[46, 46]⟩, ⟨#[97, 47, 98]⟩] 9 3 (by decide)
        go_wp2_with fail
        refine (of_any 3 _ 4 _ w.heap.size o n c a3 w.heap.size (HC3.out.alloc _) (HD3.out.alloc (by omega) _) (Nat.le_refl _) (by omega) hn (by omega) (by omega) hS (by simp) (by omega)).mono ?_
        rintro e w4 ⟨_, a4, ⟨x, rfl, hx⟩, l7, l8, rfl, hC4, hg4⟩
        have hz4' : w3.heap.size + 1 ≤ w4.heap.size := by have := hg4.size; simpa using this
        have HC4 := Lib.hid hC4
        have HD4 := Lib.hid ((HD3.out.alloc (by omega) _).step (Nat.le_refl _) (by simp; omega) hg4)
        have HB4 := Lib.hid (below_of_grown (HB3.out.alloc (by omega) _) hg4 (Nat.le_refl _))
        have hL4 := lst_step (World.ownsRow.alloc HL3.out _) hg4 (by omega)
        clear hC4 hg4 hS
        go_wp2_with (at_builtin; refine wpList_append_own _ rfl _ _ 28 rfl (w.heap.size + 1) 9 i0 (.string ⟨#[]⟩) 1 16 Try.underlying28 hi hz0 hz1 hz2 rfl (by decide) _ _ _ rfl (hL4.alloc _) ⟨w4.heap.size, 0, none⟩ 1 1 [.string x] rfl rfl (cell_one_new _ _ _) (by simp [Value.oneCell']) (by unfold maxLen; omega) (by omega) (by simp; omega) ?_)
        intro v' w5 hown' hgrow _
        have hb5 := below_app (B := w.heap.size + 1) (w := w4) (Below.refl _ _) (by omega) hL4 hgrow
        have HL5 := Lib.hid (Lst.snoc (bs_toL x) hown')
        have HC5 := Lib.hid (cur_app HC4.out hL4 (by omega) hgrow)
        have HD5 := Lib.hid (HD4.out.belowB hb5 (by omega))
        have hz5 := hb5.size
        have HB5 := Lib.hid (HB4.out.trans (hb5.mono (by omega)))
        have HP5 := Lib.hid (mem_snoc_len HPZ.out (show x.size ≤ 1000 by omega))
        have hpl5 : (ps ++ [x.data.toList]).length ≤ 5 := by simp; omega
        clear hown' hgrow hL4 hb5
        go_wp2_with fail
        refine (one_any _ _ w.heap.size o n c a4 w.heap.size HC5.out HD5.out (Nat.le_refl _) (by omega) hn (by omega) (by omega)).mono ?_
        rintro e w6 ⟨_, a6, ⟨q6, rfl⟩, l11, l12, rfl, hC6, hg6⟩
        have hz6 := hg6.size
        have HB6 := Lib.hid (below_of_grown HB5.out hg6 (Nat.le_refl _))
        have HL6 := Lib.hid (lst_step HL5.out hg6 (by omega))
        clear hC6 hg6
        cases q6
        · go_wp2
          go_ret
          exact ⟨_, _, by omega, HP5.out, rfl, lst_mono HL6.out (by omega), HB6.out⟩
        · go_wp2
          go_loopw [4, 6] (fun v i wr => ∃ (k : Nat) (ps : List (List UInt8)), i = .int .i64 (k : Int) ∧ k ≤ 9 ∧ Lst wr (w.heap.size + 1) v ps ∧ ps.length ≤ 5 + k ∧ (∀ p ∈ ps, p.length ≤ 1000) ∧ Below w.heap.size w wr ∧ w.heap.size + 1 ≤ wr.heap.size) (fun _ i _ => 9 - (intOf i).toNat)
          case atStart => exact ⟨0, _, rfl, by omega, HL6.out, by omega, HP5.out, HB6.out, by omega⟩
          case round =>
            obtain ⟨k, ps, rfl, hk, hL, hpl, hpz, hB, hzr⟩ := hrel
            have HPZ := Lib.hid hpz
            have HBr := Lib.hid hB
            clear hpz
            by_cases hlt : k < 9
            · go_wp2_with (at_builtin; refine wpList_append_own _ rfl _ _ 28 rfl (w.heap.size + 1) 9 i0 (.string ⟨#[]⟩) 1 16 Try.underlying28 hi hz0 hz1 hz2 rfl (by decide) _ _ _ rfl (hL.alloc _) ⟨wr.heap.size, 0, none⟩ 1 1 [.string ⟨#[108, 111, 110, 103, 45, 111, 110, 101]⟩] rfl rfl (cell_one_new _ _ _) (by simp [Value.oneCell']) (by unfold maxLen; omega) (by omega) (by simp; omega) ?_)
              intro v' w7 hown' hgrow _
              have hb7 := below_app (B := w.heap.size + 1) (w := wr) (Below.refl _ _) (by omega) hL hgrow
              have HL7 := Lib.hid (Lst.snoc (p := [108, 111, 110, 103, 45, 111, 110, 101]) rfl hown')
              have hz7 := hb7.size
              have HB7 := Lib.hid (HBr.out.trans (hb7.mono (by omega)))
              clear hown' hgrow hL hb7 hB
              go_wp2
              go_roundw
              case rel =>
                refine ⟨k + 1, ps ++ [[108, 111, 110, 103, 45, 111, 110, 101]], by go_num, by omega, HL7.out, by simp; omega, ?_, HB7.out, by omega⟩
                intro p hp
                rcases List.mem_append.1 hp with h1 | h1
                · exact HPZ.out p h1
                · simp at h1; subst h1; decide
              case measure => simp [intOf]; omega
            · go_wp2
              go_ret
              exact ⟨_, _, by omega, HPZ.out, rfl, lst_mono hL (by omega), HBr.out⟩
end Go.Proofs.Ytpdnhaaedibbaaa
