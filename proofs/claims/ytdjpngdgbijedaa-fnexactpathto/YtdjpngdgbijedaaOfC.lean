
/-
  The contract of spec.l2Of.
  Conditions: lists of texts that together have at most 2^30 bytes.
-/
import Derived.Test.YtdjpngdgbijedaaListD
namespace Go.Proofs.Ytdjpngdgbijedaa
open Go.ChangeShapes Go.WideShapes Go.ChangeAt Go.RowKit Go.Joins
set_option linter.unusedVariables false

theorem slashed_take {ps : List (List UInt8)} {k : Nat} (h : k < ps.length) : slashed (ps.take (k + 1)) = slashed (ps.take k) ++ 47 :: ps[k] := by
  rw [List.take_succ_eq_append_getElem h, slashed_snoc]
theorem slashed_app (a b : List (List UInt8)) : slashed (a ++ b) = slashed a ++ slashed b := by simp [slashed]
theorem slashed_pre (ps : List (List UInt8)) (k : Nat) : (slashed (ps.take k)).length ≤ (slashed ps).length := by
  conv => rhs; rw [← List.take_append_drop k ps]
  rw [slashed_app]; simp

set_option maxHeartbeats 1000000 in
theorem l2Of_any (ps : List (List UInt8)) (v : Value) (w : World) (hR : Rd w v ps) (hl : (slashed ps).length ≤ 1073741824) : Calls Try.prog 50 #[v] w fun e w' => e = .returned (.string (bs (pathL ps))) ∧ w = w' := by
  obtain ⟨o, c, rfl, hlc, hcm, hH⟩ := hR
  have HH := Lib.hid hH
  clear hH
  unfold maxLen at hcm
  by_cases h0 : ps = []
  · subst h0
    go_enter Try.func50, Try.ntmps50
    go_wp2
    go_ret
    exact ⟨rfl, rfl⟩
  · have hp : 0 < ps.length := List.length_pos_iff.2 h0
    have HP : Hid (pathL ps = slashed ps) := Lib.hid (by unfold pathL; rw [if_neg h0])
    have hp' : ((ps.length : Int) == 0) = false := by simp; omega
    clear h0
    go_enter Try.func50, Try.ntmps50
    go_wp2
    go_loop [3, 11] (fun t i => ∃ k : Nat, k ≤ ps.length ∧ i = .int .i64 k ∧ t = .string (bs (slashed (ps.take k)))) (fun _ i => ps.length - (intOf i).toNat)
    case atStart => exact ⟨0, Nat.zero_le _, rfl, rfl⟩
    case round =>
      obtain ⟨k, hk, rfl, rfl⟩ := hrel
      by_cases hlt : k < ps.length
      · obtain ⟨g, off, rfl, hg, hcell⟩ := HH.out k hlt
        have HS := Lib.hid (slashed_take hlt)
        have hl1 := slashed_pre ps (k + 1)
        rw [HS.out, List.length_append, List.length_cons] at hl1
        have hx1 : (bs ps[k]).size ≤ 1073741824 := by rw [bs_size]; omega
        have hy1 : (bs (slashed (ps.take k))).size ≤ 1073741824 := by rw [bs_size]; omega
        obtain ⟨x, hx⟩ : ∃ x, x = bs ps[k] := ⟨_, rfl⟩
        obtain ⟨y, hy⟩ : ∃ y, y = bs (slashed (ps.take k)) := ⟨_, rfl⟩
        rw [← hx] at hcell hx1
        rw [← hy] at hy1 ⊢
        have HX := Lib.hid hx
        have HY := Lib.hid hy
        clear hx hy hl1
        go_wp2
        go_round
        case rel =>
          refine ⟨k + 1, hlt, by go_num, ?_⟩
          rw [HS.out, HX.out, HY.out, ← bs_app]
          have : (bs (47 :: ps[k])) = bs [47] ++ bs ps[k] := by rw [bs_app]; rfl
          rw [this]; rfl
        case measure => simp [intOf]; omega
      · have HT : Hid (ps.take k = ps) := Lib.hid (List.take_of_length_le (by omega))
        rw [HT.out]
        go_wp2
        go_ret
        exact ⟨by rw [HP.out]; rfl, rfl⟩
end Go.Proofs.Ytdjpngdgbijedaa
