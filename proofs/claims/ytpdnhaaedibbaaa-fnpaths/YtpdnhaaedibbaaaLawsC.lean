/-
  Small facts for the drawn laws of chapter 2, and the contract of laws.sameTexts.
  Conditions: as each states.
-/
import Derived.Test.YtpdnhaaedibbaaaCurR
import Derived.Test.YtpdnhaaedibbaaaPathsM
import Derived.Test.YtpdnhaaedibbaaaFromD
import Derived.Test.YtpdnhaaedibbaaaBaseE
import Derived.Test.YtpdnhaaedibbaaaBigC
namespace Go.Proofs.Ytpdnhaaedibbaaa
open Go.ChangeShapes Go.WideShapes Go.ChangeAt Go.RowKit Go.Joins
set_option linter.unusedVariables false

theorem codeAt_at {w w' : World} {o : Option Addr} {n : Nat} (h : CodeAt w w.heap.size o n) (hb : Below w.heap.size w w') : CodeAt w' w'.heap.size o n := by
  intro i hi
  obtain ⟨ad, v, e, hlt, hc, h0, h1⟩ := h i hi
  exact ⟨ad, v, e, Nat.lt_of_lt_of_le hlt hb.size, (hb.cell (p := ad.add i) (by rw [add_block]; exact hlt)).trans hc, h0, h1⟩

set_option maxHeartbeats 1000000 in
theorem sameTexts_same (ps : List (List UInt8)) (u v : Value) (w : World) (hU : Rd w u ps) (hV : Rd w v ps) : Calls Try.prog 34 #[u, v] w fun e w' => e = .returned (.bool true) ∧ Below w.heap.size w w' := by
  obtain ⟨o1, c1, rfl, hl1, hm1, hH1⟩ := hU
  obtain ⟨o2, c2, rfl, hl2, hm2, hH2⟩ := hV
  have HH1 := Lib.hid hH1
  have HH2 := Lib.hid hH2
  clear hH1 hH2
  unfold maxLen at hm1 hm2
  go_enter Try.func34, Try.ntmps34
  go_wp2
  go_loopw [13] (fun i wr => ∃ k m : Nat, k ≤ ps.length ∧ i = .int .i64 k ∧ wr = w.drewN m) (fun i _ => ps.length - (intOf i).toNat)
  case atStart => exact ⟨0, 0, Nat.zero_le _, rfl, rfl⟩
  case round =>
    obtain ⟨k, m, hk, rfl, rfl⟩ := hrel
    by_cases hlt : k < ps.length
    · obtain ⟨g1, f1, rfl, _, hc1⟩ := HH1.out k hlt
      obtain ⟨g2, f2, rfl, _, hc2⟩ := HH2.out k hlt
      obtain ⟨x, hx⟩ : ∃ x, x = bs ps[k] := ⟨_, rfl⟩
      rw [← hx] at hc1 hc2
      clear hx
      go_wp2
      go_quiet (fail)
      go_wp2
      go_roundw
      case rel => exact ⟨k + 1, _, hlt, by go_num, rfl⟩
      case measure => simp [intOf]; omega
    · go_wp2
      go_ret
      exact ⟨rfl, ⟨rfl, rfl, rfl, Nat.le_refl _, fun _ _ => rfl⟩⟩
end Go.Proofs.Ytpdnhaaedibbaaa
