
/-
  Contracts of the laws' own helpers on lists of texts: szStringS, toStringS, eqStringS.
  Conditions: lists of at most 2^20 texts for toStringS; lengths are lengths.
-/
import Derived.Test.YtbmbbioanlcioaaListC
import Derived.Laws.OwnMore
import Derived.Deep.QuietTactic
import Derived.BigQuiet
namespace Go.Proofs.Ytbmbbioanlcioaa
open Go.ChangeShapes Go.WideShapes Go.ChangeAt Go.RowKit Go.Joins
set_option linter.unusedVariables false

/-- The value reads as a list of texts, wherever it lies. -/
def RdA (w : World) (v : Value) (ps : List (List UInt8)) : Prop :=
  ∃ o c, v = .slice o ps.length c ∧ ps.length ≤ maxLen ∧ ∀ i (h : i < ps.length), ∃ ad : Addr, o = some ad ∧ ad.block < w.heap.size ∧ w.cell? (ad.add i) = some (.string (bs ps[i])) ∧ ps[i].length ≤ maxLen
theorem block_add (a : Addr) (i : Nat) : (a.add i).block = a.block := by unfold Addr.add; split <;> rfl
theorem RdA.below {w w' : World} {v : Value} {ps : List (List UInt8)} (h : RdA w v ps) (hb : Below w.heap.size w w') : RdA w' v ps := by
  obtain ⟨o, c, rfl, hm, hH⟩ := h
  refine ⟨o, c, rfl, hm, fun i hi => ?_⟩
  obtain ⟨ad, e, hg, hc, hl⟩ := hH i hi
  exact ⟨ad, e, Nat.lt_of_lt_of_le hg hb.size, (hb.cell (p := ad.add i) (by rw [block_add]; exact hg)).trans hc, hl⟩

def lens (ps : List (List UInt8)) : Nat := (ps.map List.length).sum
theorem lens_take {ps : List (List UInt8)} {k : Nat} (h : k < ps.length) : lens (ps.take (k + 1)) = lens (ps.take k) + ps[k].length := by
  unfold lens; rw [List.take_succ_eq_append_getElem h]; simp only [List.map_append, List.sum_append, List.map_cons, List.map_nil, List.sum_cons, List.sum_nil, Nat.add_zero]
theorem lens_pre (ps : List (List UInt8)) (k : Nat) : lens (ps.take k) ≤ lens ps := by
  conv => rhs; rw [← List.take_append_drop k ps]
  unfold lens; rw [List.map_append, List.sum_append]; omega

/-- What szStringS gives. -/
def szR (ps : List (List UInt8)) (left : Int) : Int := if (ps.length : Int) + lens ps ≤ left then left - ps.length - lens ps else -1

def zs (n : Nat) : List Value := List.replicate n (.string ⟨#[]⟩)
theorem set_step {ps : List (List UInt8)} {k : Nat} (h : k < ps.length) : (strs (ps.take k) ++ zs (ps.length - k)).set k (.string (bs ps[k])) = strs (ps.take (k + 1)) ++ zs (ps.length - (k + 1)) := by
  have hl : (strs (ps.take k)).length = k := by simp [strs]; omega
  rw [List.set_append_right _ _ (by omega), hl, Nat.sub_self, List.take_succ_eq_append_getElem h]
  obtain ⟨m, hm⟩ : ∃ m, ps.length - k = m + 1 := ⟨ps.length - k - 1, by omega⟩
  have hm2 : ps.length - (k + 1) = m := by omega
  rw [hm, hm2]
  simp only [strs, zs, List.replicate_succ, List.set_cons_zero, List.map_append, List.map_cons, List.map_nil, List.append_assoc, List.cons_append, List.nil_append]
theorem old_at {ps : List (List UInt8)} {k : Nat} (h : k < ps.length) : (strs (ps.take k) ++ zs (ps.length - k))[k]? = some (.string ⟨#[]⟩) := by
  have hl : (strs (ps.take k)).length = k := by simp [strs]; omega
  obtain ⟨m, hm⟩ : ∃ m, ps.length - k = m + 1 := ⟨ps.length - k - 1, by omega⟩
  rw [List.getElem?_append_right (Nat.le_of_eq hl), hl, Nat.sub_self, hm]
  rfl

def eqB (a b : List (List UInt8)) : Bool := decide (a = b)

set_option maxHeartbeats 1000000 in
theorem eqStringS_same (ps : List (List UInt8)) (u v : Value) (w : World) (hU : Rd w u ps) (hV : Rd w v ps) : Calls Try.prog 11 #[u, v] w fun e w' => e = .returned (.bool true) ∧ Below w.heap.size w w' := by
  obtain ⟨o1, c1, rfl, hl1, hm1, hH1⟩ := hU
  obtain ⟨o2, c2, rfl, hl2, hm2, hH2⟩ := hV
  have HH1 := Lib.hid hH1
  have HH2 := Lib.hid hH2
  clear hH1 hH2
  unfold maxLen at hm1 hm2
  go_enter Try.func11, Try.ntmps11
  go_wp2
  go_loopw [5] (fun i wr => ∃ k m : Nat, k ≤ ps.length ∧ i = .int .i64 k ∧ wr = w.drewN m) (fun i _ => ps.length - (intOf i).toNat)
  case atStart => exact ⟨0, 0, Nat.zero_le _, rfl, rfl⟩
  case round =>
    obtain ⟨k, m, hk, rfl, rfl⟩ := hrel
    by_cases hlt : k < ps.length
    · obtain ⟨g1, f1, rfl, _, hc1⟩ := HH1.out k hlt
      obtain ⟨g2, f2, rfl, _, hc2⟩ := HH2.out k hlt
      obtain ⟨x, hx⟩ : ∃ x, x = bs ps[k] := ⟨_, rfl⟩
      rw [← hx] at hc1 hc2
      clear hx
      go_wp2
      go_quiet (fail)
      go_wp2
      go_roundw
      case rel => exact ⟨k + 1, _, hlt, by go_num, rfl⟩
      case measure => simp [intOf]; omega
    · go_wp2
      go_ret
      exact ⟨rfl, ⟨rfl, rfl, rfl, Nat.le_refl _, fun _ _ => rfl⟩⟩
end Go.Proofs.Ytbmbbioanlcioaa
