/-
  Contracts of the laws' own helpers on lists of texts: szStringS, toStringS, eqStringS.
  Conditions: lists of at most 2^20 texts for toStringS; lengths are lengths.
-/
import Derived.Test.YtpdnhaaedibbaaaListC
import Derived.Laws.OwnMore
import Derived.Deep.QuietTactic
import Derived.BigQuiet
namespace Go.Proofs.Ytpdnhaaedibbaaa
open Go.ChangeShapes Go.WideShapes Go.ChangeAt Go.RowKit Go.Joins
set_option linter.unusedVariables false

/-- The value reads as a list of texts, wherever it lies. -/
def RdA (w : World) (v : Value) (ps : List (List UInt8)) : Prop :=
  ∃ o c, v = .slice o ps.length c ∧ ps.length ≤ maxLen ∧ ∀ i (h : i < ps.length), ∃ ad : Addr, o = some ad ∧ ad.block < w.heap.size ∧ w.cell? (ad.add i) = some (.string (bs ps[i])) ∧ ps[i].length ≤ maxLen
theorem block_add (a : Addr) (i : Nat) : (a.add i).block = a.block := by unfold Addr.add; split <;> rfl
theorem RdA.below {w w' : World} {v : Value} {ps : List (List UInt8)} (h : RdA w v ps) (hb : Below w.heap.size w w') : RdA w' v ps := by
  obtain ⟨o, c, rfl, hm, hH⟩ := h
  refine ⟨o, c, rfl, hm, fun i hi => ?_⟩
  obtain ⟨ad, e, hg, hc, hl⟩ := hH i hi
  exact ⟨ad, e, Nat.lt_of_lt_of_le hg hb.size, (hb.cell (p := ad.add i) (by rw [block_add]; exact hg)).trans hc, hl⟩

def lens (ps : List (List UInt8)) : Nat := (ps.map List.length).sum
theorem lens_take {ps : List (List UInt8)} {k : Nat} (h : k < ps.length) : lens (ps.take (k + 1)) = lens (ps.take k) + ps[k].length := by
  unfold lens; rw [List.take_succ_eq_append_getElem h]; simp only [List.map_append, List.sum_append, List.map_cons, List.map_nil, List.sum_cons, List.sum_nil, Nat.add_zero]
theorem lens_pre (ps : List (List UInt8)) (k : Nat) : lens (ps.take k) ≤ lens ps := by
  conv => rhs; rw [← List.take_append_drop k ps]
  unfold lens; rw [List.map_append, List.sum_append]; omega

/-- What szStringS gives. -/
def szR (ps : List (List UInt8)) (left : Int) : Int := if (ps.length : Int) + lens ps ≤ left then left - ps.length - lens ps else -1

set_option maxHeartbeats 1000000 in
theorem szStringS_any (ps : List (List UInt8)) (v : Value) (w : World) (left : Nat) (hR : RdA w v ps) (hl : left ≤ 1048576) : Calls Try.prog 47 #[v, .int .i64 left] w fun e w' => e = .returned (.int .i64 (szR ps left)) ∧ w = w' := by
  obtain ⟨o, c, rfl, hm, hH⟩ := hR
  have HH := Lib.hid hH
  clear hH
  unfold maxLen at hm
  by_cases h0 : (left : Int) < ps.length
  · have HZ : Hid (szR ps left = -1) := Lib.hid (by unfold szR; rw [if_neg (by omega)])
    go_enter Try.func47, Try.ntmps47
    go_wp2
    go_ret
    exact ⟨ret_int HZ.out.symm, rfl⟩
  · have h0' : (ps.length : Int) ≤ left := by omega
    go_enter Try.func47, Try.ntmps47
    go_wp2
    go_loop [1, 5] (fun t i => ∃ k : Nat, k ≤ ps.length ∧ i = .int .i64 k ∧ (ps.length : Int) + lens (ps.take k) ≤ left ∧ t = .int .i64 (left - ps.length - lens (ps.take k))) (fun _ i => ps.length - (intOf i).toNat)
    case atStart => exact ⟨0, Nat.zero_le _, rfl, by simpa [lens] using h0', by simp [lens]⟩
    case round =>
      obtain ⟨k, hk, rfl, hA, rfl⟩ := hrel
      by_cases hlt : k < ps.length
      · obtain ⟨ad, rfl, _, hcell, hml⟩ := HH.out k hlt
        have HS := Lib.hid (lens_take hlt)
        have hz : (bs ps[k]).size = ps[k].length := bs_size _
        have hx : (bs ps[k]).size ≤ 9223372036854775807 := by rw [hz]; unfold maxLen at hml; omega
        obtain ⟨x, hxx⟩ : ∃ x, x = bs ps[k] := ⟨_, rfl⟩
        rw [← hxx] at hcell hz hx
        have HZ := Lib.hid hz
        clear hz hxx hml
        by_cases hlt2 : (left : Int) - ps.length - lens (ps.take k) < x.size
        · have HR : Hid (szR ps left = -1) := Lib.hid (by
            have h1 := lens_pre ps (k + 1)
            rw [HS.out, ← HZ.out] at h1
            unfold szR; rw [if_neg (by omega)])
          have h3 : (left : Int) - ps.length - lens (ps.take k) - x.size < 0 := by omega
          go_wp2
          go_ret
          exact ⟨ret_int HR.out.symm, rfl⟩
        · have h3 : 0 ≤ (left : Int) - ps.length - lens (ps.take k) - x.size := by omega
          go_wp2
          go_round
          case rel => exact ⟨k + 1, hlt, by go_num, by rw [HS.out, ← HZ.out]; omega, by rw [HS.out, ← HZ.out]; go_num⟩
          case measure => simp [intOf]; omega
      · have HT : Hid (ps.take k = ps) := Lib.hid (List.take_of_length_le (by omega))
        have HR : Hid (szR ps left = left - ps.length - lens (ps.take k)) := Lib.hid (by rw [HT.out] at hA ⊢; unfold szR; rw [if_pos hA])
        go_wp2
        go_ret
        exact ⟨ret_int HR.out.symm, rfl⟩

def zs (n : Nat) : List Value := List.replicate n (.string ⟨#[]⟩)
theorem set_step {ps : List (List UInt8)} {k : Nat} (h : k < ps.length) : (strs (ps.take k) ++ zs (ps.length - k)).set k (.string (bs ps[k])) = strs (ps.take (k + 1)) ++ zs (ps.length - (k + 1)) := by
  have hl : (strs (ps.take k)).length = k := by simp [strs]; omega
  rw [List.set_append_right _ _ (by omega), hl, Nat.sub_self, List.take_succ_eq_append_getElem h]
  obtain ⟨m, hm⟩ : ∃ m, ps.length - k = m + 1 := ⟨ps.length - k - 1, by omega⟩
  have hm2 : ps.length - (k + 1) = m := by omega
  rw [hm, hm2]
  simp only [strs, zs, List.replicate_succ, List.set_cons_zero, List.map_append, List.map_cons, List.map_nil, List.append_assoc, List.cons_append, List.nil_append]
theorem old_at {ps : List (List UInt8)} {k : Nat} (h : k < ps.length) : (strs (ps.take k) ++ zs (ps.length - k))[k]? = some (.string ⟨#[]⟩) := by
  have hl : (strs (ps.take k)).length = k := by simp [strs]; omega
  obtain ⟨m, hm⟩ : ∃ m, ps.length - k = m + 1 := ⟨ps.length - k - 1, by omega⟩
  rw [List.getElem?_append_right (Nat.le_of_eq hl), hl, Nat.sub_self, hm]
  rfl

set_option maxHeartbeats 1000000 in
theorem toStringS_any (ps : List (List UInt8)) (v : Value) (w : World) (hR : RdA w v ps) (hl : ps.length ≤ 1048576) : Calls Try.prog 48 #[v] w fun e w' => ∃ u, e = .returned u ∧ Lst w' w.heap.size u ps ∧ Below w.heap.size w w' := by
  obtain ⟨i0, hi, hz0, hz1, hz2⟩ := info_parts strInfo
  obtain ⟨o, c, rfl, hm, hH⟩ := hR
  have HH := Lib.hid hH
  clear hH
  unfold maxLen at hm
  go_enter Try.func48, Try.ntmps48
  go_wp2_with (at_make; refine wpList_make_full _ rfl _ _ 28 rfl w.heap.size 9 i0 (.string ⟨#[]⟩) 1 Try.underlying28 hi hz0 hz1 _ _ _ _ ps.length rfl rfl rfl rfl (by rw [hz2]; omega) (by unfold maxLen; omega) (Nat.le_refl _) ?_)
  intro w1 hown hgrow
  have hb1 : Below w.heap.size w w1 := (Below.refl _ w).grown hgrow (Nat.le_refl _) (fun k e => by cases e)
  rw [toList_madeCells_one] at hown
  have hown1 : w1.ownsRow w.heap.size 9 1 (.slice (some ⟨w.heap.size, 0, none⟩) ps.length ps.length) ps.length (strs (ps.take 0) ++ zs (ps.length - 0)) := hown
  clear hown hgrow
  go_wp2
  go_loopw [4] (fun i wr => ∃ k : Nat, k ≤ ps.length ∧ i = .int .i64 k ∧ wr.ownsRow w.heap.size 9 1 (.slice (some ⟨w.heap.size, 0, none⟩) ps.length ps.length) ps.length (strs (ps.take k) ++ zs (ps.length - k)) ∧ Below w.heap.size w wr) (fun i _ => ps.length - (intOf i).toNat)
  case atStart => exact ⟨0, Nat.zero_le _, rfl, hown1, hb1⟩
  case round =>
    obtain ⟨k, hk, rfl, hown, hB⟩ := hrel
    by_cases hlt : k < ps.length
    · obtain ⟨ad, rfl, hg, hcell0, _⟩ := HH.out k hlt
      have hcell : wr.cell? (ad.add k) = some (.string (bs ps[k])) := (hB.cell (p := ad.add k) (by rw [block_add]; exact hg)).trans hcell0
      have hold : wr.cell? ⟨w.heap.size, k, none⟩ = some (.string ⟨#[]⟩) := (hown.cellAt k (by omega)).trans (old_at hlt)
      have hfz : wr.frozen? ⟨w.heap.size, k, none⟩ = false := hown.frozenAt k
      obtain ⟨hs1, hs2⟩ := hown.stored k (.string (bs ps[k]))
      rw [set_step hlt] at hs1
      obtain ⟨x, hx⟩ : ∃ x, x = bs ps[k] := ⟨_, rfl⟩
      rw [← hx] at hcell hs1 hs2
      have hb2 : Below w.heap.size w (wr.setCell ⟨w.heap.size, k, none⟩ (.string x)) := hB.setCell (p := ⟨w.heap.size, k, none⟩) (Nat.le_refl _) _
      have HS1 := Lib.hid hs1
      have HB2 := Lib.hid hb2
      clear hs1 hs2 hb2 hcell0 hown1 hx hown
      go_wp2
      go_roundw
      case rel => exact ⟨k + 1, hlt, by go_num, HS1.out, HB2.out⟩
      case measure => simp [intOf]; omega
    · have HT : Hid (strs (ps.take k) ++ zs (ps.length - k) = strs ps) := Lib.hid (by
        obtain rfl : k = ps.length := by omega
        simp [zs])
      rw [HT.out] at hown
      go_wp2
      go_ret
      exact ⟨_, rfl, hown, hB⟩

def eqB (a b : List (List UInt8)) : Bool := decide (a = b)

set_option maxHeartbeats 1000000 in
theorem eqStringS_same (ps : List (List UInt8)) (u v : Value) (w : World) (hU : Rd w u ps) (hV : Rd w v ps) : Calls Try.prog 44 #[u, v] w fun e w' => e = .returned (.bool true) ∧ Below w.heap.size w w' := by
  obtain ⟨o1, c1, rfl, hl1, hm1, hH1⟩ := hU
  obtain ⟨o2, c2, rfl, hl2, hm2, hH2⟩ := hV
  have HH1 := Lib.hid hH1
  have HH2 := Lib.hid hH2
  clear hH1 hH2
  unfold maxLen at hm1 hm2
  go_enter Try.func44, Try.ntmps44
  go_wp2
  go_loopw [5] (fun i wr => ∃ k m : Nat, k ≤ ps.length ∧ i = .int .i64 k ∧ wr = w.drewN m) (fun i _ => ps.length - (intOf i).toNat)
  case atStart => exact ⟨0, 0, Nat.zero_le _, rfl, rfl⟩
  case round =>
    obtain ⟨k, m, hk, rfl, rfl⟩ := hrel
    by_cases hlt : k < ps.length
    · obtain ⟨g1, f1, rfl, _, hc1⟩ := HH1.out k hlt
      obtain ⟨g2, f2, rfl, _, hc2⟩ := HH2.out k hlt
      obtain ⟨x, hx⟩ : ∃ x, x = bs ps[k] := ⟨_, rfl⟩
      rw [← hx] at hc1 hc2
      clear hx
      go_wp2
      go_quiet (fail)
      go_wp2
      go_roundw
      case rel => exact ⟨k + 1, _, hlt, by go_num, rfl⟩
      case measure => simp [intOf]; omega
    · go_wp2
      go_ret
      exact ⟨rfl, ⟨rfl, rfl, rfl, Nat.le_refl _, fun _ _ => rfl⟩⟩
end Go.Proofs.Ytpdnhaaedibbaaa
