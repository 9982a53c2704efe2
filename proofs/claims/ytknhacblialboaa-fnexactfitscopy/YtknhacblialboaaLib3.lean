/-
  Joined: IntS BelA IterD GoodC InoA InoB FsZ FsG.
  Conditions: as each states.
-/
import Derived.Lib.SlicesCompact
import Derived.Laws.Cover1
import Derived.Test.YtknhacblialboaaLib1
import Derived.Test.YtknhacblialboaaLib2

/-
  The model's l1Put with the order that it keeps.
  Conditions: at most 2^20 numbers; what is put is not there yet.
-/
namespace Go.Proofs.Ytknhacblialboaa
open Go.ChangeShapes Go.WideShapes Go.ChangeAt Go.RowKit Go.Joins
set_option linter.unusedVariables false

set_option maxHeartbeats 4000000 in
theorem l1Put_sort (l : List Int) (n : Int) (v : Value) (w : World) (hR : RdI w v l) (hn : n ∉ l) (hs : l.length ≤ 1048576) : Calls Try.prog 57 #[v, .int .i64 n] w fun e w' => ∃ v' k, e = .returned v' ∧ LstI w' w.heap.size v' (l.take k ++ n :: l.drop k) ∧ Below w.heap.size w w' ∧ (∀ j (hj : j < l.length), j < k → l[j] < n) ∧ ∀ hk : k < l.length, n < l[k] := by
  have HR := Lib.hid hR
  obtain ⟨o, c, rfl, h1, h2, h0, h3⟩ := hR
  have H3 := Lib.hid h3
  have H0 := Lib.hid h0
  have HNL := Lib.hid hn
  clear h3 h0 hn
  unfold maxLen at h2
  go_enter Try.func57, Try.ntmps57
  go_wp2
  go_loopw [5] (fun i wr => ∃ k : Nat, k ≤ l.length ∧ i = .int .i64 k ∧ wr = w ∧ ∀ j (hj : j < l.length), j < k → l[j] < n) (fun i _ => l.length - (intOf i).toNat)
  case atStart => exact ⟨0, Nat.zero_le _, rfl, rfl, fun j hj h => absurd h (Nat.not_lt_zero _)⟩
  case round =>
    obtain ⟨k, hk, rfl, rfl, hlow⟩ := hrel
    have HLOW := Lib.hid hlow
    clear hlow
    obtain ⟨i0, hi, hz0, hz1, hz2⟩ := info_parts intInfo
    by_cases hlt : k < l.length
    · obtain ⟨g, off, rfl, hg, hc⟩ : ∃ g off, o = some ⟨g, off, none⟩ ∧ g < wr.heap.size ∧ ∀ i (h : i < l.length), wr.cell? ⟨g, off + i, none⟩ = some (.int .i64 l[i]) := by
        cases o with
        | none => have := H0.out rfl; omega
        | some a => obtain ⟨g, off, rfl, h⟩ := H3.out a rfl; exact ⟨g, off, rfl, h⟩
      have d0 := hc k hlt
      have HC := Lib.hid hc
      clear hc
      obtain ⟨x, hx⟩ : ∃ x, x = l[k] := ⟨_, rfl⟩
      have HX := Lib.hid hx
      rw [← hx] at d0
      clear hx
      have hne : x ≠ n := fun e => HNL.out (by rw [← e, HX.out]; exact List.getElem_mem hlt)
      have hneb : (x == n) = false := by simpa using hne
      by_cases hl : x < n
      · go_wp2
        go_roundw
        case rel => exact ⟨k + 1, hlt, by go_num, trivial, fun j hj h => by
          rcases Nat.lt_succ_iff_lt_or_eq.1 h with h1 | rfl
          · exact HLOW.out j hj h1
          · rw [← HX.out]; exact hl⟩
        case measure => simp [intOf]; omega
      · have HNEW : Hid (∀ j u, (ints (l.take k))[j]? = some u → (wr.alloc (.cells #[] 3)).cell? ((⟨g, off, none⟩ : Addr).add j) = some u) := Lib.hid (by
          intro j u hj
          rw [add_plainI]
          simp only [ints, List.getElem?_map, Option.map_eq_some_iff] at hj
          obtain ⟨y, hy, rfl⟩ := hj
          rw [List.getElem?_take] at hy
          split at hy
          · obtain ⟨hjl, rfl⟩ := List.getElem?_eq_some_iff.1 hy
            exact (((Below.refl wr.heap.size wr).alloc (Nat.le_refl _) _).cell (p := ⟨g, off + j, none⟩) hg).trans (HC.out j hjl)
          · cases hy)
        go_wp2_with (at_builtin; refine wpList_append_own _ rfl _ _ 55 rfl wr.heap.size 3 i0 (.int .i64 0) 1 8 Try.underlying55 hi hz0 hz1 hz2 rfl (by decide) _ 0 [] rfl (own_none wr) ⟨g, off, none⟩ k c (ints (l.take k)) rfl (by simp [ints]; omega) (HNEW.out) (ints_one _) (by unfold maxLen; omega) (by omega) (by simp) ?_)
        intro v1 w1 hown1 hgrow1 _
        have hbA : Below wr.heap.size wr (wr.alloc (.cells #[] 3)) := (Below.refl _ _).alloc (Nat.le_refl _) _
        have hb1 := below_appI hbA (by simp) (own_none wr) hgrow1
        have HO1 := Lib.hid hown1
        clear hown1 hgrow1 hbA
        go_wp2_with (at_builtin; refine wpList_append_own _ rfl _ _ 55 rfl wr.heap.size 3 i0 (.int .i64 0) 1 8 Try.underlying55 hi hz0 hz1 hz2 rfl (by decide) _ _ _ rfl (World.ownsRow.alloc HO1.out _) ⟨w1.heap.size, 0, none⟩ 1 1 [.int .i64 n] rfl rfl (cell_one_new _ _ _) (by simp [Value.oneCell']) (by unfold maxLen; omega) (by omega) (by have := hb1.size; simp; omega) ?_)
        intro v2 w2 hown2 hgrow2 _
        have hb2 := below_appI (hb1.alloc hb1.size (.cells #[.int .i64 n] 3)) (by have := hb1.size; simp; omega) (World.ownsRow.alloc HO1.out _) hgrow2
        have HO2 := Lib.hid hown2
        clear hown2 hgrow2 HO1 hb1
        have hck : ¬ c = k := by omega
        have hck2 : ¬ k = c := by omega
        have HNEW3 : Hid (∀ j u, (ints (l.drop k))[j]? = some u → w2.cell? ((⟨g, off + k, none⟩ : Addr).add j) = some u) := Lib.hid (by
          intro j u hj
          rw [add_plainI]
          simp only [ints, List.getElem?_map, Option.map_eq_some_iff] at hj
          obtain ⟨y, hy, rfl⟩ := hj
          rw [List.getElem?_drop] at hy
          obtain ⟨hjl, rfl⟩ := List.getElem?_eq_some_iff.1 hy
          rw [Nat.add_assoc]
          exact (hb2.cell (p := ⟨g, off + (k + j), none⟩) hg).trans (HC.out (k + j) hjl))
        go_wp2_with (at_builtin; refine wpList_append_own _ rfl _ _ 55 rfl wr.heap.size 3 i0 (.int .i64 0) 1 8 Try.underlying55 hi hz0 hz1 hz2 rfl (by decide) _ _ _ rfl HO2.out ⟨g, off + k, none⟩ (l.length - k) (c - k) (ints (l.drop k)) rfl (by simp [ints]) (HNEW3.out) (ints_one _) (by unfold maxLen; omega) (by omega) hb2.size ?_)
        intro v3 w3 hown3 hgrow3 _
        have hb3 := below_appI hb2 hb2.size HO2.out hgrow3
        have HO3 := Lib.hid hown3
        clear hown3 hgrow3 HO2 hb2
        go_wp2
        go_ret
        refine ⟨_, k, rfl, ?_, hb3, HLOW.out, fun _ => by rw [← HX.out]; omega⟩
        have hq := HO3.out
        unfold LstI
        have e1 : (l.take k ++ n :: l.drop k).length = 0 + k + 1 + (l.length - k) := by simp; omega
        rw [e1]
        simpa [ints] using hq
    · obtain rfl : k = l.length := by omega
      cases o with
      | none =>
        have hc0 := H0.out rfl
        have hl0 : l = [] := List.eq_nil_of_length_eq_zero (by omega)
        subst hl0
        subst hc0
        simp only [List.length_nil] at hk hlt ⊢
        have HCN : Hid (∀ j u, [Value.int .i64 n][j]? = some u → ((wr.alloc (.cells #[] 3)).alloc (.cells #[.int .i64 n] 3)).cell? ((⟨wr.heap.size + 1, 0, none⟩ : Addr).add j) = some u) := Lib.hid (by
          have h := cell_one_new (wr.alloc (.cells #[] 3)) (.int .i64 n) 3
          rw [World.size_alloc] at h
          exact h)
        have HO1 : Hid ((wr.alloc (.cells #[] 3)).ownsRow wr.heap.size 3 1 (.slice (some ⟨wr.heap.size, 0, none⟩) 0 0) 0 []) := Lib.hid (own_none wr)
        have hb1 : Below wr.heap.size wr (wr.alloc (.cells #[] 3)) := (Below.refl _ _).alloc (Nat.le_refl _) _
        go_wp2_with (first | (at_builtin; refine wpList_append_own_none rfl _ _ 55 rfl wr.heap.size 3 i0 1 Try.underlying55 hi _ _ _ rfl (own_none wr) rfl ?_) | (at_builtin; refine wpList_append_own _ rfl _ _ 55 rfl wr.heap.size 3 i0 (.int .i64 0) 1 8 Try.underlying55 hi hz0 hz1 hz2 rfl (by decide) _ _ _ rfl (World.ownsRow.alloc HO1.out _) ⟨wr.heap.size + 1, 0, none⟩ 1 1 [.int .i64 n] rfl rfl (HCN.out) (by simp [Value.oneCell']) (by unfold maxLen; omega) (by omega) (by have := hb1.size; simp at this ⊢; omega) ?_))
        intro v2 w2 hown2 hgrow2 _
        have hb2 := below_appI (hb1.alloc hb1.size (.cells #[.int .i64 n] 3)) (by have := hb1.size; simp at this ⊢; omega) (World.ownsRow.alloc HO1.out _) hgrow2
        have HO2 := Lib.hid hown2
        clear hown2 hgrow2 HO1 hb1
        go_wp2_with (at_builtin; refine wpList_append_own_none rfl _ _ 55 rfl wr.heap.size 3 i0 1 Try.underlying55 hi _ _ _ rfl HO2.out rfl ?_)
        go_ret
        refine ⟨_, 0, rfl, ?_, hb2, fun j hj h => absurd h (Nat.not_lt_zero _), fun hk => absurd hk (by simp)⟩
        have hq := HO2.out
        unfold LstI
        simpa [ints] using hq
      | some a =>
        obtain ⟨g, off, rfl, hg, hc⟩ := H3.out a rfl
        have HC := Lib.hid hc
        clear hc
        have HNEW : Hid (∀ j u, (ints l)[j]? = some u → (wr.alloc (.cells #[] 3)).cell? ((⟨g, off, none⟩ : Addr).add j) = some u) := Lib.hid (by
          intro j u hj
          rw [add_plainI]
          simp only [ints, List.getElem?_map, Option.map_eq_some_iff] at hj
          obtain ⟨y, hy, rfl⟩ := hj
          obtain ⟨hjl, rfl⟩ := List.getElem?_eq_some_iff.1 hy
          exact (((Below.refl wr.heap.size wr).alloc (Nat.le_refl _) _).cell (p := ⟨g, off + j, none⟩) hg).trans (HC.out j hjl))
        by_cases hc0 : c = 0
        · have hl0 : l = [] := List.eq_nil_of_length_eq_zero (by omega)
          subst hl0
          subst hc0
          simp only [List.length_nil] at hk hlt ⊢
          go_wp2_with (at_builtin; refine wpList_append_own _ rfl _ _ 55 rfl wr.heap.size 3 i0 (.int .i64 0) 1 8 Try.underlying55 hi hz0 hz1 hz2 rfl (by decide) _ 0 [] rfl (own_none wr) ⟨g, off, none⟩ 0 0 (ints []) rfl (by simp [ints]) (HNEW.out) (ints_one _) (by unfold maxLen; omega) (by omega) (by simp) ?_)
          intro v1 w1 hown1 hgrow1 _
          have hbA : Below wr.heap.size wr (wr.alloc (.cells #[] 3)) := (Below.refl _ _).alloc (Nat.le_refl _) _
          have hb1 := below_appI hbA (by simp) (own_none wr) hgrow1
          have HO1 := Lib.hid hown1
          clear hown1 hgrow1 hbA
          go_wp2_with (at_builtin; refine wpList_append_own _ rfl _ _ 55 rfl wr.heap.size 3 i0 (.int .i64 0) 1 8 Try.underlying55 hi hz0 hz1 hz2 rfl (by decide) _ _ _ rfl (World.ownsRow.alloc HO1.out _) ⟨w1.heap.size, 0, none⟩ 1 1 [.int .i64 n] rfl rfl (cell_one_new _ _ _) (by simp [Value.oneCell']) (by unfold maxLen; omega) (by omega) (by have := hb1.size; simp at this ⊢; omega) ?_)
          intro v2 w2 hown2 hgrow2 _
          have hb2 := below_appI (hb1.alloc hb1.size (.cells #[.int .i64 n] 3)) (by have := hb1.size; simp at this ⊢; omega) (World.ownsRow.alloc HO1.out _) hgrow2
          have HO2 := Lib.hid hown2
          clear hown2 hgrow2 HO1 hb1
          go_wp2_with (first | (at_builtin; refine wpList_append_own _ rfl _ _ 55 rfl wr.heap.size 3 i0 (.int .i64 0) 1 8 Try.underlying55 hi hz0 hz1 hz2 rfl (by decide) _ _ _ rfl HO2.out ⟨g, off, none⟩ 0 0 [] rfl (by simp) (by simp) (by simp) (by unfold maxLen; omega) (by omega) hb2.size ?_) | (at_builtin; refine wpList_append_own _ rfl _ _ 55 rfl wr.heap.size 3 i0 (.int .i64 0) 1 8 Try.underlying55 hi hz0 hz1 hz2 rfl (by decide) _ _ _ rfl HO2.out ⟨g, off, none⟩ (0 - 0) 0 [] rfl (by simp) (by simp) (by simp) (by unfold maxLen; omega) (by omega) hb2.size ?_))
          intro v3 w3 hown3 hgrow3 _
          have hb3 := below_appI hb2 hb2.size HO2.out hgrow3
          have HO3 := Lib.hid hown3
          clear hown3 hgrow3 HO2 hb2
          go_wp2
          go_ret
          refine ⟨_, 0, rfl, ?_, hb3, fun j hj h => absurd h (Nat.not_lt_zero _), fun hk => absurd hk (by simp)⟩
          have hq := HO3.out
          unfold LstI
          simpa [ints] using hq
        by_cases hck : c = l.length
        · have hpos : ¬ l.length = 0 := by omega
          go_wp2_with (at_builtin; refine wpList_append_own _ rfl _ _ 55 rfl wr.heap.size 3 i0 (.int .i64 0) 1 8 Try.underlying55 hi hz0 hz1 hz2 rfl (by decide) _ 0 [] rfl (own_none wr) ⟨g, off, none⟩ l.length l.length (ints l) rfl (by simp [ints]) (HNEW.out) (ints_one _) (by unfold maxLen; omega) (by omega) (by simp) ?_)
          intro v1 w1 hown1 hgrow1 _
          have hbA : Below wr.heap.size wr (wr.alloc (.cells #[] 3)) := (Below.refl _ _).alloc (Nat.le_refl _) _
          have hb1 := below_appI hbA (by simp) (own_none wr) hgrow1
          have HO1 := Lib.hid hown1
          clear hown1 hgrow1 hbA
          go_wp2_with (at_builtin; refine wpList_append_own _ rfl _ _ 55 rfl wr.heap.size 3 i0 (.int .i64 0) 1 8 Try.underlying55 hi hz0 hz1 hz2 rfl (by decide) _ _ _ rfl (World.ownsRow.alloc HO1.out _) ⟨w1.heap.size, 0, none⟩ 1 1 [.int .i64 n] rfl rfl (cell_one_new _ _ _) (by simp [Value.oneCell']) (by unfold maxLen; omega) (by omega) (by have := hb1.size; simp at this ⊢; omega) ?_)
          intro v2 w2 hown2 hgrow2 _
          have hb2 := below_appI (hb1.alloc hb1.size (.cells #[.int .i64 n] 3)) (by have := hb1.size; simp at this ⊢; omega) (World.ownsRow.alloc HO1.out _) hgrow2
          have HO2 := Lib.hid hown2
          clear hown2 hgrow2 HO1 hb1
          go_wp2_with (first | (at_builtin; refine wpList_append_own _ rfl _ _ 55 rfl wr.heap.size 3 i0 (.int .i64 0) 1 8 Try.underlying55 hi hz0 hz1 hz2 rfl (by decide) _ _ _ rfl HO2.out ⟨g, off, none⟩ 0 0 [] rfl (by simp) (by simp) (by simp) (by unfold maxLen; omega) (by omega) hb2.size ?_) | (at_builtin; refine wpList_append_own _ rfl _ _ 55 rfl wr.heap.size 3 i0 (.int .i64 0) 1 8 Try.underlying55 hi hz0 hz1 hz2 rfl (by decide) _ _ _ rfl HO2.out ⟨g, off, none⟩ 0 (c - l.length) [] rfl (by simp) (by simp) (by simp) (by unfold maxLen; omega) (by omega) hb2.size ?_) | (at_builtin; refine wpList_append_own _ rfl _ _ 55 rfl wr.heap.size 3 i0 (.int .i64 0) 1 8 Try.underlying55 hi hz0 hz1 hz2 rfl (by decide) _ _ _ rfl HO2.out ⟨g, off, none⟩ (l.length - l.length) 0 [] rfl (by simp) (by simp) (by simp) (by unfold maxLen; omega) (by omega) hb2.size ?_) | (at_builtin; refine wpList_append_own _ rfl _ _ 55 rfl wr.heap.size 3 i0 (.int .i64 0) 1 8 Try.underlying55 hi hz0 hz1 hz2 rfl (by decide) _ _ _ rfl HO2.out ⟨g, off, none⟩ (l.length - l.length) (c - l.length) [] rfl (by simp) (by simp) (by simp) (by unfold maxLen; omega) (by omega) hb2.size ?_))
          intro v3 w3 hown3 hgrow3 _
          have hb3 := below_appI hb2 hb2.size HO2.out hgrow3
          have HO3 := Lib.hid hown3
          clear hown3 hgrow3 HO2 hb2
          go_wp2
          go_ret
          refine ⟨_, l.length, rfl, ?_, hb3, HLOW.out, fun hk => absurd hk (Nat.lt_irrefl _)⟩
          have hq := HO3.out
          unfold LstI
          simpa [ints] using hq
        · have hck2 : ¬ l.length = c := fun e => hck e.symm
          go_wp2_with (at_builtin; refine wpList_append_own _ rfl _ _ 55 rfl wr.heap.size 3 i0 (.int .i64 0) 1 8 Try.underlying55 hi hz0 hz1 hz2 rfl (by decide) _ 0 [] rfl (own_none wr) ⟨g, off, none⟩ l.length c (ints l) rfl (by simp [ints]) (HNEW.out) (ints_one _) (by unfold maxLen; omega) (by omega) (by simp) ?_)
          intro v1 w1 hown1 hgrow1 _
          have hbA : Below wr.heap.size wr (wr.alloc (.cells #[] 3)) := (Below.refl _ _).alloc (Nat.le_refl _) _
          have hb1 := below_appI hbA (by simp) (own_none wr) hgrow1
          have HO1 := Lib.hid hown1
          clear hown1 hgrow1 hbA
          go_wp2_with (at_builtin; refine wpList_append_own _ rfl _ _ 55 rfl wr.heap.size 3 i0 (.int .i64 0) 1 8 Try.underlying55 hi hz0 hz1 hz2 rfl (by decide) _ _ _ rfl (World.ownsRow.alloc HO1.out _) ⟨w1.heap.size, 0, none⟩ 1 1 [.int .i64 n] rfl rfl (cell_one_new _ _ _) (by simp [Value.oneCell']) (by unfold maxLen; omega) (by omega) (by have := hb1.size; simp at this ⊢; omega) ?_)
          intro v2 w2 hown2 hgrow2 _
          have hb2 := below_appI (hb1.alloc hb1.size (.cells #[.int .i64 n] 3)) (by have := hb1.size; simp at this ⊢; omega) (World.ownsRow.alloc HO1.out _) hgrow2
          have HO2 := Lib.hid hown2
          clear hown2 hgrow2 HO1 hb1
          go_wp2_with (first | (at_builtin; refine wpList_append_own _ rfl _ _ 55 rfl wr.heap.size 3 i0 (.int .i64 0) 1 8 Try.underlying55 hi hz0 hz1 hz2 rfl (by decide) _ _ _ rfl HO2.out ⟨g, off + l.length, none⟩ 0 (c - l.length) [] rfl (by simp) (by simp) (by simp) (by unfold maxLen; omega) (by omega) hb2.size ?_) | (at_builtin; refine wpList_append_own _ rfl _ _ 55 rfl wr.heap.size 3 i0 (.int .i64 0) 1 8 Try.underlying55 hi hz0 hz1 hz2 rfl (by decide) _ _ _ rfl HO2.out ⟨g, off + l.length, none⟩ (l.length - l.length) (c - l.length) [] rfl (by simp) (by simp) (by simp) (by unfold maxLen; omega) (by omega) hb2.size ?_))
          intro v3 w3 hown3 hgrow3 _
          have hb3 := below_appI hb2 hb2.size HO2.out hgrow3
          have HO3 := Lib.hid hown3
          clear hown3 hgrow3 HO2 hb2
          go_wp2
          go_ret
          refine ⟨_, l.length, rfl, ?_, hb3, HLOW.out, fun hk => absurd hk (Nat.lt_irrefl _)⟩
          have hq := HO3.out
          unfold LstI
          simpa [ints] using hq
end Go.Proofs.Ytknhacblialboaa


/-
  The model's l3Met with the order that it keeps; what slices.Sort and slices.Compact make of a list of numbers, as data.
  Conditions: every entry leads to a node; at most 2^20 nodes, and entries of one.
-/
namespace Go.Proofs.Ytknhacblialboaa
open Go.ChangeShapes Go.WideShapes Go.ChangeAt Go.RowKit Go.Joins
set_option linter.unusedVariables false

theorem put_sorted {l : List Int} {n : Int} {k : Nat} (h : l.Pairwise (· < ·)) (h1 : ∀ j (hj : j < l.length), j < k → l[j] < n) (h2 : ∀ hk : k < l.length, n < l[k]) : (l.take k ++ n :: l.drop k).Pairwise (· < ·) := by
  have ht : ∀ x ∈ l.take k, x < n := fun x hx => by
    obtain ⟨j, hj, rfl⟩ := List.getElem_of_mem hx
    rw [List.getElem_take]
    have : j < k ∧ j < l.length := by simp at hj; omega
    exact h1 j this.2 this.1
  have hd : ∀ x ∈ l.drop k, n < x := fun x hx => by
    obtain ⟨j, hj, rfl⟩ := List.getElem_of_mem hx
    rw [List.getElem_drop]
    have hkj : k + j < l.length := by simp at hj; omega
    have hk := h2 (by omega)
    by_cases hj0 : j = 0
    · subst hj0; exact hk
    · have := List.pairwise_iff_getElem.1 h k (k + j) (by omega) hkj (by omega)
      omega
  rw [List.pairwise_append]
  refine ⟨h.sublist (List.take_sublist _ _), List.pairwise_cons.2 ⟨hd, h.sublist (List.drop_sublist _ _)⟩, fun a ha b hb => ?_⟩
  have h3 := ht a ha
  rcases List.mem_cons.1 hb with rfl | hb
  · exact h3
  · have := hd b hb; omega
/-- Two lists that rise and hold the same are the same. -/
theorem rise_ext : ∀ (a b : List Int), a.Pairwise (· < ·) → b.Pairwise (· < ·) → (∀ x, x ∈ a ↔ x ∈ b) → a = b
  | [], [], _, _, _ => rfl
  | [], y :: b, _, _, h => absurd ((h y).2 (by simp)) (by simp)
  | x :: a, [], _, _, h => absurd ((h x).1 (by simp)) (by simp)
  | x :: a, y :: b, ha, hb, h => by
    have ha2 := List.pairwise_cons.1 ha
    have hb2 := List.pairwise_cons.1 hb
    have hxy : x = y := by
      rcases List.mem_cons.1 ((h x).1 (by simp)) with e | e
      · exact e
      · rcases List.mem_cons.1 ((h y).2 (by simp)) with e2 | e2
        · exact e2.symm
        · have h1 := hb2.1 x e
          have h2 := ha2.1 y e2
          omega
    subst hxy
    refine congrArg _ (rise_ext a b ha2.2 hb2.2 fun z => ⟨fun hz => ?_, fun hz => ?_⟩)
    · rcases List.mem_cons.1 ((h z).1 (by simp [hz])) with e | e
      · have := ha2.1 z hz; omega
      · exact e
    · rcases List.mem_cons.1 ((h z).2 (by simp [hz])) with e | e
      · have := hb2.1 z hz; omega
      · exact e
/-- What is sorted rises once its doubles are struck. -/
theorem compact_up (zs : List Int) (hs : zs.Pairwise (· ≤ ·)) : ∀ m, m ≤ zs.length → (Lib.compactUpTo zs.toArray m).Pairwise (· < ·) ∧ (∀ x ∈ Lib.compactUpTo zs.toArray m, ∀ k (h : k < zs.length), m ≤ k + 1 → x ≤ zs[k]) ∧ ∀ x, x ∈ Lib.compactUpTo zs.toArray m ↔ x ∈ zs.take m
  | 0, _ => by simp [Lib.compactUpTo]
  | m + 1, hm => by
    obtain ⟨h1, h2, h3⟩ := compact_up zs hs m (by omega)
    have hml : m < zs.length := by omega
    have hle : ∀ i j (hi : i < zs.length) (hj : j < zs.length), i ≤ j → zs[i] ≤ zs[j] := fun i j hi hj hij => by
      rcases Nat.lt_or_eq_of_le hij with h | rfl
      · exact List.pairwise_iff_getElem.1 hs i j hi hj h
      · exact Int.le_refl _
    have eg : ∀ j (hj : j < zs.length), zs.toArray[j]! = zs[j] := fun j hj => by simp [hj]
    rw [Lib.compactUpTo_succ, List.take_succ_eq_append_getElem hml]
    by_cases hk : Lib.keeps zs.toArray m = true
    · rw [if_pos hk, eg m hml]
      have hlt : ∀ x ∈ Lib.compactUpTo zs.toArray m, x < zs[m] := fun x hx => by
        have hm0 : m ≠ 0 := fun e => by subst e; simp [Lib.compactUpTo] at hx
        have hne : zs[m] ≠ zs[m - 1] := by
          unfold Lib.keeps at hk
          simp only [decide_eq_true_eq] at hk
          rcases hk with hk | hk
          · exact absurd hk hm0
          · rw [eg m hml, eg (m - 1) (by omega)] at hk; exact hk
        have a1 := h2 x hx (m - 1) (by omega) (by omega)
        have a2 := hle (m - 1) m (by omega) hml (by omega)
        omega
      refine ⟨?_, fun x hx k hkl hmk => ?_, fun x => ?_⟩
      · rw [List.pairwise_append]
        exact ⟨h1, by simp, fun a ha b hb => by rw [List.mem_singleton.1 hb]; exact hlt a ha⟩
      · rcases List.mem_append.1 hx with hx | hx
        · exact Int.le_trans (Int.le_of_lt (hlt x hx)) (hle m k hml hkl (by omega))
        · rw [List.mem_singleton.1 hx]; exact hle m k hml hkl (by omega)
      · rw [List.mem_append, List.mem_append, h3]
    · rw [if_neg hk, List.append_nil]
      have hm0 : m ≠ 0 ∧ zs[m] = zs[m - 1] := by
        unfold Lib.keeps at hk
        simp only [decide_eq_true_eq, not_or, Classical.not_not] at hk
        refine ⟨hk.1, ?_⟩
        have := hk.2
        rwa [eg m hml, eg (m - 1) (by omega)] at this
      refine ⟨h1, fun x hx k hkl hmk => h2 x hx k hkl (by omega), fun x => ?_⟩
      rw [List.mem_append, h3]
      constructor
      · exact .inl
      · rintro (h | h)
        · exact h
        · rw [List.mem_singleton.1 h, hm0.2]
          have : m - 1 < (zs.take m).length := by simp; omega
          have e := List.getElem_mem this
          rwa [List.getElem_take] at e
/-- What Sort and Compact make of a list. -/
def srt (zs : List Int) : List Int := Lib.compact (zs.mergeSort fun x y => decide (x ≤ y))
theorem srt_up (zs : List Int) : (srt zs).Pairwise (· < ·) ∧ ∀ x, x ∈ srt zs ↔ x ∈ zs := by
  have hs : (zs.mergeSort fun x y => decide (x ≤ y)).Pairwise (· ≤ ·) := by
    have := List.pairwise_mergeSort (le := fun (x y : Int) => decide (x ≤ y)) (fun a b c h1 h2 => by simp only [decide_eq_true_eq] at *; omega) (fun a b => by simp only [Bool.or_eq_true, decide_eq_true_eq]; omega) zs
    exact this.imp (fun h => by simpa using h)
  obtain ⟨h1, -, h3⟩ := compact_up _ hs _ (Nat.le_refl _)
  refine ⟨h1, fun x => ?_⟩
  show x ∈ Lib.compactUpTo _ _ ↔ _
  rw [h3, List.take_length, List.mem_mergeSort]

set_option maxHeartbeats 4000000 in
theorem l3Met_sort (f : FsD) (hld : Lead f.nodes) (hs : f.nodes.length ≤ 1048576) (hs2 : ∀ n ∈ f.nodes, n.list.length ≤ 1048576) (d : Nat) : ∀ (M : List Int) (a : Int) (v mv : Value) (w : World), f.nodes.length - M.length = d → FsA w v f → RdI w mv M → Nums f.nodes.length M → M.Pairwise (· < ·) → 0 ≤ a → a < f.nodes.length →
    Calls Try.prog 63 #[v, .int .i64 a, mv] w fun e w' => ∃ v' M', e = .returned v' ∧ RdI w' v' M' ∧ Met f.nodes M a M' ∧ Below w.heap.size w w' ∧ M'.Pairwise (· < ·) := by
  induction d using Nat.strongRecOn with
  | _ d ih =>
  intro M a v mv w hd hR hM hn hst h0 h1
  have HST := Lib.hid hst
  have HIH := Lib.hid ih
  have HLD := Lib.hid hld
  have HS2 := Lib.hid hs2
  have HR := Lib.hid hR
  obtain ⟨nv, rfl, hN⟩ := hR
  obtain ⟨o, c, rfl, hm, hH⟩ := hN
  have HH := Lib.hid hH
  have HM := Lib.hid hM
  have HNM := Lib.hid hn
  obtain ⟨om, cm, rfl, -, -, -, -⟩ := id hM
  have hml := hn.len
  have hbw : Below w.heap.size w (w.alloc (.cells #[.slice o f.nodes.length c, .int .i64 f.room] 31)) := (Below.refl _ _).alloc (Nat.le_refl _) _
  have hk0 := heap_alloc_new w (.cells #[.slice o f.nodes.length c, .int .i64 f.room] 31)
  have HB := Lib.hid hbw
  have HK := Lib.hid hk0
  clear ih hld hs2 hH hM hn hbw hk0 hst
  unfold maxLen at hm
  by_cases hh : hasI M a = true
  · have HA := Lib.hid hh
    go_enter Try.func63, Try.ntmps63
    go_wp2_with fail
    refine (l1Has_any M a _ _ (HM.out.below HB.out) (by omega)).mono ?_
    rintro e w1 ⟨rfl, rfl⟩
    rw [HA.out]
    go_wp2
    go_ret
    refine ⟨_, M, rfl, HM.out.below HB.out, ⟨fun x hx => hx, hasI_iff.1 HA.out, fun x hx hn => absurd hx hn, HNM.out, Nat.le_refl _⟩, HB.out, HST.out⟩
  · have HA : Hid (hasI M a = false) := Lib.hid (by simpa using hh)
    have HAN : Hid (a ∉ M) := Lib.hid (fun h => hh (hasI_iff.2 h))
    obtain ⟨m, rfl⟩ : ∃ m : Nat, a = m := ⟨a.toNat, by omega⟩
    have hml2 : m < f.nodes.length := by omega
    obtain ⟨g, off, lv, rfl, hg, hcc, he, -⟩ := HH.out m hml2
    have HC6 := Lib.hid hcc.c6
    obtain ⟨q, hqq⟩ : ∃ q, q = f.nodes[m] := ⟨_, rfl⟩
    have HQ := Lib.hid hqq
    rw [← hqq] at he
    have HE0 := Lib.hid he
    obtain ⟨oe, ce, rfl, -, hE⟩ := id he
    have HE := Lib.hid hE
    have hql : q.list.length ≤ 1048576 := HS2.out q (by rw [HQ.out]; exact List.getElem_mem hml2)
    have HKD : Hid (∀ x, x ∈ kids f.nodes (m : Int) ↔ ∃ i, ∃ h : i < q.list.length, x = q.list[i].node) := Lib.hid (by
      intro x
      have e1 : f.nodes.getD (m : Int).toNat ⟨0, 0, 0, 0, 0, [], []⟩ = q := by rw [HQ.out]; simp [List.getD, hml2]
      unfold kids
      rw [e1, List.mem_map]
      constructor
      · rintro ⟨e, he, rfl⟩
        obtain ⟨i, hi, rfl⟩ := List.getElem_of_mem he
        exact ⟨i, hi, rfl⟩
      · rintro ⟨i, hi, rfl⟩
        exact ⟨_, List.getElem_mem hi, rfl⟩)
    have HLQ : Hid (∀ i (h : i < q.list.length), 0 ≤ q.list[i].node ∧ q.list[i].node < f.nodes.length) := Lib.hid (fun i hi => HLD.out q (by rw [HQ.out]; exact List.getElem_mem hml2) _ (List.getElem_mem hi))
    clear hh hqq he hE hcc
    go_enter Try.func63, Try.ntmps63
    go_wp2_with fail
    refine (l1Has_any M _ _ _ (HM.out.below HB.out) (by omega)).mono ?_
    rintro e w1 ⟨rfl, rfl⟩
    rw [HA.out]
    go_wp2_with fail
    refine (l1Put_sort M _ _ _ (HM.out.below HB.out) HAN.out (by omega)).mono ?_
    rintro e w2 ⟨v2, kk, rfl, hL2, hb2, hq1, hq2⟩
    have HSP := Lib.hid (put_sorted HST.out hq1 hq2)
    clear hq1 hq2
    have HB2 := Lib.hid (HB.out.trans (hb2.mono HB.out.size))
    have HK2 := Lib.hid ((hb2.block w.heap.size (lt_of_heap HK.out)).trans HK.out)
    have s0 := (cell_blk HK2.out 0).trans rfl
    have d6 := (HB2.out.cell (p := ⟨g, off + m * 7 + 6, none⟩) hg).trans HC6.out
    have HP : Hid (Nums f.nodes.length (M.take kk ++ (m : Int) :: M.drop kk)) := Lib.hid (put_nums HNM.out HAN.out h0 h1)
    have hlen : (M.take kk ++ (m : Int) :: M.drop kk).length = M.length + 1 := by
      have := congrArg List.length (List.take_append_drop kk M)
      simp only [List.length_append, List.length_cons] at this ⊢
      omega
    have hmax := HP.out.len
    have HL2 := Lib.hid hL2.read
    obtain ⟨o2, c2, rfl, -, -, -, -⟩ := hL2.read
    obtain ⟨M0, hM0⟩ : ∃ M0, M0 = M.take kk ++ (m : Int) :: M.drop kk := ⟨_, rfl⟩
    have HM0 : Hid (∀ x, x ∈ M0 ↔ x = (m : Int) ∨ x ∈ M) := Lib.hid (fun x => by rw [hM0]; exact put_mem)
    rw [← hM0] at HP hlen hmax HL2 HSP ⊢
    clear hb2 hL2 hM0
    go_wp2
    go_loopw [2, 23] (fun t i wr => ∃ (j : Nat) (M1 : List Int), j ≤ q.list.length ∧ i = .int .i64 j ∧ RdI wr t M1 ∧ MetI f.nodes M0 (m : Int) q.list j M1 ∧ M1.Pairwise (· < ·) ∧ Below w.heap.size w wr ∧ wr.heap[w.heap.size]? = some (.cells #[.slice (some ⟨g, off, none⟩) f.nodes.length c, .int .i64 f.room] 31)) (fun _ i _ => q.list.length - (intOf i).toNat)
    case atStart => exact ⟨0, M0, Nat.zero_le _, rfl, (by first | exact HL2.out | (rw [← hlen]; exact HL2.out)), ⟨fun x hx => hx, fun x hx hn => absurd hx hn, fun i hi h => absurd h (Nat.not_lt_zero _), HP.out, Nat.le_refl _⟩, HSP.out, HB2.out, HK2.out⟩
    case round =>
      obtain ⟨j, M1, hj, rfl, hR1, hI, hS1, hBr, hbr⟩ := hrel
      have HS1 := Lib.hid hS1
      clear hS1
      have HI := Lib.hid hI
      have HBr := Lib.hid hBr
      have Hbr := Lib.hid hbr
      have HR1 := Lib.hid hR1
      obtain ⟨o3, c3, rfl, -, -, -, -⟩ := hR1
      have hlen1 := hI.len
      clear hI
      by_cases hlt : j < q.list.length
      · obtain ⟨g2, f2, rfl, q2, x2, y2, _⟩ := HE.out j hlt
        have a1 := (hBr.cell (p := ⟨g2, f2 + j * 2, none⟩) q2).trans x2
        have a2 := (hBr.cell (p := ⟨g2, f2 + j * 2 + 1, none⟩) q2).trans y2
        obtain ⟨l1, l2⟩ := HLQ.out j hlt
        have HKJ : Hid (q.list[j].node ∈ kids f.nodes (m : Int)) := Lib.hid ((HKD.out _).2 ⟨j, hlt, rfl⟩)
        obtain ⟨y, hyy⟩ : ∃ y, y = bs q.list[j].name := ⟨_, rfl⟩
        rw [← hyy] at a1
        obtain ⟨r, hr⟩ : ∃ r, r = q.list[j].node := ⟨_, rfl⟩
        have HRR := Lib.hid hr
        rw [← hr] at a2 l1 l2 HKJ
        have HW3 : Hid (Below w.heap.size w (wr.alloc (.cells #[.string y, .int .i64 r] 93))) := Lib.hid (hBr.alloc hBr.size _)
        have HW4 : Hid (Below wr.heap.size wr (wr.alloc (.cells #[.string y, .int .i64 r] 93))) := Lib.hid ((Below.refl _ _).alloc (Nat.le_refl _) _)
        have hb3 : (wr.alloc (.cells #[.string y, .int .i64 r] 93)).heap[w.heap.size]? = some (.cells #[.slice (some ⟨g, off, none⟩) f.nodes.length c, .int .i64 f.room] 31) := (Below.heap_alloc _ _ _ (lt_of_heap hbr)).trans hbr
        have t0 := (cell_blk hb3 0).trans rfl
        have t1 := (cell_blk hb3 1).trans rfl
        have b0 := (cell_blk hbr 0).trans rfl
        have b1 := (cell_blk hbr 1).trans rfl
        have HB3 := Lib.hid hb3
        have hmax1 := HI.out.nums.len
        clear x2 y2 hyy hr hBr hbr hb3
        go_wp2_with fail
        refine (HIH.out (f.nodes.length - M1.length) (by omega) M1 _ _ _ _ rfl (HR.out.below HW3.out) (HR1.out.below HW4.out) HI.out.nums HS1.out l1 l2).mono ?_
        rintro e w5 ⟨v5, M2, rfl, hR5, hM5, hb5, hS5⟩
        have HS5 := Lib.hid hS5
        have HR5 := Lib.hid hR5
        have HI5 := Lib.hid (MetI.next HI.out hlt (by rw [← HRR.out]; exact HKJ.out) (by rw [← HRR.out]; exact hM5))
        have HB5 := Lib.hid (HW3.out.trans (hb5.mono HW3.out.size))
        have HK5 := Lib.hid ((hb5.block w.heap.size (lt_of_heap HB3.out)).trans HB3.out)
        obtain ⟨o5, c5, rfl, -, -, -, -⟩ := hR5
        clear hM5 hb5 hS5
        go_wp2
        go_roundw
        case rel => exact ⟨j + 1, M2, hlt, by go_num, HR5.out, HI5.out, HS5.out, HB5.out, HK5.out⟩
        case measure => simp [intOf]; omega
      · go_wp2
        go_ret
        refine ⟨_, M1, rfl, HR1.out, ⟨fun x hx => HI.out.sub x ((HM0.out x).2 (.inr hx)), HI.out.sub _ ((HM0.out _).2 (.inl rfl)), fun x hx hn => ?_, HI.out.nums, by omega⟩, HBr.out, HS1.out⟩
        by_cases h3 : x ∈ M0
        · rcases (HM0.out x).1 h3 with rfl | h4
          · refine ⟨.refl, fun cc hcc => ?_⟩
            obtain ⟨i, hi, rfl⟩ := (HKD.out cc).1 hcc
            exact HI.out.done i hi (by omega)
          · exact absurd h4 hn
        · exact HI.out.new x hx h3

end Go.Proofs.Ytknhacblialboaa


/-
  The walks of impl.partsIn and of its closure.
  Conditions: a text's length is a length.
-/
namespace Go.Proofs.Ytknhacblialboaa
open Go.RowKit Go.Shelf
set_option linter.unusedVariables false
attribute [local go_sem] Oper.semAt_some

set_option maxHeartbeats 1000000 in
theorem partsIn_in (F : Fence) (n : Nat) (hf : F.fn 172) (hro : F.round = none) (s : ByteArray) (w : World) :
    CallsIn F n Try.prog 172 #[.string s] w fun e w' => e = .returned (.func (.func 173) #[] #[.pointer (some ⟨w.heap.size, 0, none⟩)]) ∧ w' = w.alloc (.cells #[.string s] 9) := by
  refine callsIn_of_wp Try.func172 rfl hf ?_ hro
  simp only [Try.ntmps172, List.size_toArray, List.length_cons, List.length_nil, Nat.reduceAdd, Nat.reduceSub, Array.replicate_succ, Array.replicate_zero, List.push_toArray, List.append_toArray, List.nil_append, List.cons_append]
  gi_wp2
  go_ret
  exact ⟨rfl, rfl⟩

set_option maxRecDepth 100000 in
set_option maxHeartbeats 2000000 in
theorem iter_in (F : Fence) (n : Nat) (hf : F.fn 173) (hro : F.round = none) (hn : 1 ≤ n) (l b : Nat) (s : ByteArray) (hs : s.size ≤ maxLen) (J Jx : List ByteArray → World → Prop) (W : World) (hJ : AbidesFrom W.heap.size J)
    (hY : ∀ pre x W1, J pre W1 → pre.length < (parts s.data.toList).length → YieldAt F (n - 1) Try.prog l #[.string x] W1 fun e W' =>
      (e = .returned (.bool true) ∧ J (pre ++ [x]) W' ∧ KpB b W1 W') ∨ (e = .returned (.bool false) ∧ Jx (pre ++ [x]) W'))
    (hB : W.cell? ⟨b, 0, none⟩ = some (.string s)) (h0 : J [] W) :
    CallsIn F n Try.prog 173 #[.func (.yield l) #[] #[], .pointer (some ⟨b, 0, none⟩)] W fun e W' => (∃ v, e = .returned v) ∧
      ((∃ ys, ys = (parts s.data.toList).map bs ∧ J ys W') ∨ (∃ pre, pre <+: (parts s.data.toList).map bs ∧ Jx pre W')) := by
  unfold maxLen at hs
  refine callsIn_of_wp Try.func173 rfl hf ?_ hro
  simp only [Try.ntmps173, List.size_toArray, List.length_cons, List.length_nil, Nat.reduceAdd, Nat.reduceSub, Array.replicate_succ, Array.replicate_zero, List.push_toArray, List.append_toArray, List.nil_append, List.cons_append]
  gi_wp2
  gi_loopw [3] (fun f wr => ∃ (pos frm : Nat), f = .int .i64 frm ∧ Cut s pos frm ∧ wr.heap[W.heap.size]? = some (.stringIter s pos) ∧ wr.cell? ⟨b, 0, none⟩ = some (.string s) ∧ J ((given s pos).map bs) wr)
    (fun _ wr => s.size - wr.iterPos W.heap.size)
  case atStart =>
    refine ⟨0, 0, rfl, Cut.start s, ?_, ?_, ?_⟩
    · exact World.iter_heap W s 0
    · exact (World.cell?_of_block (a := ⟨b, 0, none⟩) (Below.heap_alloc W _ b (World.block_lt_of_cell? W _ hB))).trans hB
    · rw [given_start]
      exact hJ [] W _ none h0 (World.grownBy_alloc W _ none) (fun r e => by cases e)
  case round =>
    obtain ⟨pos, frm, rfl, hC, hit, hcell, hj⟩ := hrel
    have HC := Lib.hid hC
    have htop := hC.top
    have hle := hC.le
    clear hC
    by_cases hp : pos < s.size
    · by_cases h47 : (Utf8.decode s pos).1 = 47
      · obtain ⟨hb47, hw1⟩ := slash_byte hp h47
        have hnx : ∀ ty, (Instr.next (.pointer (some ⟨W.heap.size, 0, none⟩)) true ty).run Try.prog wr = .ok (.tuple #[.bool true, .int .i64 pos, .int .i32 47]) (wr.iterAt W.heap.size s (pos + 1)) := by
          intro ty
          rw [Lib.run_next_any_at wr W.heap.size s pos ty hit hp, h47, hw1]
          rfl
        have hit2 := Lib.iterAt_heap wr W.heap.size s pos (pos + 1) hit
        have hcell2 := cell_iterAt hit hcell (pos + 1)
        have hj2 := abides_next hJ hj hit (Nat.le_refl _) (pos + 1)
        have HS := Lib.hid (HC.out.slash hp hb47).1
        have HM : Hid (wr.iterPos W.heap.size = pos) := Lib.hid (by simp [World.iterPos, hit])
        by_cases hlt : frm < pos
        · have HG := Lib.hid (HC.out.gives hp hb47 hlt)
          have hpre : (given s pos).length < (parts s.data.toList).length := len_of_prefix (by rw [← HG.out]; exact given_prefix s (pos + 1))
          have HX : Hid (s.extract frm pos = bs ((s.data.toList.take pos).drop frm)) := Lib.hid (bs_ext s frm pos)
          obtain ⟨fn, tmps, assign, body, hy, hR⟩ := hY ((given s pos).map bs) (s.extract frm pos) _ hj2 (by simpa using hpre)
          clear hb47 hw1 h47
          have HIT := Lib.hid hit2
          clear hit hit2
          gi_wp2
          refine hR.mono ?_
          rintro e W3 (⟨rfl, hJ3, hk3⟩ | ⟨rfl, hJx3⟩)
          · have hc3 : W3.cell? ⟨b, 0, none⟩ = some (.string s) := hk3.2.trans hcell2
            gi_wp2
            go_roundw
            case rel =>
              refine ⟨pos + 1, pos + 1, by go_num, HS.out, hk3.1.same _ _ HIT.out rfl, hc3, ?_⟩
              rw [HG.out, List.map_append, List.map_cons, List.map_nil, ← HX.out]
              exact hJ3
            case measure =>
              have : W3.iterPos W.heap.size = pos + 1 := by simp [World.iterPos, hk3.1.same _ _ HIT.out rfl]
              rw [HM.out, this]; omega
          · gi_wp2
            refine bodyPost_ret (results_none rfl _ _ _) rfl ?_
            refine ⟨⟨_, rfl⟩, .inr ⟨_, ?_, hJx3⟩⟩
            have := map_prefix (given_prefix s (pos + 1))
            rw [HG.out, List.map_append, List.map_cons, List.map_nil, ← HX.out] at this
            exact this
        · have HG := Lib.hid (HC.out.skips hp hb47 hlt)
          clear hb47 hw1 h47
          have HIT := Lib.hid hit2
          clear hit hit2
          gi_wp2
          refine ⟨fun _ h => (by cases h), ?_⟩
          gi_wp2
          go_roundw
          case rel => exact ⟨pos + 1, pos + 1, by go_num, HS.out, HIT.out, hcell2, by rw [HG.out]; exact hj2⟩
          case measure =>
            have : (wr.iterAt W.heap.size s (pos + 1)).iterPos W.heap.size = pos + 1 := by simp [World.iterPos, HIT.out]
            rw [HM.out, this]; omega
      · obtain ⟨HR, HG⟩ := HC.out.rune hp h47
        have hd := decode_bytes s pos hp
        have hdl := decode_le s pos
        obtain ⟨r, hr⟩ : ∃ r, r = (Utf8.decode s pos).1 := ⟨_, rfl⟩
        obtain ⟨wd, hwd⟩ : ∃ wd, wd = (Utf8.decode s pos).2 := ⟨_, rfl⟩
        have hnx : ∀ ty, (Instr.next (.pointer (some ⟨W.heap.size, 0, none⟩)) true ty).run Try.prog wr = .ok (.tuple #[.bool true, .int .i64 pos, .int .i32 (r : Int)]) (wr.iterAt W.heap.size s (pos + wd)) := by
          intro ty
          rw [hr, hwd]
          exact Lib.run_next_any_at wr W.heap.size s pos ty hit hp
        rw [← hr] at h47 hdl
        rw [← hwd] at HR HG hd
        have hne : ((r : Int) != 47) = true := by simp; omega
        have HR' := Lib.hid HR
        have HG' := Lib.hid HG
        obtain ⟨hd1, hd2, _⟩ := hd
        clear HR HG hr hwd
        have hit2 := Lib.iterAt_heap wr W.heap.size s pos (pos + wd) hit
        have hcell2 := cell_iterAt hit hcell (pos + wd)
        have hj2 := abides_next hJ hj hit (Nat.le_refl _) (pos + wd)
        have HM : Hid (wr.iterPos W.heap.size = pos) := Lib.hid (by simp [World.iterPos, hit])
        have HIT := Lib.hid hit2
        clear hit hit2
        gi_wp2
        go_roundw
        case rel => exact ⟨pos + wd, frm, rfl, HR'.out, HIT.out, hcell2, by rw [HG'.out]; exact hj2⟩
        case measure =>
          have : (wr.iterAt W.heap.size s (pos + wd)).iterPos W.heap.size = pos + wd := by simp [World.iterPos, HIT.out]
          rw [HM.out, this]; omega
    · obtain rfl : pos = s.size := by omega
      have hnx : ∀ ty, (Instr.next (.pointer (some ⟨W.heap.size, 0, none⟩)) true ty).run Try.prog wr = _ := fun ty => Lib.run_next_end_at wr W.heap.size s s.size ty hit hp
      clear hit
      by_cases hlt : frm < s.size
      · have HG := Lib.hid (HC.out.last hlt)
        have hpre : (given s s.size).length < (parts s.data.toList).length := by rw [HG.out]; simp
        have HX : Hid (s.extract frm s.size = bs ((s.data.toList.take s.size).drop frm)) := Lib.hid (bs_ext s frm s.size)
        obtain ⟨fn, tmps, assign, body, hy, hR⟩ := hY ((given s s.size).map bs) (s.extract frm s.size) _ hj (by simpa using hpre)
        gi_wp2
        refine hR.mono ?_
        rintro e W3 (⟨rfl, hJ3, hk3⟩ | ⟨rfl, hJx3⟩)
        · gi_wp2
          go_end0
          refine ⟨⟨_, rfl⟩, .inl ⟨_, rfl, ?_⟩⟩
          rw [HG.out, List.map_append, List.map_cons, List.map_nil, ← HX.out]
          exact hJ3
        · gi_wp2
          go_end0
          refine ⟨⟨_, rfl⟩, .inr ⟨_, ?_, hJx3⟩⟩
          rw [HG.out, List.map_append, List.map_cons, List.map_nil, ← HX.out]
          exact List.prefix_refl _
      · have HG := Lib.hid (HC.out.ended hlt)
        gi_wp2
        go_end0
        exact ⟨⟨_, rfl⟩, .inl ⟨_, rfl, by rw [HG.out]; exact hj⟩⟩

theorem iter_stops (F : Fence) (n : Nat) (hf : F.fn 173) (hro : F.round = none) (hn : 1 ≤ n) (b : Nat) (s : ByteArray) (hs : s.size ≤ maxLen) (w : World) (hb : b < w.heap.size) (hc : w.cell? ⟨b, 0, none⟩ = some (.string s)) :
    SeqStopsK F n Try.prog 173 #[.pointer (some ⟨b, 0, none⟩)] (fun x : ByteArray => #[Value.string x]) (KpB b) (fun ys => ys = (parts s.data.toList).map bs) (fun pre => pre <+: (parts s.data.toList).map bs) (parts s.data.toList).length w := fun l J Jx W hW hJ _ hY h0 =>
  iter_in F n hf hro hn l b s hs J Jx W hJ hY ((hW.cell (p := ⟨b, 0, none⟩) hb).trans hc) h0
end Go.Proofs.Ytknhacblialboaa


/-
  The contracts of impl.hasPathForm and impl.GoodPath.
  Conditions: a text's length is a length.
-/
namespace Go.Proofs.Ytknhacblialboaa
open Go.RowKit Go.Shelf
set_option linter.unusedVariables false
attribute [local go_sem] Oper.semAt_some

theorem good_no {l : List UInt8} (h : ¬ (1 ≤ l.length ∧ l.length ≤ 60)) : goodB l = false := by simp [goodB, h]
theorem good_in {l : List UInt8} (h : 1 ≤ l.length ∧ l.length ≤ 60) : goodB l = (parts l).all partB := by simp [goodB, h]
theorem boxed_below {W W' : World} {b : Nat} {t : TypeId} {v : Value} (h : Boxed W b t v) (hb : Below W.heap.size W W') : Boxed W' b t v := (hb.block b h.lt).trans h
theorem all_bs (ps : List (List UInt8)) : (ps.map bs).all (fun x => partB x.data.toList) = ps.all partB := by
  induction ps with
  | nil => rfl
  | cons p r ih => simp only [List.map_cons, List.all_cons, ih, bs_list]

def formB (l : List UInt8) : Bool := !(l == []) && (parts l).all partB
theorem form_empty : formB [] = false := rfl
theorem form_some {l : List UInt8} (h : l ≠ []) : formB l = (parts l).all partB := by simp [formB, h]
theorem form_bad {l : List UInt8} (h : (parts l).all partB = false) : formB l = false := by simp [formB, h]
theorem good_form (l : List UInt8) : goodB l = (decide (l.length ≤ 60) && formB l) := by
  by_cases h : l = []
  · subst h; rfl
  · have h1 : 1 ≤ l.length := List.length_pos_iff.2 h
    rw [form_some h]; unfold goodB; simp [h1]
theorem text_some {s : ByteArray} (h : s.data.toList ≠ []) : (s.toList.isEmpty) = false ∧ (!s.toList.isEmpty) = true ∧ s.toList ≠ [] ∧ (s.toList == []) = false := by
  rw [ByteArray.toList_eq]
  refine ⟨?_, ?_, h, ?_⟩ <;> cases hq : s.data.toList <;> simp_all

set_option maxRecDepth 100000 in
set_option maxHeartbeats 2000000 in
theorem hasPathForm_any (s : ByteArray) (w : World) (hs : s.size ≤ maxLen) : Calls Try.prog 171 #[.string s] w fun e w' => e = .returned (.bool (formB s.data.toList)) ∧ Below w.heap.size w w' := by
  have HS := Lib.hid hs
  unfold maxLen at hs
  refine (callsIn_wide (n := 6)).1 ?_
  refine callsIn_of_wp_marks Try.func171 rfl trivial ?_ rfl
  simp only [Try.ntmps171, List.size_toArray, List.length_cons, List.length_nil, Nat.reduceAdd, Nat.reduceSub, Array.replicate_succ, Array.replicate_zero, List.push_toArray, List.append_toArray, List.nil_append, List.cons_append]
  gi_wp2_with (refine ⟨trivial, ?_⟩; gi_at_call 172; refine (partsIn_in Fence.wide _ trivial rfl _ _).mono ?_; rintro e w' ⟨rfl, rfl⟩)
  have bR := Boxed.new w 4 (.bool false)
  have bS := Boxed.new (w.alloc (.cells #[.bool false] 4)) 9 (.string s)
  rw [World.size_alloc] at bS
  have hB0 : Below w.heap.size w ((w.alloc (.cells #[.bool false] 4)).alloc (.cells #[.string s] 9)) := ((Below.refl _ w).alloc (Nat.le_refl _) _).alloc (by simp) _
  refine wpIn_rangeFunc_ownF rfl (by omega) (gf := 173) (lb := #[.pointer (some ⟨w.heap.size + 1, 0, none⟩)]) rfl trivial (enters_of Try.func173 (by kernel_rfl) rfl)
    (iter_stops Fence.wide (6 - 1) trivial rfl (by omega) (w.heap.size + 1) s HS.out _ (by simp) bS.cell) kpB_t (kpB_b (by simp)) (Below.refl _ _) (fun _ => rfl)
    (fun pre W => ((pre.all fun x => partB x.data.toList) = true ∧ Boxed W w.heap.size 4 (.bool false) ∧ Boxed W (w.heap.size + 1) 9 (.string s)) ∧ Below w.heap.size w W)
    (fun c pre W => (c = .ret ∧ (pre.all fun x => partB x.data.toList) = false ∧ Boxed W w.heap.size 4 (.bool false)) ∧ Below w.heap.size w W)
    (OwnFrom.and (OwnFrom.and (ownFrom_pure _ _) (OwnFrom.and (Own.from (boxed_own _ _ _) _) (Own.from (boxed_own _ _ _) _))) (ownFrom_below (Nat.le_refl _) (by simp; omega)))
    (fun c => OwnFrom.and (OwnFrom.and (ownFrom_pure _ (fun _ => c = .ret)) (OwnFrom.and (ownFrom_pure _ _) (Own.from (boxed_own _ _ _) _))) (ownFrom_below (Nat.le_refl _) (by simp; omega)))
    ⟨⟨rfl, bR.alloc _, bS⟩, hB0⟩
    ?a1 ?assign ?body ?done ?stop
  case assign =>
    intro l x W K hK
    gi_wp2
    exact hK
  case body =>
    rintro l pre x W ⟨⟨hp, hbx, hbs⟩, hB⟩ _
    have HPr := Lib.hid hp
    clear hp
    by_cases hx : partB x.data.toList = true
    · have HX := Lib.hid hx
      clear hx
      gi_wp2_with (refine ⟨trivial, ?_⟩; gi_at_call 167; refine (CallsIn.inRound l (callsIn_wide.2 (isPart_any _ _))).mono ?_; rintro e w' ⟨rfl, hb⟩; rw [HX.out])
      exact ⟨others_below hb, kpB_below (others_below hb) hb hbs.lt, ⟨by rw [List.all_append, HPr.out]; simp [HX.out], boxed_below hbx hb, boxed_below hbs hb⟩, hB.trans (hb.mono hB.size)⟩
    · have HX := Lib.hid (show partB x.data.toList = false by simpa using hx)
      clear hx
      gi_wp2_with (refine ⟨trivial, ?_⟩; gi_at_call 167; refine (CallsIn.inRound l (callsIn_wide.2 (isPart_any _ _))).mono ?_; rintro e w' ⟨rfl, hb⟩; rw [HX.out]; have hbx2 := boxed_below hbx hb; have hc := hbx2.cell; have hf := hbx2.frozen)
      exact ⟨(others_below hb).trans (KeepsOthers.setCell _ _ _), ⟨rfl, by rw [List.all_append]; simp [HX.out], (boxed_below hbx hb).set _⟩, (hB.trans (hb.mono hB.size)).setCell (p := ⟨w.heap.size, 0, none⟩) (Nat.le_refl _) _⟩
  case done =>
    rintro D ys W hD rfl ⟨⟨hp, hbx, hbs⟩, hB⟩ hK
    have HPr := Lib.hid hp
    clear hp
    by_cases h0 : s.data.toList = []
    · have h1 : s = ⟨#[]⟩ := by rw [← bs_of s, h0]; rfl
      subst h1
      clear h0
      have hc := hbx.cell
      have hf := hbx.frozen
      gi_wp2
      have hK' := (KeepsOthers.setCell W ⟨w.heap.size, 0, none⟩ (.bool false)).same D _ hK rfl
      refine ⟨by simp, .inl ⟨_, _, rfl, run_takeDeferred hK', ?_⟩⟩
      have hc5 := cell_kept (hbx.set (.bool false)).cell (grownBy_putObj' _ D (.deferred none)) (fun r e => by cases e; exact ⟨_, hK', rfl⟩)
      refine ⟨.bool false, ?_, ret_bool ?_, (hB.setCell (p := ⟨w.heap.size, 0, none⟩) (Nat.le_refl _) _).trans (belowK_b (w := w) (Nat.le_refl _) _ D _ _ (by simp at hD; omega) hK' rfl rfl)⟩
      · simp [results, Try.f171, go_sem, hc5]
      · rfl

    · obtain ⟨z1, z2, z3, z4⟩ := text_some h0
      have HF := Lib.hid (form_some h0)
      clear h0
      have hc := hbx.cell
      have hf := hbx.frozen
      gi_wp2
      have hK' := (KeepsOthers.setCell W ⟨w.heap.size, 0, none⟩ (.bool true)).same D _ hK rfl
      refine ⟨by simp, .inl ⟨_, _, rfl, run_takeDeferred hK', ?_⟩⟩
      have hc5 := cell_kept (hbx.set (.bool true)).cell (grownBy_putObj' _ D (.deferred none)) (fun r e => by cases e; exact ⟨_, hK', rfl⟩)
      refine ⟨.bool true, ?_, ret_bool ?_, (hB.setCell (p := ⟨w.heap.size, 0, none⟩) (Nat.le_refl _) _).trans (belowK_b (w := w) (Nat.le_refl _) _ D _ _ (by simp at hD; omega) hK' rfl rfl)⟩
      · simp [results, Try.f171, go_sem, hc5]
      · rw [HF.out, ← all_bs, HPr.out]

  case stop =>
    rintro D c pre W hD hpre ⟨⟨rfl, hp, hbx⟩, hB⟩ hK
    have HPr := Lib.hid hp
    have HPx := Lib.hid hpre
    clear hp hpre
    gi_wp2
    refine ⟨by simp, .inl ⟨_, _, rfl, run_takeDeferred hK, ?_⟩⟩
    have hc5 := cell_kept hbx.cell (grownBy_putObj' _ D (.deferred none)) (fun r e => by cases e; exact ⟨_, hK, rfl⟩)
    refine ⟨.bool false, ?_, ret_bool ?_, hB.trans (belowK_b (w := w) (Nat.le_refl _) W D _ _ (by simp at hD; omega) hK rfl rfl)⟩
    · simp [results, Try.f171, go_sem, hc5]
    · symm
      refine form_bad ?_
      rw [← all_bs]
      obtain ⟨t, ht⟩ := HPx.out
      rw [← ht, List.all_append, HPr.out, Bool.false_and]

set_option maxHeartbeats 1000000 in
theorem goodPath_any (s : ByteArray) (w : World) (hs : s.size ≤ maxLen) : Calls Try.prog 170 #[.string s] w fun e w' => e = .returned (.bool (goodB s.data.toList)) ∧ Below w.heap.size w w' := by
  have HS := Lib.hid hs
  have HG := Lib.hid (good_form s.data.toList)
  have hl : s.data.toList.length = s.size := len_size s
  rw [hl] at HG
  unfold maxLen at hs
  by_cases h60 : s.size ≤ 60
  · have HV : Hid (goodB s.data.toList = formB s.data.toList) := Lib.hid (by rw [HG.out]; simp [h60])
    have h9 : (s.size : Int) ≤ 60 := by omega
    clear hl
    go_enter Try.func170, Try.ntmps170
    go_wp2_with fail
    refine (hasPathForm_any s _ HS.out).mono ?_
    rintro e w1 ⟨rfl, hb1⟩
    go_wp2
    all_goals
      go_ret
      exact ⟨ret_bool (by rw [HV.out]; try simp [*]), hb1⟩
  · have HV : Hid (goodB s.data.toList = false) := Lib.hid (by rw [HG.out]; simp [h60])
    have h9 : ¬ ((s.size : Int) ≤ 60) := by omega
    clear hl
    go_enter Try.func170, Try.ntmps170
    go_wp2
    go_ret
    exact ⟨ret_bool HV.out.symm, Below.refl _ _⟩
end Go.Proofs.Ytknhacblialboaa


/-
  Contracts of the program's tests of one node: isRoom, isTime, isMode, isId, what all inodes have, the four kinds' isGood, isGoodEntry, isGoodNode.
  Conditions: the node's cells read as plain data; a list of at most 2^20 entries.
-/
namespace Go.Proofs.Ytknhacblialboaa
open Go.ChangeShapes Go.WideShapes Go.ChangeAt Go.RowKit Go.Joins
set_option linter.unusedVariables false
set_option linter.unusedSimpArgs false

section
set_option maxHeartbeats 400000
theorem isRoom_any (n : Int) (w : World) : Calls Try.prog 81 #[.int .i64 n] w fun e w' => e = .returned (.bool (inB 0 1000 n)) ∧ w = w' := by
  by_cases h0 : 0 ≤ n
  · by_cases h1 : n ≤ 1000
    · go_enter Try.func81, Try.ntmps81
      go_wp2
      go_ret
      exact ⟨ret_bool (inB_mk h0 h1), rfl⟩
    · go_enter Try.func81, Try.ntmps81
      go_wp2
      go_ret
      exact ⟨ret_bool (inB_no (by omega)), rfl⟩
  · go_enter Try.func81, Try.ntmps81
    go_wp2
    go_ret
    exact ⟨ret_bool (inB_no (by omega)), rfl⟩
theorem isTime_any (n : Int) (w : World) : Calls Try.prog 163 #[.int .i64 n] w fun e w' => e = .returned (.bool (inB 0 1000000 n)) ∧ w = w' := by
  by_cases h0 : 0 ≤ n
  · by_cases h1 : n ≤ 1000000
    · go_enter Try.func163, Try.ntmps163
      go_wp2
      go_ret
      exact ⟨ret_bool (inB_mk h0 h1), rfl⟩
    · go_enter Try.func163, Try.ntmps163
      go_wp2
      go_ret
      exact ⟨ret_bool (inB_no (by omega)), rfl⟩
  · go_enter Try.func163, Try.ntmps163
    go_wp2
    go_ret
    exact ⟨ret_bool (inB_no (by omega)), rfl⟩
theorem isModeN_any (n : Int) (w : World) : Calls Try.prog 161 #[.int .i64 n] w fun e w' => e = .returned (.bool (inB 0 511 n)) ∧ w = w' := by
  by_cases h0 : 0 ≤ n
  · by_cases h1 : n ≤ 511
    · go_enter Try.func161, Try.ntmps161
      go_wp2
      go_ret
      exact ⟨ret_bool (inB_mk h0 h1), rfl⟩
    · go_enter Try.func161, Try.ntmps161
      go_wp2
      go_ret
      exact ⟨ret_bool (inB_no (by omega)), rfl⟩
  · go_enter Try.func161, Try.ntmps161
    go_wp2
    go_ret
    exact ⟨ret_bool (inB_no (by omega)), rfl⟩
theorem isIdN_any (n : Int) (w : World) : Calls Try.prog 162 #[.int .i64 n] w fun e w' => e = .returned (.bool (inB 0 99 n)) ∧ w = w' := by
  by_cases h0 : 0 ≤ n
  · by_cases h1 : n ≤ 99
    · go_enter Try.func162, Try.ntmps162
      go_wp2
      go_ret
      exact ⟨ret_bool (inB_mk h0 h1), rfl⟩
    · go_enter Try.func162, Try.ntmps162
      go_wp2
      go_ret
      exact ⟨ret_bool (inB_no (by omega)), rfl⟩
  · go_enter Try.func162, Try.ntmps162
    go_wp2
    go_ret
    exact ⟨ret_bool (inB_no (by omega)), rfl⟩
end

def attrB (q : Nod) : Bool := inB 0 511 q.mode && (inB 0 99 q.uid && (inB 0 99 q.gid && inB 0 1000000 q.time))
def noneB (q : Nod) : Bool := q.mode == 0 && (q.uid == 0 && (q.gid == 0 && q.time == 0))

set_option maxHeartbeats 1000000 in
theorem hasAttr_any (q : Nod) (lv : Value) (g p : Nat) (w : World) (hg : g < w.heap.size) (hc : NodC w g p lv q) : Calls Try.prog 155 #[.agg #[.pointer (some ⟨g, p, none⟩)]] w fun e w' => e = .returned (.bool (attrB q)) ∧ Below w.heap.size w w' := by
  have hB : ∀ o, Below w.heap.size w (w.alloc o) := fun o => (Below.refl _ _).alloc (Nat.le_refl _) _
  have HB := Lib.hid hB
  obtain ⟨d0, d1, d2, d3, d4, d5, d6⟩ := hc.below (hB (.cells #[.pointer (some ⟨g, p, none⟩)] 163)) hg
  clear hB
  go_enter Try.func155, Try.ntmps155
  go_wp2_with (first | (go_at_call 161; refine (isModeN_any _ _).mono ?_; rintro e w' ⟨rfl, rfl⟩) | (go_at_call 162; refine (isIdN_any _ _).mono ?_; rintro e w' ⟨rfl, rfl⟩) | (go_at_call 163; refine (isTime_any _ _).mono ?_; rintro e w' ⟨rfl, rfl⟩))
  all_goals
    go_ret
    refine ⟨ret_bool ?_, HB.out _⟩
    simp [attrB, *]

set_option maxHeartbeats 1000000 in
theorem hasNone_any (q : Nod) (lv : Value) (g p : Nat) (w : World) (hg : g < w.heap.size) (hc : NodC w g p lv q) : Calls Try.prog 157 #[.agg #[.pointer (some ⟨g, p, none⟩)]] w fun e w' => e = .returned (.bool (noneB q)) ∧ Below w.heap.size w w' := by
  have hB : ∀ o, Below w.heap.size w (w.alloc o) := fun o => (Below.refl _ _).alloc (Nat.le_refl _) _
  have HB := Lib.hid hB
  obtain ⟨d0, d1, d2, d3, d4, d5, d6⟩ := hc.below (hB (.cells #[.pointer (some ⟨g, p, none⟩)] 163)) hg
  clear hB
  go_enter Try.func157, Try.ntmps157
  go_wp2
  all_goals
    go_ret
    refine ⟨ret_bool ?_, HB.out _⟩
    simp [noneB, *]

theorem len_pos {l : List UInt8} : (decide (0 < (bs l).size)) = !l.isEmpty := by
  rw [bs_size]
  cases l <;> simp

set_option maxHeartbeats 1000000 in
theorem hasData_any (q : Nod) (lv : Value) (g p : Nat) (w : World) (hg : g < w.heap.size) (hc : NodC w g p lv q) : Calls Try.prog 158 #[.agg #[.pointer (some ⟨g, p, none⟩)]] w fun e w' => e = .returned (.bool (!q.data.isEmpty)) ∧ Below w.heap.size w w' := by
  have hB : ∀ o, Below w.heap.size w (w.alloc o) := fun o => (Below.refl _ _).alloc (Nat.le_refl _) _
  have HB := Lib.hid hB
  obtain ⟨d0, d1, d2, d3, d4, d5, d6⟩ := hc.below (hB (.cells #[.pointer (some ⟨g, p, none⟩)] 163)) hg
  have HL := Lib.hid (len_pos (l := q.data))
  clear hB
  go_enter Try.func158, Try.ntmps158
  go_wp2
  all_goals
    go_ret
    refine ⟨ret_bool ?_, HB.out _⟩
    rw [← HL.out]

set_option maxHeartbeats 1000000 in
theorem hasList_any (q : Nod) (lv : Value) (g p : Nat) (w : World) (hg : g < w.heap.size) (hc : NodC w g p lv q) (hE : EntsA w lv q.list) : Calls Try.prog 159 #[.agg #[.pointer (some ⟨g, p, none⟩)]] w fun e w' => e = .returned (.bool (!q.list.isEmpty)) ∧ Below w.heap.size w w' := by
  have hB : ∀ o, Below w.heap.size w (w.alloc o) := fun o => (Below.refl _ _).alloc (Nat.le_refl _) _
  have HB := Lib.hid hB
  obtain ⟨o2, c2, rfl, -, -⟩ := hE
  obtain ⟨d0, d1, d2, d3, d4, d5, d6⟩ := hc.below (hB (.cells #[.pointer (some ⟨g, p, none⟩)] 163)) hg
  have HL : Hid (decide (0 < q.list.length) = !q.list.isEmpty) := Lib.hid (by cases q.list <;> simp)
  clear hB
  go_enter Try.func159, Try.ntmps159
  go_wp2
  all_goals
    go_ret
    refine ⟨ret_bool ?_, HB.out _⟩
    rw [← HL.out]
end Go.Proofs.Ytknhacblialboaa


/-
  Contracts of the program's isGoodEntry, of the four kinds' isGood, of isGoodNode.
  Conditions: the node's cells read as plain data; a list of at most 2^20 entries.
-/

namespace Go.Proofs.Ytknhacblialboaa
open Go.ChangeShapes Go.WideShapes Go.ChangeAt Go.RowKit Go.Joins
set_option linter.unusedVariables false
set_option linter.unusedSimpArgs false

theorem goodName_is {l : List UInt8} {b : Bool} (h : nameB l = b) (s : ByteArray) (hs : s = bs l) (w : World) : Calls Try.prog 166 #[.string s] w fun e w' => e = .returned (.bool b) ∧ Below w.heap.size w w' :=
  (goodName_any s w).mono fun e w' ⟨h1, h2⟩ => ⟨by rw [h1, hs, ← h]; simp [bs], h2⟩

set_option maxHeartbeats 1000000 in
theorem isGoodEntry_any (e : Ent) (count : Int) (s : ByteArray) (w : World) (hs : s = bs e.name) : Calls Try.prog 165 #[.agg #[.string s, .int .i64 e.node], .int .i64 count] w fun x w' => x = .returned (.bool (nameB e.name && inB 0 (count - 1) e.node)) ∧ Below w.heap.size w w' := by
  obtain ⟨nm, r⟩ := e
  simp only at hs ⊢
  have HS := Lib.hid hs
  have hb0 : Below w.heap.size w (w.alloc (.cells #[.string s, .int .i64 r] 93)) := (Below.refl _ _).alloc (Nat.le_refl _) _
  have HB := Lib.hid hb0
  have HK := Lib.hid (heap_alloc_new w (.cells #[.string s, .int .i64 r] 93))
  clear hs hb0
  by_cases hn : nameB nm = true
  · have HN := Lib.hid hn
    by_cases h0 : 0 ≤ r
    · by_cases h1 : r < count
      · have HF : Hid (true = (nameB nm && inB 0 (count - 1) r)) := Lib.hid (by rw [hn, ← inB_mk h0 (by omega)]; rfl)
        clear hn
        go_enter Try.func165, Try.ntmps165
        go_wp2_with fail
        refine (goodName_is HN.out _ HS.out _).mono ?_
        rintro e w1 ⟨rfl, hb1⟩
        have HB1 := Lib.hid (HB.out.trans (hb1.mono HB.out.size))
        have k1 := (hb1.block w.heap.size (lt_of_heap HK.out)).trans HK.out
        have x1 := (cell_blk k1 1).trans rfl
        clear hb1 k1
        go_wp2
        go_ret
        exact ⟨ret_bool HF.out, HB1.out⟩
      · have HF : Hid (false = (nameB nm && inB 0 (count - 1) r)) := Lib.hid (by rw [hn, ← inB_no (.inr (by omega))]; rfl)
        clear hn
        go_enter Try.func165, Try.ntmps165
        go_wp2_with fail
        refine (goodName_is HN.out _ HS.out _).mono ?_
        rintro e w1 ⟨rfl, hb1⟩
        have HB1 := Lib.hid (HB.out.trans (hb1.mono HB.out.size))
        have k1 := (hb1.block w.heap.size (lt_of_heap HK.out)).trans HK.out
        have x1 := (cell_blk k1 1).trans rfl
        clear hb1 k1
        go_wp2
        go_ret
        exact ⟨ret_bool (by rw [← HF.out]; simp [h1]), HB1.out⟩
    · have HF : Hid (false = (nameB nm && inB 0 (count - 1) r)) := Lib.hid (by rw [hn, ← inB_no (.inl (by omega))]; rfl)
      clear hn
      go_enter Try.func165, Try.ntmps165
      go_wp2_with fail
      refine (goodName_is HN.out _ HS.out _).mono ?_
      rintro e w1 ⟨rfl, hb1⟩
      have HB1 := Lib.hid (HB.out.trans (hb1.mono HB.out.size))
      have k1 := (hb1.block w.heap.size (lt_of_heap HK.out)).trans HK.out
      have x1 := (cell_blk k1 1).trans rfl
      clear hb1 k1
      go_wp2
      go_ret
      exact ⟨ret_bool HF.out, HB1.out⟩
  · have HN : Hid (nameB nm = false) := Lib.hid (by simpa using hn)
    have HF : Hid (false = (nameB nm && inB 0 (count - 1) r)) := Lib.hid (by rw [HN.out]; rfl)
    clear hn
    go_enter Try.func165, Try.ntmps165
    go_wp2_with fail
    refine (goodName_is HN.out _ HS.out _).mono ?_
    rintro e w1 ⟨rfl, hb1⟩
    have HB1 := Lib.hid (HB.out.trans (hb1.mono HB.out.size))
    clear hb1
    go_wp2
    go_ret
    exact ⟨ret_bool HF.out, HB1.out⟩

set_option maxHeartbeats 2000000 in
theorem freeGood_any (q : Nod) (lv : Value) (g p : Nat) (cn : Int) (w : World) (hg : g < w.heap.size) (hc : NodC w g p lv q) (hE : EntsA w lv q.list) : Calls Try.prog 156 #[.agg #[.pointer (some ⟨g, p, none⟩)], .int .i64 cn] w fun e w' => e = .returned (.bool (noneB q && (q.data.isEmpty && q.list.isEmpty))) ∧ Below w.heap.size w w' := by
  have hb0 : Below w.heap.size w (w.alloc (.cells #[.pointer (some ⟨g, p, none⟩)] 165)) := (Below.refl _ _).alloc (Nat.le_refl _) _
  have HB := Lib.hid hb0
  have HK := Lib.hid (heap_alloc_new w (.cells #[.pointer (some ⟨g, p, none⟩)] 165))
  have HC := Lib.hid hc
  have HE := Lib.hid hE
  clear hb0 hc hE
  by_cases h1 : noneB q = true
  · have H1 := Lib.hid h1
    by_cases h2 : q.data.isEmpty = true
    · have H2 : Hid ((!q.data.isEmpty) = false) := Lib.hid (by rw [h2]; rfl)
      have HF : Hid ((noneB q && (q.data.isEmpty && q.list.isEmpty)) = q.list.isEmpty) := Lib.hid (by rw [h1, h2]; rfl)
      clear h1 h2
      go_enter Try.func156, Try.ntmps156
      go_wp2_with fail
      refine (hasNone_any q lv g p _ (Nat.lt_of_lt_of_le hg HB.out.size) (HC.out.below HB.out hg)).mono ?_
      rintro e w1 ⟨rfl, hb1⟩
      rw [H1.out]
      have HB1 := Lib.hid (HB.out.trans (hb1.mono HB.out.size))
      have HK1 := Lib.hid ((hb1.block w.heap.size (lt_of_heap HK.out)).trans HK.out)
      have x1 := (cell_blk HK1.out 0).trans rfl
      clear hb1
      go_wp2_with fail
      refine (hasData_any q lv g p _ (Nat.lt_of_lt_of_le hg HB1.out.size) (HC.out.below HB1.out hg)).mono ?_
      rintro e w2 ⟨rfl, hb2⟩
      rw [H2.out]
      have HB2 := Lib.hid (HB1.out.trans (hb2.mono HB1.out.size))
      have HK2 := Lib.hid ((hb2.block w.heap.size (lt_of_heap HK1.out)).trans HK1.out)
      have x2 := (cell_blk HK2.out 0).trans rfl
      clear hb2
      go_wp2_with fail
      refine (hasList_any q lv g p _ (Nat.lt_of_lt_of_le hg HB2.out.size) (HC.out.below HB2.out hg) (HE.out.below HB2.out)).mono ?_
      rintro e w3 ⟨rfl, hb3⟩
      have HB3 := Lib.hid (HB2.out.trans (hb3.mono HB2.out.size))
      clear hb3
      go_wp2
      go_ret
      exact ⟨ret_bool (by rw [HF.out]), HB3.out⟩
    · have H2 : Hid ((!q.data.isEmpty) = true) := Lib.hid (by simpa using h2)
      have HF : Hid ((noneB q && (q.data.isEmpty && q.list.isEmpty)) = false) := Lib.hid (by rw [h1, show q.data.isEmpty = false by simpa using h2]; rfl)
      clear h1 h2
      go_enter Try.func156, Try.ntmps156
      go_wp2_with fail
      refine (hasNone_any q lv g p _ (Nat.lt_of_lt_of_le hg HB.out.size) (HC.out.below HB.out hg)).mono ?_
      rintro e w1 ⟨rfl, hb1⟩
      rw [H1.out]
      have HB1 := Lib.hid (HB.out.trans (hb1.mono HB.out.size))
      have HK1 := Lib.hid ((hb1.block w.heap.size (lt_of_heap HK.out)).trans HK.out)
      have x1 := (cell_blk HK1.out 0).trans rfl
      clear hb1
      go_wp2_with fail
      refine (hasData_any q lv g p _ (Nat.lt_of_lt_of_le hg HB1.out.size) (HC.out.below HB1.out hg)).mono ?_
      rintro e w2 ⟨rfl, hb2⟩
      rw [H2.out]
      have HB2 := Lib.hid (HB1.out.trans (hb2.mono HB1.out.size))
      clear hb2
      go_wp2
      go_ret
      exact ⟨ret_bool HF.out.symm, HB2.out⟩
  · have H1 : Hid (noneB q = false) := Lib.hid (by simpa using h1)
    have HF : Hid ((noneB q && (q.data.isEmpty && q.list.isEmpty)) = false) := Lib.hid (by rw [H1.out]; rfl)
    clear h1
    go_enter Try.func156, Try.ntmps156
    go_wp2_with fail
    refine (hasNone_any q lv g p _ (Nat.lt_of_lt_of_le hg HB.out.size) (HC.out.below HB.out hg)).mono ?_
    rintro e w1 ⟨rfl, hb1⟩
    rw [H1.out]
    have HB1 := Lib.hid (HB.out.trans (hb1.mono HB.out.size))
    clear hb1
    go_wp2
    go_ret
    exact ⟨ret_bool HF.out.symm, HB1.out⟩
end Go.Proofs.Ytknhacblialboaa


/-
  The model's l3Good: when a file system is good.
  Conditions: at most 2^20 values and letters together.
-/
namespace Go.Proofs.Ytknhacblialboaa
open Go.ChangeShapes Go.WideShapes Go.ChangeAt Go.RowKit Go.Joins
set_option linter.unusedVariables false

/-- What the last test asks of node k. -/
def TailOk (ns : List Nod) (k : Nat) : Prop := (k = 0 → links 0 ns = 0) ∧ (0 < k → kindAt ns k = 2 → links k ns = 1) ∧ (kindAt ns k ≠ 0 → Reach ns 0 k)
def GoodF (f : FsD) : Prop :=
  inB 1 40 (f.nodes.length : Int) = true ∧ inB 0 1000 f.room = true ∧ (sumD f.nodes : Int) ≤ f.room ∧ kindAt f.nodes 0 = 2 ∧ (∀ n ∈ f.nodes, nodOk f.nodes n = true) ∧ ∀ k, k < f.nodes.length → TailOk f.nodes k
open Classical in
noncomputable def goodF (f : FsD) : Bool := decide (GoodF f)
theorem goodF_no {f : FsD} (h : ¬ GoodF f) : false = goodF f := by unfold goodF; simp [h]
theorem goodF_yes {f : FsD} (h : GoodF f) : true = goodF f := by unfold goodF; simp [h]

theorem lead_of {ns : List Nod} (h : ∀ n ∈ ns, nodOk ns n = true) : Lead ns := by
  intro n hn e he
  have h1 := h n hn
  have hne : n.list.isEmpty = false := by cases hl : n.list <;> simp_all
  unfold nodOk at h1
  have h2 : entsOk ns n.list = true := by
    split at h1
    · simp [hne] at h1
    · split at h1
      · simp [hne] at h1
      · split at h1
        · simp at h1; exact h1.2.2.2.2.2
        · simp [hne] at h1
  obtain ⟨i, hi, rfl⟩ := List.getElem_of_mem he
  unfold entsOk at h2
  rw [List.all_eq_true] at h2
  have h3 := h2 i (List.mem_range.2 hi)
  unfold entOk at h3
  simp only [Bool.and_eq_true] at h3
  have e1 : n.list.getD i ⟨[], 0⟩ = n.list[i] := by simp [List.getD, hi]
  rw [e1] at h3
  have := inB_t h3.1.2
  omega

set_option maxHeartbeats 8000000 in
theorem l3Good_any (f : FsD) (v : Value) (w : World) (hR : FsA w v f) (hs : szF f ≤ 1048576) : Calls Try.prog 52 #[v] w fun e w' => e = .returned (.bool (goodF f)) ∧ Below w.heap.size w w' := by
  have HR := Lib.hid hR
  obtain ⟨nv, rfl, hN⟩ := hR
  obtain ⟨o, c, rfl, hm, hH⟩ := hN
  have HH := Lib.hid hH
  clear hH
  unfold maxLen at hm
  have HSZ := Lib.hid hs
  have hsum : sumD f.nodes ≤ 1048576 := by have := sumD_le f.nodes; unfold szF at hs; omega
  have hl : f.nodes.length ≤ 1048576 := (lists_small hs).1
  have HL : Hid (∀ n ∈ f.nodes, n.list.length ≤ 1048576 ∧ n.data.length ≤ 1048576 ∧ lensE n.list ≤ 1048576) := Lib.hid (lists_small hs).2
  clear hs
  have hbw : Below w.heap.size w (w.alloc (.cells #[.slice o f.nodes.length c, .int .i64 f.room] 31)) := (Below.refl _ _).alloc (Nat.le_refl _) _
  have hk0 := heap_alloc_new w (.cells #[.slice o f.nodes.length c, .int .i64 f.room] 31)
  go_enter Try.func52, Try.ntmps52
  go_wp2
  obtain ⟨W1, hW1⟩ : ∃ W1, w.alloc (.cells #[.slice o f.nodes.length c, .int .i64 f.room] 31) = W1 := ⟨_, rfl⟩
  rw [hW1] at hbw hk0 ⊢
  have s0 := (cell_blk hk0 0).trans rfl
  have s1 := (cell_blk hk0 1).trans rfl
  have z0 := fun d os => cell_regrown (w := W1) s0 d os
  have z1 := fun d os => cell_regrown (w := W1) s1 d os
  have HB1 := Lib.hid hbw
  have HK1 := Lib.hid hk0
  have HF1 := Lib.hid (HR.out.below hbw)
  clear hW1 hbw hk0
  by_cases c1 : inB 1 40 (f.nodes.length : Int) = true
  · have HC1 := Lib.hid c1
    have hpos : 0 < f.nodes.length := by have := inB_t c1; omega
    by_cases c2 : inB 0 1000 f.room = true
    · have HC2 := Lib.hid c2
      by_cases c3 : (sumD f.nodes : Int) ≤ f.room
      · obtain ⟨g, off, lv0, rfl, hg, hcc, -, -⟩ := HH.out 0 hpos
        have d0 := (HB1.out.cell (p := ⟨g, off + 0 * 7, none⟩) hg).trans hcc.c0
        rw [Nat.zero_mul, Nat.add_zero] at d0
        obtain ⟨kd, hkd⟩ : ∃ kd, kd = f.nodes[0].kind := ⟨_, rfl⟩
        rw [← hkd] at d0
        have HKD : Hid (kindAt f.nodes 0 = kd) := Lib.hid (by rw [hkd]; simp [kindAt, List.getD, hpos])
        have z3 := fun d os => cell_regrown (w := W1) d0 d os
        clear hcc hkd c1 c2
        by_cases c4 : kd = 2
        · subst c4
          refine wp_region_quiet_below (by kernel_rfl) (by kernel_rfl) ?_
          repeat (first | go_big_quiet_step ((first | (go_at_call 75; exact Calls.regrown_of (l1In_is (by first | exact HC1.out | exact HC2.out) _)) | (go_at_call 42; exact Calls.regrown_of (l3Bytes_any f _ _ (HF1.out.below (below_regrown _ _ _)) HSZ.out)))) | quiet_step ((first | (go_at_call 75; exact Calls.regrown_of (l1In_is (by first | exact HC1.out | exact HC2.out) _)) | (go_at_call 42; exact Calls.regrown_of (l3Bytes_any f _ _ (HF1.out.below (below_regrown _ _ _)) HSZ.out)))))
          refine wpQuiet_nil ?_
          intro w5 hwq
          have hb5 : Below W1.heap.size W1 w5 := by
            obtain ⟨pp, rfl⟩ := hwq
            exact below_regrown _ _ _
          have HB5 := Lib.hid (HB1.out.trans (hb5.mono HB1.out.size))
          have HK5 := Lib.hid ((hb5.block w.heap.size (lt_of_heap HK1.out)).trans HK1.out)
          clear hwq hb5
          have b0 := (cell_blk HK5.out 0).trans rfl
          have b1 := (cell_blk HK5.out 1).trans rfl
          clear z0 z1 z3 d0 s0 s1
          go_wp2
          go_loopw [38] (fun i wr => ∃ k : Nat, k ≤ f.nodes.length ∧ i = .int .i64 k ∧ Below w.heap.size w wr ∧ wr.heap[w.heap.size]? = some (.cells #[.slice (some ⟨g, off, none⟩) f.nodes.length c, .int .i64 f.room] 31) ∧ ∀ j (hj : j < f.nodes.length), j < k → nodOk f.nodes f.nodes[j] = true) (fun i _ => f.nodes.length - (intOf i).toNat)
          case atStart => exact ⟨0, Nat.zero_le _, rfl, HB5.out, HK5.out, fun j hj h => absurd h (Nat.not_lt_zero _)⟩
          case round =>
            obtain ⟨k, hk, rfl, hB, hb, hj⟩ := hrel
            have HJ := Lib.hid hj
            clear hj b0 b1
            by_cases hlt : k < f.nodes.length
            · obtain ⟨g3, f3, lv, e3, hg3, hcc, he, hml⟩ := HH.out k hlt
              obtain ⟨rfl, rfl⟩ : g = g3 ∧ off = f3 := by simpa using e3
              obtain ⟨d0, d1, d2, d3, d4, d5, d6⟩ := hcc.below hB hg3
              have hq2 := HL.out f.nodes[k] (List.getElem_mem hlt)
              obtain ⟨q, hqq⟩ : ∃ q, q = f.nodes[k] := ⟨_, rfl⟩
              have HQ := Lib.hid hqq
              rw [← hqq] at d0 d1 d2 d3 d4 d5 he hq2
              have HE0 := Lib.hid he
              obtain ⟨o2, c2, rfl, -, -⟩ := id he
              obtain ⟨hq3, hq4, -⟩ := hq2
              have HA1 : Hid (∀ oo, Below w.heap.size w (wr.alloc oo)) := Lib.hid (fun oo => hB.alloc hB.size oo)
              have hb3 : (wr.alloc (.cells #[.int .i64 q.kind, .int .i64 q.mode, .int .i64 q.uid, .int .i64 q.gid, .int .i64 q.time, .string (bs q.data), .slice o2 q.list.length c2] 70)).heap[w.heap.size]? = some (.cells #[.slice (some ⟨g, off, none⟩) f.nodes.length c, .int .i64 f.room] 31) := (Below.heap_alloc _ _ _ (lt_of_heap hb)).trans hb
              have HB3 := Lib.hid hb3
              have t0 := (cell_blk hb3 0).trans rfl
              have t1 := (cell_blk hb3 1).trans rfl
              have b0 := (cell_blk hb 0).trans rfl
              have b1 := (cell_blk hb 1).trans rfl
              clear hcc hml hqq he hb3 e3
              by_cases hno : nodOk f.nodes q = true
              · have HNO := Lib.hid hno
                have HJ2 : Hid (∀ j (hj : j < f.nodes.length), j < k + 1 → nodOk f.nodes f.nodes[j] = true) := Lib.hid (by
                  intro j hj h
                  rcases Nat.lt_succ_iff_lt_or_eq.1 h with h1 | rfl
                  · exact HJ.out j hj h1
                  · rw [← HQ.out]; exact HNO.out)
                go_wp2_with fail
                refine (l3Node_any f q _ _ _ (HR.out.below (HA1.out _)) (HE0.out.below (HA1.out _)) hl hq3 hq4).mono ?_
                rintro e w6 ⟨rfl, hb6⟩
                rw [HNO.out]
                have HB6 := Lib.hid ((HA1.out _).trans (hb6.mono (HA1.out _).size))
                have HK6 := Lib.hid ((hb6.block w.heap.size (lt_of_heap HB3.out)).trans HB3.out)
                clear hb6
                go_wp2
                go_roundw
                case rel => exact ⟨k + 1, hlt, by go_num, HB6.out, HK6.out, HJ2.out⟩
                case measure => simp [intOf]; omega
              · have HNO : Hid (nodOk f.nodes q = false) := Lib.hid (by simpa using hno)
                have HF : Hid (¬ GoodF f) := Lib.hid (fun h => hno (by rw [HQ.out]; exact h.2.2.2.2.1 _ (List.getElem_mem hlt)))
                go_wp2_with fail
                refine (l3Node_any f q _ _ _ (HR.out.below (HA1.out _)) (HE0.out.below (HA1.out _)) hl hq3 hq4).mono ?_
                rintro e w6 ⟨rfl, hb6⟩
                rw [HNO.out]
                have HB6 := Lib.hid ((HA1.out _).trans (hb6.mono (HA1.out _).size))
                clear hb6
                go_wp2
                go_ret
                exact ⟨ret_bool (goodF_no HF.out), HB6.out⟩
            · have HALL : Hid (∀ n ∈ f.nodes, nodOk f.nodes n = true) := Lib.hid (by
                intro n hn
                obtain ⟨j, hj, rfl⟩ := List.getElem_of_mem hn
                exact HJ.out j hj (by omega))
              have HLD := Lib.hid (lead_of HALL.out)
              have b0 := (cell_blk hb 0).trans rfl
              have b1 := (cell_blk hb 1).trans rfl
              have HB7 := Lib.hid hB
              go_wp2_with fail
              refine (l3Met_any f HLD.out hl (fun n hn => (HL.out n hn).1) _ [] 0 _ _ _ rfl (HR.out.below hB) (RdI.nil _) ⟨List.nodup_nil, by simp⟩ (by omega) (by omega)).mono ?_
              rintro e w7 ⟨v7, M7, rfl, hR7, hM7, hb7⟩
              have HM7 : Hid (∀ x, x ∈ M7 ↔ Reach f.nodes 0 x) := Lib.hid hM7.all
              have hl7 := hM7.nums.len
              have HB8 := Lib.hid (hB.trans (hb7.mono hB.size))
              have HK8 := Lib.hid ((hb7.block w.heap.size (lt_of_heap hb)).trans hb)
              have HR7 := Lib.hid hR7
              obtain ⟨o7, c7, rfl, -, -, -, -⟩ := hR7
              have t0 := (cell_blk HK8.out 0).trans rfl
              have t1 := (cell_blk HK8.out 1).trans rfl
              clear b0 b1 hM7 hb7 hB hb
              go_wp2
              go_loopw [52] (fun i wr => ∃ k : Nat, k ≤ f.nodes.length ∧ i = .int .i64 k ∧ Below w.heap.size w wr ∧ wr.heap[w.heap.size]? = some (.cells #[.slice (some ⟨g, off, none⟩) f.nodes.length c, .int .i64 f.room] 31) ∧ RdI wr (.slice o7 M7.length c7) M7 ∧ ∀ j, j < k → TailOk f.nodes j) (fun i _ => f.nodes.length - (intOf i).toNat)
              case atStart => exact ⟨0, Nat.zero_le _, rfl, HB8.out, HK8.out, HR7.out, fun j h => absurd h (Nat.not_lt_zero _)⟩
              case round =>
                obtain ⟨k, hk, rfl, hB, hb, hRr, hj⟩ := hrel
                have HJ := Lib.hid hj
                have HRr := Lib.hid hRr
                clear hj hRr t0 t1
                by_cases hlt : k < f.nodes.length
                · obtain ⟨g3, f3, lv, e3, hg3, hcc, he, hml⟩ := HH.out k hlt
                  obtain ⟨rfl, rfl⟩ : g = g3 ∧ off = f3 := by simpa using e3
                  obtain ⟨d0, d1, d2, d3, d4, d5, d6⟩ := hcc.below hB hg3
                  obtain ⟨q, hqq⟩ : ∃ q, q = f.nodes[k] := ⟨_, rfl⟩
                  have HKq : Hid (kindAt f.nodes (k : Int) = q.kind) := Lib.hid (by rw [hqq]; simp [kindAt, List.getD, hlt])
                  rw [← hqq] at d0 d1 d2 d3 d4 d5 he
                  obtain ⟨o2, c2, rfl, -, -⟩ := id he
                  have HA1 : Hid (∀ oo, Below w.heap.size w (wr.alloc oo)) := Lib.hid (fun oo => hB.alloc hB.size oo)
                  have HA2 : Hid (∀ oo, Below wr.heap.size wr (wr.alloc oo)) := Lib.hid (fun oo => (Below.refl _ _).alloc (Nat.le_refl _) _)
                  have hb3 : (wr.alloc (.cells #[.int .i64 q.kind, .int .i64 q.mode, .int .i64 q.uid, .int .i64 q.gid, .int .i64 q.time, .string (bs q.data), .slice o2 q.list.length c2] 70)).heap[w.heap.size]? = some (.cells #[.slice (some ⟨g, off, none⟩) f.nodes.length c, .int .i64 f.room] 31) := (Below.heap_alloc _ _ _ (lt_of_heap hb)).trans hb
                  have HB3 := Lib.hid hb3
                  have t0 := (cell_blk hb3 0).trans rfl
                  have t1 := (cell_blk hb3 1).trans rfl
                  have b0 := (cell_blk hb 0).trans rfl
                  have b1 := (cell_blk hb 1).trans rfl
                  have hln : links (k : Int) f.nodes ≤ 1048576 := by have h9 := links_le (k : Int) f.nodes; have h8 := HSZ.out; unfold szF at h8; omega
                  obtain ⟨N, hN⟩ : ∃ N, links (k : Int) f.nodes = N := ⟨_, rfl⟩
                  rw [hN] at hln
                  have HN := Lib.hid hN
                  clear hcc hml hqq he hb3 e3 hN
                  go_wp2_with fail
                  refine (l3Links_any f _ _ _ (HR.out.below (HA1.out _)) HSZ.out).mono ?_
                  rintro e w9 ⟨rfl, hb9⟩
                  rw [HN.out]
                  have HB9 := Lib.hid ((HA1.out _).trans (hb9.mono (HA1.out _).size))
                  have HK9 := Lib.hid ((hb9.block w.heap.size (lt_of_heap HB3.out)).trans HB3.out)
                  have HR9 := Lib.hid ((HRr.out.below (HA2.out _)).below hb9)
                  have y0 := (cell_blk ((hb9.block wr.heap.size (by simp)).trans (heap_alloc_new wr (.cells #[.int .i64 q.kind, .int .i64 q.mode, .int .i64 q.uid, .int .i64 q.gid, .int .i64 q.time, .string (bs q.data), .slice o2 q.list.length c2] 70))) 0).trans rfl
                  clear hb9 d0 d1 d2 d3 d4 d5 d6 t0 t1 b0 b1 HA1 HA2
                  rcases Nat.eq_zero_or_pos k with rfl | hpk
                  · by_cases hn0 : N = 0
                    · subst hn0
                      by_cases hz : q.kind = 0
                      · have HT : Hid (TailOk f.nodes (0)) := Lib.hid ⟨fun _ => HN.out, fun h => absurd h (Nat.lt_irrefl 0), fun h => absurd (HKq.out.trans hz) h⟩
                        have zb : (q.kind != 0) = false := by simpa using hz
                        have zc : (q.kind == 0) = true := by simpa using hz
                        have HJ2 : Hid (∀ i, i < 0 + 1 → TailOk f.nodes i) := Lib.hid (by
                          intro i h
                          rcases Nat.lt_succ_iff_lt_or_eq.1 h with h1 | rfl
                          · exact HJ.out i h1
                          · exact HT.out)
                        go_wp2
                        go_roundw
                        case rel => exact ⟨0 + 1, hlt, by go_num, HB9.out, HK9.out, HR9.out, HJ2.out⟩
                        case measure => simp [intOf]; omega
                      · have zb : (q.kind != 0) = true := by simpa using hz
                        have zc : (q.kind == 0) = false := by simpa using hz
                        by_cases hh : hasI M7 ((0 : Nat) : Int) = true
                        · have HHAS := Lib.hid hh
                          have HT : Hid (TailOk f.nodes (0)) := Lib.hid ⟨fun _ => HN.out, fun h => absurd h (Nat.lt_irrefl 0), fun _ => (HM7.out _).1 (hasI_iff.1 hh)⟩
                          have HJ2 : Hid (∀ i, i < 0 + 1 → TailOk f.nodes i) := Lib.hid (by
                            intro i h
                            rcases Nat.lt_succ_iff_lt_or_eq.1 h with h1 | rfl
                            · exact HJ.out i h1
                            · exact HT.out)
                          go_wp2_with fail
                          refine (l1Has_any M7 _ _ _ HR9.out (by omega)).mono ?_
                          rintro e w10 ⟨rfl, rfl⟩
                          first | rw [HHAS.out] | rw [show hasI M7 0 = _ from HHAS.out]
                          go_wp2
                          go_roundw
                          case rel => exact ⟨0 + 1, hlt, by go_num, HB9.out, HK9.out, HR9.out, HJ2.out⟩
                          case measure => simp [intOf]; omega
                        · have HHAS : Hid (hasI M7 ((0 : Nat) : Int) = false) := Lib.hid (by simpa using hh)
                          have HF : Hid (¬ GoodF f) := Lib.hid (fun h => by have ht := h.2.2.2.2.2 (0) hlt; exact hh (hasI_iff.2 ((HM7.out _).2 (ht.2.2 (by rw [HKq.out]; exact hz)))))
                          go_wp2_with fail
                          refine (l1Has_any M7 _ _ _ HR9.out (by omega)).mono ?_
                          rintro e w10 ⟨rfl, rfl⟩
                          first | rw [HHAS.out] | rw [show hasI M7 0 = _ from HHAS.out]
                          go_wp2
                          go_ret
                          exact ⟨ret_bool (goodF_no HF.out), HB9.out⟩
                    · have hn1 : 0 < N := by omega
                      have HF : Hid (¬ GoodF f) := Lib.hid (fun h => by have ht := h.2.2.2.2.2 (0) hlt; exact hn0 (by rw [← HN.out]; exact ht.1 rfl))
                      go_wp2
                      go_ret
                      exact ⟨ret_bool (goodF_no HF.out), HB9.out⟩
                  · obtain ⟨j, rfl⟩ : ∃ j, k = j + 1 := ⟨k - 1, by omega⟩
                    by_cases hk2 : q.kind = 2
                    · have kb : (q.kind == 2) = true := by simpa using hk2
                      by_cases hn1 : N = 1
                      · subst hn1
                        by_cases hz : q.kind = 0
                        · exact absurd (hk2.symm.trans hz) (by decide)
                        · have zb : (q.kind != 0) = true := by simpa using hz
                          have zc : (q.kind == 0) = false := by simpa using hz
                          by_cases hh : hasI M7 ((j + 1 : Nat) : Int) = true
                          · have HHAS := Lib.hid hh
                            have HT : Hid (TailOk f.nodes (j + 1)) := Lib.hid ⟨fun h => absurd h (by omega), fun _ _ => HN.out, fun _ => (HM7.out _).1 (hasI_iff.1 hh)⟩
                            have HJ2 : Hid (∀ i, i < j + 1 + 1 → TailOk f.nodes i) := Lib.hid (by
                              intro i h
                              rcases Nat.lt_succ_iff_lt_or_eq.1 h with h1 | rfl
                              · exact HJ.out i h1
                              · exact HT.out)
                            go_wp2_with fail
                            refine (l1Has_any M7 _ _ _ HR9.out (by omega)).mono ?_
                            rintro e w10 ⟨rfl, rfl⟩
                            first | rw [HHAS.out] | rw [show hasI M7 ((j : Int) + 1) = _ from HHAS.out]
                            go_wp2
                            go_roundw
                            case rel => exact ⟨j + 1 + 1, hlt, by go_num, HB9.out, HK9.out, HR9.out, HJ2.out⟩
                            case measure => simp [intOf]; omega
                          · have HHAS : Hid (hasI M7 ((j + 1 : Nat) : Int) = false) := Lib.hid (by simpa using hh)
                            have HF : Hid (¬ GoodF f) := Lib.hid (fun h => by have ht := h.2.2.2.2.2 (j + 1) hlt; exact hh (hasI_iff.2 ((HM7.out _).2 (ht.2.2 (by rw [HKq.out]; exact hz)))))
                            go_wp2_with fail
                            refine (l1Has_any M7 _ _ _ HR9.out (by omega)).mono ?_
                            rintro e w10 ⟨rfl, rfl⟩
                            first | rw [HHAS.out] | rw [show hasI M7 ((j : Int) + 1) = _ from HHAS.out]
                            go_wp2
                            go_ret
                            exact ⟨ret_bool (goodF_no HF.out), HB9.out⟩
                      · have nb : ((N : Int) != 1) = true := by rw [bne_iff_ne]; omega
                        have HF : Hid (¬ GoodF f) := Lib.hid (fun h => by have ht := h.2.2.2.2.2 (j + 1) hlt; exact hn1 (by rw [← HN.out]; exact ht.2.1 (by omega) (HKq.out.trans hk2)))
                        go_wp2
                        go_ret
                        exact ⟨ret_bool (goodF_no HF.out), HB9.out⟩
                    · have kb : (q.kind == 2) = false := by simpa using hk2
                      by_cases hz : q.kind = 0
                      · have HT : Hid (TailOk f.nodes (j + 1)) := Lib.hid ⟨fun h => absurd h (by omega), fun _ h => absurd (HKq.out.symm.trans h) hk2, fun h => absurd (HKq.out.trans hz) h⟩
                        have zb : (q.kind != 0) = false := by simpa using hz
                        have zc : (q.kind == 0) = true := by simpa using hz
                        have HJ2 : Hid (∀ i, i < j + 1 + 1 → TailOk f.nodes i) := Lib.hid (by
                          intro i h
                          rcases Nat.lt_succ_iff_lt_or_eq.1 h with h1 | rfl
                          · exact HJ.out i h1
                          · exact HT.out)
                        go_wp2
                        go_roundw
                        case rel => exact ⟨j + 1 + 1, hlt, by go_num, HB9.out, HK9.out, HR9.out, HJ2.out⟩
                        case measure => simp [intOf]; omega
                      · have zb : (q.kind != 0) = true := by simpa using hz
                        have zc : (q.kind == 0) = false := by simpa using hz
                        by_cases hh : hasI M7 ((j + 1 : Nat) : Int) = true
                        · have HHAS := Lib.hid hh
                          have HT : Hid (TailOk f.nodes (j + 1)) := Lib.hid ⟨fun h => absurd h (by omega), fun _ h => absurd (HKq.out.symm.trans h) hk2, fun _ => (HM7.out _).1 (hasI_iff.1 hh)⟩
                          have HJ2 : Hid (∀ i, i < j + 1 + 1 → TailOk f.nodes i) := Lib.hid (by
                            intro i h
                            rcases Nat.lt_succ_iff_lt_or_eq.1 h with h1 | rfl
                            · exact HJ.out i h1
                            · exact HT.out)
                          go_wp2_with fail
                          refine (l1Has_any M7 _ _ _ HR9.out (by omega)).mono ?_
                          rintro e w10 ⟨rfl, rfl⟩
                          first | rw [HHAS.out] | rw [show hasI M7 ((j : Int) + 1) = _ from HHAS.out]
                          go_wp2
                          go_roundw
                          case rel => exact ⟨j + 1 + 1, hlt, by go_num, HB9.out, HK9.out, HR9.out, HJ2.out⟩
                          case measure => simp [intOf]; omega
                        · have HHAS : Hid (hasI M7 ((j + 1 : Nat) : Int) = false) := Lib.hid (by simpa using hh)
                          have HF : Hid (¬ GoodF f) := Lib.hid (fun h => by have ht := h.2.2.2.2.2 (j + 1) hlt; exact hh (hasI_iff.2 ((HM7.out _).2 (ht.2.2 (by rw [HKq.out]; exact hz)))))
                          go_wp2_with fail
                          refine (l1Has_any M7 _ _ _ HR9.out (by omega)).mono ?_
                          rintro e w10 ⟨rfl, rfl⟩
                          first | rw [HHAS.out] | rw [show hasI M7 ((j : Int) + 1) = _ from HHAS.out]
                          go_wp2
                          go_ret
                          exact ⟨ret_bool (goodF_no HF.out), HB9.out⟩
                · go_wp2
                  go_ret
                  exact ⟨ret_bool (goodF_yes ⟨HC1.out, HC2.out, c3, HKD.out, HALL.out, fun k h => HJ.out k (by omega)⟩), hB⟩
        · have HF : Hid (¬ GoodF f) := Lib.hid (fun h => c4 (by rw [← HKD.out]; exact h.2.2.2.1))
          have c4b : (kd == 2) = false := beq_eq_false_iff_ne.2 c4
          have c4d : (kd != 2) = true := by simpa using c4
          refine wp_region_quiet_below (by kernel_rfl) (by kernel_rfl) ?_
          repeat (first | go_big_quiet_step ((first | (go_at_call 75; exact Calls.regrown_of (l1In_is (by first | exact HC1.out | exact HC2.out) _)) | (go_at_call 42; exact Calls.regrown_of (l3Bytes_any f _ _ (HF1.out.below (below_regrown _ _ _)) HSZ.out)))) | quiet_step ((first | (go_at_call 75; exact Calls.regrown_of (l1In_is (by first | exact HC1.out | exact HC2.out) _)) | (go_at_call 42; exact Calls.regrown_of (l3Bytes_any f _ _ (HF1.out.below (below_regrown _ _ _)) HSZ.out)))))
          refine wpQuiet_nil ?_
          intro w5 hwq
          have hb5 : Below W1.heap.size W1 w5 := by
            obtain ⟨pp, rfl⟩ := hwq
            exact below_regrown _ _ _
          have HB5 := Lib.hid (HB1.out.trans (hb5.mono HB1.out.size))
          have HK5 := Lib.hid ((hb5.block w.heap.size (lt_of_heap HK1.out)).trans HK1.out)
          clear hwq hb5
          go_wp2
          go_ret
          exact ⟨ret_bool (goodF_no HF.out), HB5.out⟩
      · have HF : Hid (¬ GoodF f) := Lib.hid (fun h => c3 h.2.2.1)
        have HC2 := Lib.hid c2
        refine wp_region_quiet_below (by kernel_rfl) (by kernel_rfl) ?_
        repeat (first | go_big_quiet_step ((first | (go_at_call 75; exact Calls.regrown_of (l1In_is (by first | exact HC1.out | exact HC2.out) _)) | (go_at_call 42; exact Calls.regrown_of (l3Bytes_any f _ _ (HF1.out.below (below_regrown _ _ _)) HSZ.out)))) | quiet_step ((first | (go_at_call 75; exact Calls.regrown_of (l1In_is (by first | exact HC1.out | exact HC2.out) _)) | (go_at_call 42; exact Calls.regrown_of (l3Bytes_any f _ _ (HF1.out.below (below_regrown _ _ _)) HSZ.out)))))
        refine wpQuiet_nil ?_
        intro w5 hwq
        have hb5 : Below W1.heap.size W1 w5 := by
          obtain ⟨pp, rfl⟩ := hwq
          exact below_regrown _ _ _
        have HB5 := Lib.hid (HB1.out.trans (hb5.mono HB1.out.size))
        have HK5 := Lib.hid ((hb5.block w.heap.size (lt_of_heap HK1.out)).trans HK1.out)
        clear hwq hb5
        go_wp2
        go_ret
        exact ⟨ret_bool (goodF_no HF.out), HB5.out⟩
    · have HC2 : Hid (inB 0 1000 f.room = false) := Lib.hid (by simpa using c2)
      have HF : Hid (¬ GoodF f) := Lib.hid (fun h => c2 h.2.1)
      refine wp_region_quiet_below (by kernel_rfl) (by kernel_rfl) ?_
      repeat (first | go_big_quiet_step ((first | (go_at_call 75; exact Calls.regrown_of (l1In_is (by first | exact HC1.out | exact HC2.out) _)) | (go_at_call 42; exact Calls.regrown_of (l3Bytes_any f _ _ (HF1.out.below (below_regrown _ _ _)) HSZ.out)))) | quiet_step ((first | (go_at_call 75; exact Calls.regrown_of (l1In_is (by first | exact HC1.out | exact HC2.out) _)) | (go_at_call 42; exact Calls.regrown_of (l3Bytes_any f _ _ (HF1.out.below (below_regrown _ _ _)) HSZ.out)))))
      refine wpQuiet_nil ?_
      intro w5 hwq
      have hb5 : Below W1.heap.size W1 w5 := by
        obtain ⟨pp, rfl⟩ := hwq
        exact below_regrown _ _ _
      have HB5 := Lib.hid (HB1.out.trans (hb5.mono HB1.out.size))
      have HK5 := Lib.hid ((hb5.block w.heap.size (lt_of_heap HK1.out)).trans HK1.out)
      clear hwq hb5
      go_wp2
      go_ret
      exact ⟨ret_bool (goodF_no HF.out), HB5.out⟩
  · have HC1 : Hid (inB 1 40 (f.nodes.length : Int) = false) := Lib.hid (by simpa using c1)
    have HF : Hid (¬ GoodF f) := Lib.hid (fun h => c1 h.1)
    have HC2 := HC1
    refine wp_region_quiet_below (by kernel_rfl) (by kernel_rfl) ?_
    repeat (first | go_big_quiet_step ((first | (go_at_call 75; exact Calls.regrown_of (l1In_is (by first | exact HC1.out | exact HC2.out) _)) | (go_at_call 42; exact Calls.regrown_of (l3Bytes_any f _ _ (HF1.out.below (below_regrown _ _ _)) HSZ.out)))) | quiet_step ((first | (go_at_call 75; exact Calls.regrown_of (l1In_is (by first | exact HC1.out | exact HC2.out) _)) | (go_at_call 42; exact Calls.regrown_of (l3Bytes_any f _ _ (HF1.out.below (below_regrown _ _ _)) HSZ.out)))))
    refine wpQuiet_nil ?_
    intro w5 hwq
    have hb5 : Below W1.heap.size W1 w5 := by
      obtain ⟨pp, rfl⟩ := hwq
      exact below_regrown _ _ _
    have HB5 := Lib.hid (HB1.out.trans (hb5.mono HB1.out.size))
    have HK5 := Lib.hid ((hb5.block w.heap.size (lt_of_heap HK1.out)).trans HK1.out)
    clear hwq hb5
    go_wp2
    go_ret
    exact ⟨ret_bool (goodF_no HF.out), HB5.out⟩

end Go.Proofs.Ytknhacblialboaa


/-
  The model's GoodFs, LinksOf, ParentOf, BytesIn, FreeNode.
  Conditions: at most 2^20 values and letters together.
-/
namespace Go.Proofs.Ytknhacblialboaa
open Go.ChangeShapes Go.WideShapes Go.ChangeAt Go.RowKit Go.Joins
set_option linter.unusedVariables false

theorem tupIB {a a' : Int} {b b' : Bool} (h1 : a = a') (h2 : b = b') : Ending.returned (.tuple #[.int .i64 a, .bool b]) = .returned (.tuple #[.int .i64 a', .bool b']) := by rw [h1, h2]

def isN (ns : List Nod) (node : Int) : Bool := inB 0 ((ns.length : Int) - 1) node && !(kindAt ns node == 0)

set_option maxHeartbeats 2000000 in
theorem l3Is_any (f : FsD) (node : Int) (v : Value) (w : World) (hR : FsA w v f) (hs : f.nodes.length ≤ 1048576) : Calls Try.prog 53 #[v, .int .i64 node] w fun e w' => e = .returned (.bool (isN f.nodes node)) ∧ Below w.heap.size w w' := by
  obtain ⟨nv, rfl, hN⟩ := hR
  obtain ⟨o, c, rfl, hm, hH⟩ := hN
  unfold maxLen at hm
  have hbw : Below w.heap.size w (w.alloc (.cells #[.slice o f.nodes.length c, .int .i64 f.room] 31)) := (Below.refl _ _).alloc (Nat.le_refl _) _
  by_cases hc : inB 0 ((f.nodes.length : Int) - 1) node = true
  · have HC := Lib.hid hc
    obtain ⟨r1, r2⟩ := inB_t hc
    obtain ⟨m, rfl⟩ : ∃ m : Nat, node = m := ⟨node.toNat, by omega⟩
    have hml : m < f.nodes.length := by omega
    obtain ⟨g, off, nl, rfl, hg, hcc, -, -⟩ := hH m hml
    have d0 := (hbw.cell (p := ⟨g, off + m * 7, none⟩) hg).trans hcc.c0
    obtain ⟨kd, hkd⟩ : ∃ kd, kd = f.nodes[m].kind := ⟨_, rfl⟩
    rw [← hkd] at d0
    have HKD : Hid (kindAt f.nodes (m : Int) = kd) := Lib.hid (by rw [hkd]; simp [kindAt, List.getD, hml])
    have HB := Lib.hid hbw
    clear hcc hkd hc hH hbw
    by_cases hz : kd = 0
    · have HF : Hid (isN f.nodes (m : Int) = false) := Lib.hid (by unfold isN; rw [HC.out, HKD.out, hz]; rfl)
      subst hz
      go_enter Try.func53, Try.ntmps53
      go_wp2_with (go_at_call 75; refine (l1In_eq HC.out _).mono ?_; rintro e w' ⟨rfl, rfl⟩)
      go_ret
      exact ⟨ret_bool HF.out.symm, HB.out⟩
    · have HF : Hid (isN f.nodes (m : Int) = true) := Lib.hid (by unfold isN; rw [HC.out, HKD.out]; simp [hz])
      have zb : (kd != 0) = true := by simpa using hz
      go_enter Try.func53, Try.ntmps53
      go_wp2_with (go_at_call 75; refine (l1In_eq HC.out _).mono ?_; rintro e w' ⟨rfl, rfl⟩)
      go_ret
      exact ⟨ret_bool HF.out.symm, HB.out⟩
  · have HC : Hid (inB 0 ((f.nodes.length : Int) - 1) node = false) := Lib.hid (by simpa using hc)
    have HF : Hid (isN f.nodes node = false) := Lib.hid (by unfold isN; rw [HC.out]; rfl)
    have HB := Lib.hid hbw
    clear hc hH hbw
    go_enter Try.func53, Try.ntmps53
    go_wp2_with (go_at_call 75; refine (l1In_eq HC.out _).mono ?_; rintro e w' ⟨rfl, rfl⟩)
    go_ret
    exact ⟨ret_bool HF.out.symm, HB.out⟩

noncomputable def bytesF (f : FsD) : Int := if goodF f = true then (sumD f.nodes : Int) else 0

noncomputable def freeF (f : FsD) : Int := if goodF f = true ∧ 0 ≤ freeAt f.nodes then freeAt f.nodes else 0
noncomputable def freeK (f : FsD) : Bool := goodF f && decide (0 ≤ freeAt f.nodes)

noncomputable def linksK (f : FsD) (node : Int) : Bool := goodF f && isN f.nodes node
noncomputable def linksF (f : FsD) (node : Int) : Int := if linksK f node = true then (links node f.nodes : Int) else 0

def isDirN (ns : List Nod) (node : Int) : Bool := isN ns node && (kindAt ns node == 2)
noncomputable def parK (f : FsD) (node : Int) : Bool := goodF f && isDirN f.nodes node
noncomputable def parF (f : FsD) (node : Int) : Int := if parK f node = true then (parentOf node f.nodes : Int) else 0

end Go.Proofs.Ytknhacblialboaa
