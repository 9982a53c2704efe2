/-
  Joined: IntC FsY FsZ.
  Conditions: as each states.
-/
import Derived.Laws.AppendOwnNone
import Derived.Test.YtgmkfhhlnhgkhaaGreatDoorLib1
import Derived.Test.YtgmkfhhlnhgkhaaGreatDoorLib3

/-
  Lists of numbers that a call reads or has built; the model's l1Has, l1Put.
  Conditions: at most 2^20 numbers; what is put is not there yet.
-/
namespace Go.Proofs.YtgmkfhhlnhgkhaaGreatDoor
open Go.ChangeShapes Go.WideShapes Go.ChangeAt Go.RowKit Go.Joins
set_option linter.unusedVariables false

theorem intInfo : (Tryz.prog.info? 3).map (fun i => (i.zero, i.size, i.bytes)) = some (some (.int .i64 0), 1, 8) := by kernel_rfl

def ints (l : List Int) : List Value := l.map fun n => .int .i64 n
/-- The value is a list of numbers that the call has built, in blocks from B on. -/
def LstI (w : World) (B : Nat) (v : Value) (l : List Int) : Prop := w.ownsRow B 3 1 v l.length (ints l)
/-- The value reads as a list of numbers. -/
def RdI (w : World) (v : Value) (l : List Int) : Prop :=
  ∃ o c, v = .slice o l.length c ∧ l.length ≤ c ∧ c ≤ maxLen ∧ (o = none → c = 0) ∧ ∀ a, o = some a → ∃ g off, a = ⟨g, off, none⟩ ∧ g < w.heap.size ∧ ∀ i (h : i < l.length), w.cell? ⟨g, off + i, none⟩ = some (.int .i64 l[i])

theorem LstI.read {w : World} {B : Nat} {v : Value} {l : List Int} (h : LstI w B v l) : RdI w v l := by
  rcases h with ⟨hl, ⟨rfl, h0⟩ | ⟨g, cap, cur, rfl, hB, hg, hn, hm, hs, ht⟩⟩
  · have : l = [] := List.eq_nil_of_length_eq_zero h0
    subst this
    exact ⟨none, 0, rfl, Nat.le_refl _, Nat.zero_le _, fun _ => rfl, fun a ha => by cases ha⟩
  · refine ⟨_, _, rfl, hn, hm, (fun e => by cases e), fun a ha => ?_⟩
    cases ha
    refine ⟨g, 0, rfl, (Array.getElem?_eq_some_iff.1 hg).1, fun i hi => ?_⟩
    have h1 : cur[i]? = some (.int .i64 l[i]) := by
      rw [← Array.getElem?_toList]
      have h2 : (cur.toList.take (l.length * 1))[i]? = some (.int .i64 l[i]) := by
        rw [ht]; simp [ints, hi]
      rw [List.getElem?_take] at h2
      rw [if_pos (by omega)] at h2
      exact h2
    simp [World.cell?, hg, h1]
theorem RdI.below {w w' : World} {v : Value} {l : List Int} (h : RdI w v l) (hb : Below w.heap.size w w') : RdI w' v l := by
  obtain ⟨o, c, rfl, h1, h2, h0, h3⟩ := h
  refine ⟨o, c, rfl, h1, h2, h0, fun a ha => ?_⟩
  obtain ⟨g, off, e, hg, hc⟩ := h3 a ha
  exact ⟨g, off, e, Nat.lt_of_lt_of_le hg hb.size, fun i hi => (hb.cell (p := ⟨g, off + i, none⟩) hg).trans (hc i hi)⟩
theorem RdI.nil (w : World) : RdI w (.slice none 0 0) [] := ⟨none, 0, rfl, Nat.le_refl _, Nat.zero_le _, fun _ => rfl, fun a ha => by cases ha⟩
theorem below_appI {w wr w1 : World} {B : Nat} {v : Value} {n : Nat} {xs : List Value} (hb : Below B w wr) (hB : B ≤ wr.heap.size) (hown : wr.ownsRow B 3 1 v n xs) (hg : wr.grownBy w1 v.ownBlock) : Below B w w1 := by
  refine hb.grown hg (by first | omega | exact hB) fun j ej => ?_
  rcases hown.2 with ⟨rfl, _⟩ | ⟨g, cap, cur, rfl, hgb, _, _⟩
  · simp [Value.ownBlock] at ej
  · obtain rfl : g = j := by simpa [Value.ownBlock] using ej
    exact hgb

theorem own_none (w : World) : (w.alloc (.cells #[] 3)).ownsRow w.heap.size 3 1 (.slice (some ⟨w.heap.size, 0, none⟩) 0 0) 0 [] :=
  ⟨rfl, .inr ⟨w.heap.size, 0, #[], rfl, Nat.le_refl _, heap_alloc_new w _, Nat.le_refl _, Nat.zero_le _, rfl, rfl⟩⟩
theorem ints_one (l : List Int) : ∀ u ∈ ints l, u.oneCell' = true := by
  intro u hu
  simp only [ints, List.mem_map] at hu
  obtain ⟨y, -, rfl⟩ := hu
  rfl
theorem add_plainI (g off i : Nat) : (⟨g, off, none⟩ : Addr).add i = ⟨g, off + i, none⟩ := by
  unfold Addr.add; split
  · rename_i h; subst h; rfl
  · rfl
def hasI (l : List Int) (n : Int) : Bool := l.any fun x => x == n

set_option maxHeartbeats 1000000 in
theorem l1Has_any (l : List Int) (n : Int) (v : Value) (w : World) (hR : RdI w v l) (hs : l.length ≤ 1048576) : Calls Tryz.prog 110 #[v, .int .i64 n] w fun e w' => e = .returned (.bool (hasI l n)) ∧ w = w' := by
  obtain ⟨o, c, rfl, h1, h2, h0, h3⟩ := hR
  have H3 := Lib.hid h3
  have H0 := Lib.hid h0
  clear h3 h0
  go_enter Tryz.func110, Tryz.ntmps110
  go_wp2
  go_loopw [9] (fun i wr => ∃ k : Nat, k ≤ l.length ∧ i = .int .i64 k ∧ wr = w ∧ ∀ j (hj : j < l.length), j < k → (l[j] == n) = false) (fun i _ => l.length - (intOf i).toNat)
  case atStart => exact ⟨0, Nat.zero_le _, rfl, rfl, fun j hj h => absurd h (Nat.not_lt_zero _)⟩
  case round =>
    obtain ⟨k, hk, rfl, rfl, hj⟩ := hrel
    have HJ := Lib.hid hj
    clear hj
    by_cases hlt : k < l.length
    · obtain ⟨g, off, rfl, hg, hc⟩ : ∃ g off, o = some ⟨g, off, none⟩ ∧ g < wr.heap.size ∧ ∀ i (h : i < l.length), wr.cell? ⟨g, off + i, none⟩ = some (.int .i64 l[i]) := by
        cases o with
        | none => have := H0.out rfl; omega
        | some a => obtain ⟨g, off, rfl, h⟩ := H3.out a rfl; exact ⟨g, off, rfl, h⟩
      have d0 := hc k hlt
      clear hc
      obtain ⟨x, hx⟩ : ∃ x, x = l[k] := ⟨_, rfl⟩
      have HX := Lib.hid hx
      rw [← hx] at d0
      clear hx
      by_cases he : x = n
      · have HF : Hid (hasI l n = true) := Lib.hid (by unfold hasI; rw [List.any_eq_true]; exact ⟨l[k], List.getElem_mem hlt, by rw [← HX.out, he]; simp⟩)
        go_wp2
        go_ret
        exact ⟨ret_bool HF.out.symm, rfl⟩
      · have HJ2 : Hid (∀ j (hj : j < l.length), j < k + 1 → (l[j] == n) = false) := Lib.hid (by
          intro j hj h
          rcases Nat.lt_succ_iff_lt_or_eq.1 h with h1 | rfl
          · exact HJ.out j hj h1
          · rw [← HX.out]; simpa using he)
        go_wp2
        go_roundw
        case rel => exact ⟨k + 1, hlt, by go_num, trivial, HJ2.out⟩
        case measure => simp [intOf]; omega
    · have HF : Hid (hasI l n = false) := Lib.hid (by
        unfold hasI
        rw [List.any_eq_false]
        intro e he
        obtain ⟨m, hm, rfl⟩ := List.getElem_of_mem he
        rw [HJ.out m hm (by omega)]; simp)
      go_wp2
      go_ret
      exact ⟨ret_bool HF.out.symm, rfl⟩

set_option maxHeartbeats 4000000 in
theorem l1Put_any (l : List Int) (n : Int) (v : Value) (w : World) (hR : RdI w v l) (hn : n ∉ l) (hs : l.length ≤ 1048576) : Calls Tryz.prog 146 #[v, .int .i64 n] w fun e w' => ∃ v' k, e = .returned v' ∧ LstI w' w.heap.size v' (l.take k ++ n :: l.drop k) ∧ Below w.heap.size w w' := by
  have HR := Lib.hid hR
  obtain ⟨o, c, rfl, h1, h2, h0, h3⟩ := hR
  have H3 := Lib.hid h3
  have H0 := Lib.hid h0
  have HNL := Lib.hid hn
  clear h3 h0 hn
  unfold maxLen at h2
  go_enter Tryz.func146, Tryz.ntmps146
  go_wp2
  go_loopw [5] (fun i wr => ∃ k : Nat, k ≤ l.length ∧ i = .int .i64 k ∧ wr = w) (fun i _ => l.length - (intOf i).toNat)
  case atStart => exact ⟨0, Nat.zero_le _, rfl, rfl⟩
  case round =>
    obtain ⟨k, hk, rfl, rfl⟩ := hrel
    obtain ⟨i0, hi, hz0, hz1, hz2⟩ := info_parts intInfo
    by_cases hlt : k < l.length
    · obtain ⟨g, off, rfl, hg, hc⟩ : ∃ g off, o = some ⟨g, off, none⟩ ∧ g < wr.heap.size ∧ ∀ i (h : i < l.length), wr.cell? ⟨g, off + i, none⟩ = some (.int .i64 l[i]) := by
        cases o with
        | none => have := H0.out rfl; omega
        | some a => obtain ⟨g, off, rfl, h⟩ := H3.out a rfl; exact ⟨g, off, rfl, h⟩
      have d0 := hc k hlt
      have HC := Lib.hid hc
      clear hc
      obtain ⟨x, hx⟩ : ∃ x, x = l[k] := ⟨_, rfl⟩
      have HX := Lib.hid hx
      rw [← hx] at d0
      clear hx
      have hne : x ≠ n := fun e => HNL.out (by rw [← e, HX.out]; exact List.getElem_mem hlt)
      have hneb : (x == n) = false := by simpa using hne
      by_cases hl : x < n
      · go_wp2
        go_roundw
        case rel => exact ⟨k + 1, hlt, by go_num, trivial⟩
        case measure => simp [intOf]; omega
      · have HNEW : Hid (∀ j u, (ints (l.take k))[j]? = some u → (wr.alloc (.cells #[] 3)).cell? ((⟨g, off, none⟩ : Addr).add j) = some u) := Lib.hid (by
          intro j u hj
          rw [add_plainI]
          simp only [ints, List.getElem?_map, Option.map_eq_some_iff] at hj
          obtain ⟨y, hy, rfl⟩ := hj
          rw [List.getElem?_take] at hy
          split at hy
          · obtain ⟨hjl, rfl⟩ := List.getElem?_eq_some_iff.1 hy
            exact (((Below.refl wr.heap.size wr).alloc (Nat.le_refl _) _).cell (p := ⟨g, off + j, none⟩) hg).trans (HC.out j hjl)
          · cases hy)
        go_wp2_with (at_builtin; refine wpList_append_own _ rfl _ _ 104 rfl wr.heap.size 3 i0 (.int .i64 0) 1 8 Tryz.underlying104 hi hz0 hz1 hz2 rfl (by decide) _ 0 [] rfl (own_none wr) ⟨g, off, none⟩ k c (ints (l.take k)) rfl (by simp [ints]; omega) (HNEW.out) (ints_one _) (by unfold maxLen; omega) (by omega) (by simp) ?_)
        intro v1 w1 hown1 hgrow1 _
        have hbA : Below wr.heap.size wr (wr.alloc (.cells #[] 3)) := (Below.refl _ _).alloc (Nat.le_refl _) _
        have hb1 := below_appI hbA (by simp) (own_none wr) hgrow1
        have HO1 := Lib.hid hown1
        clear hown1 hgrow1 hbA
        go_wp2_with (at_builtin; refine wpList_append_own _ rfl _ _ 104 rfl wr.heap.size 3 i0 (.int .i64 0) 1 8 Tryz.underlying104 hi hz0 hz1 hz2 rfl (by decide) _ _ _ rfl (World.ownsRow.alloc HO1.out _) ⟨w1.heap.size, 0, none⟩ 1 1 [.int .i64 n] rfl rfl (cell_one_new _ _ _) (by simp [Value.oneCell']) (by unfold maxLen; omega) (by omega) (by have := hb1.size; simp; omega) ?_)
        intro v2 w2 hown2 hgrow2 _
        have hb2 := below_appI (hb1.alloc hb1.size (.cells #[.int .i64 n] 3)) (by have := hb1.size; simp; omega) (World.ownsRow.alloc HO1.out _) hgrow2
        have HO2 := Lib.hid hown2
        clear hown2 hgrow2 HO1 hb1
        have hck : ¬ c = k := by omega
        have hck2 : ¬ k = c := by omega
        have HNEW3 : Hid (∀ j u, (ints (l.drop k))[j]? = some u → w2.cell? ((⟨g, off + k, none⟩ : Addr).add j) = some u) := Lib.hid (by
          intro j u hj
          rw [add_plainI]
          simp only [ints, List.getElem?_map, Option.map_eq_some_iff] at hj
          obtain ⟨y, hy, rfl⟩ := hj
          rw [List.getElem?_drop] at hy
          obtain ⟨hjl, rfl⟩ := List.getElem?_eq_some_iff.1 hy
          rw [Nat.add_assoc]
          exact (hb2.cell (p := ⟨g, off + (k + j), none⟩) hg).trans (HC.out (k + j) hjl))
        go_wp2_with (at_builtin; refine wpList_append_own _ rfl _ _ 104 rfl wr.heap.size 3 i0 (.int .i64 0) 1 8 Tryz.underlying104 hi hz0 hz1 hz2 rfl (by decide) _ _ _ rfl HO2.out ⟨g, off + k, none⟩ (l.length - k) (c - k) (ints (l.drop k)) rfl (by simp [ints]) (HNEW3.out) (ints_one _) (by unfold maxLen; omega) (by omega) hb2.size ?_)
        intro v3 w3 hown3 hgrow3 _
        have hb3 := below_appI hb2 hb2.size HO2.out hgrow3
        have HO3 := Lib.hid hown3
        clear hown3 hgrow3 HO2 hb2
        go_wp2
        go_ret
        refine ⟨_, k, rfl, ?_, hb3⟩
        have hq := HO3.out
        unfold LstI
        have e1 : (l.take k ++ n :: l.drop k).length = 0 + k + 1 + (l.length - k) := by simp; omega
        rw [e1]
        simpa [ints] using hq
    · obtain rfl : k = l.length := by omega
      cases o with
      | none =>
        have hc0 := H0.out rfl
        have hl0 : l = [] := List.eq_nil_of_length_eq_zero (by omega)
        subst hl0
        subst hc0
        simp only [List.length_nil] at hk hlt ⊢
        have HCN : Hid (∀ j u, [Value.int .i64 n][j]? = some u → ((wr.alloc (.cells #[] 3)).alloc (.cells #[.int .i64 n] 3)).cell? ((⟨wr.heap.size + 1, 0, none⟩ : Addr).add j) = some u) := Lib.hid (by
          have h := cell_one_new (wr.alloc (.cells #[] 3)) (.int .i64 n) 3
          rw [World.size_alloc] at h
          exact h)
        have HO1 : Hid ((wr.alloc (.cells #[] 3)).ownsRow wr.heap.size 3 1 (.slice (some ⟨wr.heap.size, 0, none⟩) 0 0) 0 []) := Lib.hid (own_none wr)
        have hb1 : Below wr.heap.size wr (wr.alloc (.cells #[] 3)) := (Below.refl _ _).alloc (Nat.le_refl _) _
        go_wp2_with (first | (at_builtin; refine wpList_append_own_none rfl _ _ 104 rfl wr.heap.size 3 i0 1 Tryz.underlying104 hi _ _ _ rfl (own_none wr) rfl ?_) | (at_builtin; refine wpList_append_own _ rfl _ _ 104 rfl wr.heap.size 3 i0 (.int .i64 0) 1 8 Tryz.underlying104 hi hz0 hz1 hz2 rfl (by decide) _ _ _ rfl (World.ownsRow.alloc HO1.out _) ⟨wr.heap.size + 1, 0, none⟩ 1 1 [.int .i64 n] rfl rfl (HCN.out) (by simp [Value.oneCell']) (by unfold maxLen; omega) (by omega) (by have := hb1.size; simp at this ⊢; omega) ?_))
        intro v2 w2 hown2 hgrow2 _
        have hb2 := below_appI (hb1.alloc hb1.size (.cells #[.int .i64 n] 3)) (by have := hb1.size; simp at this ⊢; omega) (World.ownsRow.alloc HO1.out _) hgrow2
        have HO2 := Lib.hid hown2
        clear hown2 hgrow2 HO1 hb1
        go_wp2_with (at_builtin; refine wpList_append_own_none rfl _ _ 104 rfl wr.heap.size 3 i0 1 Tryz.underlying104 hi _ _ _ rfl HO2.out rfl ?_)
        go_ret
        refine ⟨_, 0, rfl, ?_, hb2⟩
        have hq := HO2.out
        unfold LstI
        simpa [ints] using hq
      | some a =>
        obtain ⟨g, off, rfl, hg, hc⟩ := H3.out a rfl
        have HC := Lib.hid hc
        clear hc
        have HNEW : Hid (∀ j u, (ints l)[j]? = some u → (wr.alloc (.cells #[] 3)).cell? ((⟨g, off, none⟩ : Addr).add j) = some u) := Lib.hid (by
          intro j u hj
          rw [add_plainI]
          simp only [ints, List.getElem?_map, Option.map_eq_some_iff] at hj
          obtain ⟨y, hy, rfl⟩ := hj
          obtain ⟨hjl, rfl⟩ := List.getElem?_eq_some_iff.1 hy
          exact (((Below.refl wr.heap.size wr).alloc (Nat.le_refl _) _).cell (p := ⟨g, off + j, none⟩) hg).trans (HC.out j hjl))
        by_cases hc0 : c = 0
        · have hl0 : l = [] := List.eq_nil_of_length_eq_zero (by omega)
          subst hl0
          subst hc0
          simp only [List.length_nil] at hk hlt ⊢
          go_wp2_with (at_builtin; refine wpList_append_own _ rfl _ _ 104 rfl wr.heap.size 3 i0 (.int .i64 0) 1 8 Tryz.underlying104 hi hz0 hz1 hz2 rfl (by decide) _ 0 [] rfl (own_none wr) ⟨g, off, none⟩ 0 0 (ints []) rfl (by simp [ints]) (HNEW.out) (ints_one _) (by unfold maxLen; omega) (by omega) (by simp) ?_)
          intro v1 w1 hown1 hgrow1 _
          have hbA : Below wr.heap.size wr (wr.alloc (.cells #[] 3)) := (Below.refl _ _).alloc (Nat.le_refl _) _
          have hb1 := below_appI hbA (by simp) (own_none wr) hgrow1
          have HO1 := Lib.hid hown1
          clear hown1 hgrow1 hbA
          go_wp2_with (at_builtin; refine wpList_append_own _ rfl _ _ 104 rfl wr.heap.size 3 i0 (.int .i64 0) 1 8 Tryz.underlying104 hi hz0 hz1 hz2 rfl (by decide) _ _ _ rfl (World.ownsRow.alloc HO1.out _) ⟨w1.heap.size, 0, none⟩ 1 1 [.int .i64 n] rfl rfl (cell_one_new _ _ _) (by simp [Value.oneCell']) (by unfold maxLen; omega) (by omega) (by have := hb1.size; simp at this ⊢; omega) ?_)
          intro v2 w2 hown2 hgrow2 _
          have hb2 := below_appI (hb1.alloc hb1.size (.cells #[.int .i64 n] 3)) (by have := hb1.size; simp at this ⊢; omega) (World.ownsRow.alloc HO1.out _) hgrow2
          have HO2 := Lib.hid hown2
          clear hown2 hgrow2 HO1 hb1
          go_wp2_with (first | (at_builtin; refine wpList_append_own _ rfl _ _ 104 rfl wr.heap.size 3 i0 (.int .i64 0) 1 8 Tryz.underlying104 hi hz0 hz1 hz2 rfl (by decide) _ _ _ rfl HO2.out ⟨g, off, none⟩ 0 0 [] rfl (by simp) (by simp) (by simp) (by unfold maxLen; omega) (by omega) hb2.size ?_) | (at_builtin; refine wpList_append_own _ rfl _ _ 104 rfl wr.heap.size 3 i0 (.int .i64 0) 1 8 Tryz.underlying104 hi hz0 hz1 hz2 rfl (by decide) _ _ _ rfl HO2.out ⟨g, off, none⟩ (0 - 0) 0 [] rfl (by simp) (by simp) (by simp) (by unfold maxLen; omega) (by omega) hb2.size ?_))
          intro v3 w3 hown3 hgrow3 _
          have hb3 := below_appI hb2 hb2.size HO2.out hgrow3
          have HO3 := Lib.hid hown3
          clear hown3 hgrow3 HO2 hb2
          go_wp2
          go_ret
          refine ⟨_, 0, rfl, ?_, hb3⟩
          have hq := HO3.out
          unfold LstI
          simpa [ints] using hq
        by_cases hck : c = l.length
        · have hpos : ¬ l.length = 0 := by omega
          go_wp2_with (at_builtin; refine wpList_append_own _ rfl _ _ 104 rfl wr.heap.size 3 i0 (.int .i64 0) 1 8 Tryz.underlying104 hi hz0 hz1 hz2 rfl (by decide) _ 0 [] rfl (own_none wr) ⟨g, off, none⟩ l.length l.length (ints l) rfl (by simp [ints]) (HNEW.out) (ints_one _) (by unfold maxLen; omega) (by omega) (by simp) ?_)
          intro v1 w1 hown1 hgrow1 _
          have hbA : Below wr.heap.size wr (wr.alloc (.cells #[] 3)) := (Below.refl _ _).alloc (Nat.le_refl _) _
          have hb1 := below_appI hbA (by simp) (own_none wr) hgrow1
          have HO1 := Lib.hid hown1
          clear hown1 hgrow1 hbA
          go_wp2_with (at_builtin; refine wpList_append_own _ rfl _ _ 104 rfl wr.heap.size 3 i0 (.int .i64 0) 1 8 Tryz.underlying104 hi hz0 hz1 hz2 rfl (by decide) _ _ _ rfl (World.ownsRow.alloc HO1.out _) ⟨w1.heap.size, 0, none⟩ 1 1 [.int .i64 n] rfl rfl (cell_one_new _ _ _) (by simp [Value.oneCell']) (by unfold maxLen; omega) (by omega) (by have := hb1.size; simp at this ⊢; omega) ?_)
          intro v2 w2 hown2 hgrow2 _
          have hb2 := below_appI (hb1.alloc hb1.size (.cells #[.int .i64 n] 3)) (by have := hb1.size; simp at this ⊢; omega) (World.ownsRow.alloc HO1.out _) hgrow2
          have HO2 := Lib.hid hown2
          clear hown2 hgrow2 HO1 hb1
          go_wp2_with (first | (at_builtin; refine wpList_append_own _ rfl _ _ 104 rfl wr.heap.size 3 i0 (.int .i64 0) 1 8 Tryz.underlying104 hi hz0 hz1 hz2 rfl (by decide) _ _ _ rfl HO2.out ⟨g, off, none⟩ 0 0 [] rfl (by simp) (by simp) (by simp) (by unfold maxLen; omega) (by omega) hb2.size ?_) | (at_builtin; refine wpList_append_own _ rfl _ _ 104 rfl wr.heap.size 3 i0 (.int .i64 0) 1 8 Tryz.underlying104 hi hz0 hz1 hz2 rfl (by decide) _ _ _ rfl HO2.out ⟨g, off, none⟩ 0 (c - l.length) [] rfl (by simp) (by simp) (by simp) (by unfold maxLen; omega) (by omega) hb2.size ?_) | (at_builtin; refine wpList_append_own _ rfl _ _ 104 rfl wr.heap.size 3 i0 (.int .i64 0) 1 8 Tryz.underlying104 hi hz0 hz1 hz2 rfl (by decide) _ _ _ rfl HO2.out ⟨g, off, none⟩ (l.length - l.length) 0 [] rfl (by simp) (by simp) (by simp) (by unfold maxLen; omega) (by omega) hb2.size ?_) | (at_builtin; refine wpList_append_own _ rfl _ _ 104 rfl wr.heap.size 3 i0 (.int .i64 0) 1 8 Tryz.underlying104 hi hz0 hz1 hz2 rfl (by decide) _ _ _ rfl HO2.out ⟨g, off, none⟩ (l.length - l.length) (c - l.length) [] rfl (by simp) (by simp) (by simp) (by unfold maxLen; omega) (by omega) hb2.size ?_))
          intro v3 w3 hown3 hgrow3 _
          have hb3 := below_appI hb2 hb2.size HO2.out hgrow3
          have HO3 := Lib.hid hown3
          clear hown3 hgrow3 HO2 hb2
          go_wp2
          go_ret
          refine ⟨_, l.length, rfl, ?_, hb3⟩
          have hq := HO3.out
          unfold LstI
          simpa [ints] using hq
        · have hck2 : ¬ l.length = c := fun e => hck e.symm
          go_wp2_with (at_builtin; refine wpList_append_own _ rfl _ _ 104 rfl wr.heap.size 3 i0 (.int .i64 0) 1 8 Tryz.underlying104 hi hz0 hz1 hz2 rfl (by decide) _ 0 [] rfl (own_none wr) ⟨g, off, none⟩ l.length c (ints l) rfl (by simp [ints]) (HNEW.out) (ints_one _) (by unfold maxLen; omega) (by omega) (by simp) ?_)
          intro v1 w1 hown1 hgrow1 _
          have hbA : Below wr.heap.size wr (wr.alloc (.cells #[] 3)) := (Below.refl _ _).alloc (Nat.le_refl _) _
          have hb1 := below_appI hbA (by simp) (own_none wr) hgrow1
          have HO1 := Lib.hid hown1
          clear hown1 hgrow1 hbA
          go_wp2_with (at_builtin; refine wpList_append_own _ rfl _ _ 104 rfl wr.heap.size 3 i0 (.int .i64 0) 1 8 Tryz.underlying104 hi hz0 hz1 hz2 rfl (by decide) _ _ _ rfl (World.ownsRow.alloc HO1.out _) ⟨w1.heap.size, 0, none⟩ 1 1 [.int .i64 n] rfl rfl (cell_one_new _ _ _) (by simp [Value.oneCell']) (by unfold maxLen; omega) (by omega) (by have := hb1.size; simp at this ⊢; omega) ?_)
          intro v2 w2 hown2 hgrow2 _
          have hb2 := below_appI (hb1.alloc hb1.size (.cells #[.int .i64 n] 3)) (by have := hb1.size; simp at this ⊢; omega) (World.ownsRow.alloc HO1.out _) hgrow2
          have HO2 := Lib.hid hown2
          clear hown2 hgrow2 HO1 hb1
          go_wp2_with (first | (at_builtin; refine wpList_append_own _ rfl _ _ 104 rfl wr.heap.size 3 i0 (.int .i64 0) 1 8 Tryz.underlying104 hi hz0 hz1 hz2 rfl (by decide) _ _ _ rfl HO2.out ⟨g, off + l.length, none⟩ 0 (c - l.length) [] rfl (by simp) (by simp) (by simp) (by unfold maxLen; omega) (by omega) hb2.size ?_) | (at_builtin; refine wpList_append_own _ rfl _ _ 104 rfl wr.heap.size 3 i0 (.int .i64 0) 1 8 Tryz.underlying104 hi hz0 hz1 hz2 rfl (by decide) _ _ _ rfl HO2.out ⟨g, off + l.length, none⟩ (l.length - l.length) (c - l.length) [] rfl (by simp) (by simp) (by simp) (by unfold maxLen; omega) (by omega) hb2.size ?_))
          intro v3 w3 hown3 hgrow3 _
          have hb3 := below_appI hb2 hb2.size HO2.out hgrow3
          have HO3 := Lib.hid hown3
          clear hown3 hgrow3 HO2 hb2
          go_wp2
          go_ret
          refine ⟨_, l.length, rfl, ?_, hb3⟩
          have hq := HO3.out
          unfold LstI
          simpa [ints] using hq
end Go.Proofs.YtgmkfhhlnhgkhaaGreatDoor


/-
  The model's l3Met: the nodes that come from one, entry by entry.
  Conditions: every entry leads to a node; at most 2^20 nodes, and entries of one.
-/
namespace Go.Proofs.YtgmkfhhlnhgkhaaGreatDoor
open Go.ChangeShapes Go.WideShapes Go.ChangeAt Go.RowKit Go.Joins
set_option linter.unusedVariables false

def kids (ns : List Nod) (x : Int) : List Int := (ns.getD x.toNat ⟨0, 0, 0, 0, 0, [], []⟩).list.map fun e => e.node
inductive Reach (ns : List Nod) (a : Int) : Int → Prop
  | refl : Reach ns a a
  | step {b c : Int} : Reach ns a b → c ∈ kids ns b → Reach ns a c
theorem Reach.from_kid {ns : List Nod} {a b c : Int} (h : b ∈ kids ns a) (hr : Reach ns b c) : Reach ns a c := by
  induction hr with
  | refl => exact .step .refl h
  | step _ hk ih => exact .step ih hk

/-- Numbers of nodes, each once. -/
def Nums (n : Nat) (M : List Int) : Prop := M.Nodup ∧ ∀ x ∈ M, 0 ≤ x ∧ x < n
theorem Nums.len {n : Nat} : ∀ {M : List Int}, Nums n M → M.length ≤ n := by
  induction n with
  | zero => intro M h; cases M with
    | nil => simp
    | cons a r => have := h.2 a (by simp); omega
  | succ n ih =>
    intro M h
    by_cases hm : (n : Int) ∈ M
    · have h1 : Nums n (M.erase n) := ⟨h.1.erase _, fun x hx => by
        rw [h.1.mem_erase_iff] at hx
        have := h.2 x hx.2
        have := hx.1
        omega⟩
      have h2 := ih h1
      rw [List.length_erase_of_mem hm] at h2
      omega
    · have h1 : Nums n M := ⟨h.1, fun x hx => by
        have := h.2 x hx
        have : x ≠ n := fun e => hm (e ▸ hx)
        omega⟩
      have := ih h1
      omega

/-- M' is M with all that comes from a. -/
structure Met (ns : List Nod) (M : List Int) (a : Int) (M' : List Int) : Prop where
  sub : ∀ x ∈ M, x ∈ M'
  has : a ∈ M'
  new : ∀ x ∈ M', x ∉ M → Reach ns a x ∧ ∀ c ∈ kids ns x, c ∈ M'
  nums : Nums ns.length M'
  len : M.length ≤ M'.length

/-- Behind j entries of the node a. -/
structure MetI (ns : List Nod) (M0 : List Int) (a : Int) (es : List Ent) (j : Nat) (M1 : List Int) : Prop where
  sub : ∀ x ∈ M0, x ∈ M1
  new : ∀ x ∈ M1, x ∉ M0 → Reach ns a x ∧ ∀ c ∈ kids ns x, c ∈ M1
  done : ∀ i (h : i < es.length), i < j → es[i].node ∈ M1
  nums : Nums ns.length M1
  len : M0.length ≤ M1.length
theorem MetI.next {ns : List Nod} {M0 M1 M2 : List Int} {a : Int} {es : List Ent} {j : Nat} (h : MetI ns M0 a es j M1) (hj : j < es.length) (hk : es[j].node ∈ kids ns a) (hm : Met ns M1 es[j].node M2) : MetI ns M0 a es (j + 1) M2 := by
  refine ⟨fun x hx => hm.sub x (h.sub x hx), fun x hx hn => ?_, fun i hi hij => ?_, hm.nums, Nat.le_trans h.len hm.len⟩
  · by_cases h1 : x ∈ M1
    · obtain ⟨r, k⟩ := h.new x h1 hn
      exact ⟨r, fun c hc => hm.sub c (k c hc)⟩
    · obtain ⟨r, k⟩ := hm.new x hx h1
      exact ⟨Reach.from_kid hk r, k⟩
  · rcases Nat.lt_succ_iff_lt_or_eq.1 hij with h1 | rfl
    · exact hm.sub _ (h.done i hi h1)
    · exact hm.has

theorem put_mem {M : List Int} {k : Nat} {a x : Int} : x ∈ M.take k ++ a :: M.drop k ↔ x = a ∨ x ∈ M := by
  have h : x ∈ M ↔ x ∈ M.take k ∨ x ∈ M.drop k := by
    conv => lhs; rw [← List.take_append_drop k M]
    rw [List.mem_append]
  rw [List.mem_append, List.mem_cons, h]
  constructor
  · rintro (h | h | h)
    · exact .inr (.inl h)
    · exact .inl h
    · exact .inr (.inr h)
  · rintro (h | h | h)
    · exact .inr (.inl h)
    · exact .inl h
    · exact .inr (.inr h)
theorem put_nums {n : Nat} {M : List Int} {k : Nat} {a : Int} (h : Nums n M) (ha : a ∉ M) (h0 : 0 ≤ a) (h1 : a < n) : Nums n (M.take k ++ a :: M.drop k) := by
  refine ⟨?_, fun x hx => ?_⟩
  · have hp : (M.take k ++ a :: M.drop k).Perm (a :: M) := by
      have := List.perm_middle (a := a) (l₁ := M.take k) (l₂ := M.drop k)
      rw [List.take_append_drop] at this
      exact this
    rw [hp.nodup_iff]
    exact List.nodup_cons.2 ⟨ha, h.1⟩
  · rcases put_mem.1 hx with rfl | hx
    · exact ⟨h0, h1⟩
    · exact h.2 x hx
theorem hasI_iff {M : List Int} {a : Int} : hasI M a = true ↔ a ∈ M := by
  unfold hasI
  rw [List.any_eq_true]
  constructor
  · rintro ⟨x, hx, e⟩
    have : x = a := by simpa using e
    exact this ▸ hx
  · exact fun h => ⟨a, h, by simp⟩

/-- Every entry leads to a node. -/
def Lead (ns : List Nod) : Prop := ∀ n ∈ ns, ∀ e ∈ n.list, 0 ≤ e.node ∧ e.node < ns.length

set_option maxHeartbeats 4000000 in
theorem l3Met_any (f : FsD) (hld : Lead f.nodes) (hs : f.nodes.length ≤ 1048576) (hs2 : ∀ n ∈ f.nodes, n.list.length ≤ 1048576) (d : Nat) : ∀ (M : List Int) (a : Int) (v mv : Value) (w : World), f.nodes.length - M.length = d → FsA w v f → RdI w mv M → Nums f.nodes.length M → 0 ≤ a → a < f.nodes.length →
    Calls Tryz.prog 109 #[v, .int .i64 a, mv] w fun e w' => ∃ v' M', e = .returned v' ∧ RdI w' v' M' ∧ Met f.nodes M a M' ∧ Below w.heap.size w w' := by
  induction d using Nat.strongRecOn with
  | _ d ih =>
  intro M a v mv w hd hR hM hn h0 h1
  have HIH := Lib.hid ih
  have HLD := Lib.hid hld
  have HS2 := Lib.hid hs2
  have HR := Lib.hid hR
  obtain ⟨nv, rfl, hN⟩ := hR
  obtain ⟨o, c, rfl, hm, hH⟩ := hN
  have HH := Lib.hid hH
  have HM := Lib.hid hM
  have HNM := Lib.hid hn
  obtain ⟨om, cm, rfl, -, -, -, -⟩ := id hM
  have hml := hn.len
  have hbw : Below w.heap.size w (w.alloc (.cells #[.slice o f.nodes.length c, .int .i64 f.room] 26)) := (Below.refl _ _).alloc (Nat.le_refl _) _
  have hk0 := heap_alloc_new w (.cells #[.slice o f.nodes.length c, .int .i64 f.room] 26)
  have HB := Lib.hid hbw
  have HK := Lib.hid hk0
  clear ih hld hs2 hH hM hn hbw hk0
  unfold maxLen at hm
  by_cases hh : hasI M a = true
  · have HA := Lib.hid hh
    go_enter Tryz.func109, Tryz.ntmps109
    go_wp2_with fail
    refine (l1Has_any M a _ _ (HM.out.below HB.out) (by omega)).mono ?_
    rintro e w1 ⟨rfl, rfl⟩
    rw [HA.out]
    go_wp2
    go_ret
    refine ⟨_, M, rfl, HM.out.below HB.out, ⟨fun x hx => hx, hasI_iff.1 HA.out, fun x hx hn => absurd hx hn, HNM.out, Nat.le_refl _⟩, HB.out⟩
  · have HA : Hid (hasI M a = false) := Lib.hid (by simpa using hh)
    have HAN : Hid (a ∉ M) := Lib.hid (fun h => hh (hasI_iff.2 h))
    obtain ⟨m, rfl⟩ : ∃ m : Nat, a = m := ⟨a.toNat, by omega⟩
    have hml2 : m < f.nodes.length := by omega
    obtain ⟨g, off, lv, rfl, hg, hcc, he, -⟩ := HH.out m hml2
    have HC6 := Lib.hid hcc.c6
    obtain ⟨q, hqq⟩ : ∃ q, q = f.nodes[m] := ⟨_, rfl⟩
    have HQ := Lib.hid hqq
    rw [← hqq] at he
    have HE0 := Lib.hid he
    obtain ⟨oe, ce, rfl, -, hE⟩ := id he
    have HE := Lib.hid hE
    have hql : q.list.length ≤ 1048576 := HS2.out q (by rw [HQ.out]; exact List.getElem_mem hml2)
    have HKD : Hid (∀ x, x ∈ kids f.nodes (m : Int) ↔ ∃ i, ∃ h : i < q.list.length, x = q.list[i].node) := Lib.hid (by
      intro x
      have e1 : f.nodes.getD (m : Int).toNat ⟨0, 0, 0, 0, 0, [], []⟩ = q := by rw [HQ.out]; simp [List.getD, hml2]
      unfold kids
      rw [e1, List.mem_map]
      constructor
      · rintro ⟨e, he, rfl⟩
        obtain ⟨i, hi, rfl⟩ := List.getElem_of_mem he
        exact ⟨i, hi, rfl⟩
      · rintro ⟨i, hi, rfl⟩
        exact ⟨_, List.getElem_mem hi, rfl⟩)
    have HLQ : Hid (∀ i (h : i < q.list.length), 0 ≤ q.list[i].node ∧ q.list[i].node < f.nodes.length) := Lib.hid (fun i hi => HLD.out q (by rw [HQ.out]; exact List.getElem_mem hml2) _ (List.getElem_mem hi))
    clear hh hqq he hE hcc
    go_enter Tryz.func109, Tryz.ntmps109
    go_wp2_with fail
    refine (l1Has_any M _ _ _ (HM.out.below HB.out) (by omega)).mono ?_
    rintro e w1 ⟨rfl, rfl⟩
    rw [HA.out]
    go_wp2_with fail
    refine (l1Put_any M _ _ _ (HM.out.below HB.out) HAN.out (by omega)).mono ?_
    rintro e w2 ⟨v2, kk, rfl, hL2, hb2⟩
    have HB2 := Lib.hid (HB.out.trans (hb2.mono HB.out.size))
    have HK2 := Lib.hid ((hb2.block w.heap.size (lt_of_heap HK.out)).trans HK.out)
    have s0 := (cell_blk HK2.out 0).trans rfl
    have d6 := (HB2.out.cell (p := ⟨g, off + m * 7 + 6, none⟩) hg).trans HC6.out
    have HP : Hid (Nums f.nodes.length (M.take kk ++ (m : Int) :: M.drop kk)) := Lib.hid (put_nums HNM.out HAN.out h0 h1)
    have hlen : (M.take kk ++ (m : Int) :: M.drop kk).length = M.length + 1 := by
      have := congrArg List.length (List.take_append_drop kk M)
      simp only [List.length_append, List.length_cons] at this ⊢
      omega
    have hmax := HP.out.len
    have HL2 := Lib.hid hL2.read
    obtain ⟨o2, c2, rfl, -, -, -, -⟩ := hL2.read
    obtain ⟨M0, hM0⟩ : ∃ M0, M0 = M.take kk ++ (m : Int) :: M.drop kk := ⟨_, rfl⟩
    have HM0 : Hid (∀ x, x ∈ M0 ↔ x = (m : Int) ∨ x ∈ M) := Lib.hid (fun x => by rw [hM0]; exact put_mem)
    rw [← hM0] at HP hlen hmax HL2 ⊢
    clear hb2 hL2 hM0
    go_wp2
    go_loopw [2, 23] (fun t i wr => ∃ (j : Nat) (M1 : List Int), j ≤ q.list.length ∧ i = .int .i64 j ∧ RdI wr t M1 ∧ MetI f.nodes M0 (m : Int) q.list j M1 ∧ Below w.heap.size w wr ∧ wr.heap[w.heap.size]? = some (.cells #[.slice (some ⟨g, off, none⟩) f.nodes.length c, .int .i64 f.room] 26)) (fun _ i _ => q.list.length - (intOf i).toNat)
    case atStart => exact ⟨0, M0, Nat.zero_le _, rfl, (by first | exact HL2.out | (rw [← hlen]; exact HL2.out)), ⟨fun x hx => hx, fun x hx hn => absurd hx hn, fun i hi h => absurd h (Nat.not_lt_zero _), HP.out, Nat.le_refl _⟩, HB2.out, HK2.out⟩
    case round =>
      obtain ⟨j, M1, hj, rfl, hR1, hI, hBr, hbr⟩ := hrel
      have HI := Lib.hid hI
      have HBr := Lib.hid hBr
      have Hbr := Lib.hid hbr
      have HR1 := Lib.hid hR1
      obtain ⟨o3, c3, rfl, -, -, -, -⟩ := hR1
      have hlen1 := hI.len
      clear hI
      by_cases hlt : j < q.list.length
      · obtain ⟨g2, f2, rfl, q2, x2, y2, _⟩ := HE.out j hlt
        have a1 := (hBr.cell (p := ⟨g2, f2 + j * 2, none⟩) q2).trans x2
        have a2 := (hBr.cell (p := ⟨g2, f2 + j * 2 + 1, none⟩) q2).trans y2
        obtain ⟨l1, l2⟩ := HLQ.out j hlt
        have HKJ : Hid (q.list[j].node ∈ kids f.nodes (m : Int)) := Lib.hid ((HKD.out _).2 ⟨j, hlt, rfl⟩)
        obtain ⟨y, hyy⟩ : ∃ y, y = bs q.list[j].name := ⟨_, rfl⟩
        rw [← hyy] at a1
        obtain ⟨r, hr⟩ : ∃ r, r = q.list[j].node := ⟨_, rfl⟩
        have HRR := Lib.hid hr
        rw [← hr] at a2 l1 l2 HKJ
        have HW3 : Hid (Below w.heap.size w (wr.alloc (.cells #[.string y, .int .i64 r] 57))) := Lib.hid (hBr.alloc hBr.size _)
        have HW4 : Hid (Below wr.heap.size wr (wr.alloc (.cells #[.string y, .int .i64 r] 57))) := Lib.hid ((Below.refl _ _).alloc (Nat.le_refl _) _)
        have hb3 : (wr.alloc (.cells #[.string y, .int .i64 r] 57)).heap[w.heap.size]? = some (.cells #[.slice (some ⟨g, off, none⟩) f.nodes.length c, .int .i64 f.room] 26) := (Below.heap_alloc _ _ _ (lt_of_heap hbr)).trans hbr
        have t0 := (cell_blk hb3 0).trans rfl
        have t1 := (cell_blk hb3 1).trans rfl
        have b0 := (cell_blk hbr 0).trans rfl
        have b1 := (cell_blk hbr 1).trans rfl
        have HB3 := Lib.hid hb3
        have hmax1 := HI.out.nums.len
        clear x2 y2 hyy hr hBr hbr hb3
        go_wp2_with fail
        refine (HIH.out (f.nodes.length - M1.length) (by omega) M1 _ _ _ _ rfl (HR.out.below HW3.out) (HR1.out.below HW4.out) HI.out.nums l1 l2).mono ?_
        rintro e w5 ⟨v5, M2, rfl, hR5, hM5, hb5⟩
        have HR5 := Lib.hid hR5
        have HI5 := Lib.hid (MetI.next HI.out hlt (by rw [← HRR.out]; exact HKJ.out) (by rw [← HRR.out]; exact hM5))
        have HB5 := Lib.hid (HW3.out.trans (hb5.mono HW3.out.size))
        have HK5 := Lib.hid ((hb5.block w.heap.size (lt_of_heap HB3.out)).trans HB3.out)
        obtain ⟨o5, c5, rfl, -, -, -, -⟩ := hR5
        clear hM5 hb5
        go_wp2
        go_roundw
        case rel => exact ⟨j + 1, M2, hlt, by go_num, HR5.out, HI5.out, HB5.out, HK5.out⟩
        case measure => simp [intOf]; omega
      · go_wp2
        go_ret
        refine ⟨_, M1, rfl, HR1.out, ⟨fun x hx => HI.out.sub x ((HM0.out x).2 (.inr hx)), HI.out.sub _ ((HM0.out _).2 (.inl rfl)), fun x hx hn => ?_, HI.out.nums, by omega⟩, HBr.out⟩
        by_cases h3 : x ∈ M0
        · rcases (HM0.out x).1 h3 with rfl | h4
          · refine ⟨.refl, fun cc hcc => ?_⟩
            obtain ⟨i, hi, rfl⟩ := (HKD.out cc).1 hcc
            exact HI.out.done i hi (by omega)
          · exact absurd h4 hn
        · exact HI.out.new x hx h3

/-- Behind the first call: what comes from a. -/
theorem Met.all {ns : List Nod} {a : Int} {M : List Int} (h : Met ns [] a M) (x : Int) : x ∈ M ↔ Reach ns a x := by
  constructor
  · exact fun hx => (h.new x hx (by simp)).1
  · intro hr
    induction hr with
    | refl => exact h.has
    | step _ hk ih => exact (h.new _ ih (by simp)).2 _ hk
end Go.Proofs.YtgmkfhhlnhgkhaaGreatDoor


/-
  The model's l3Good: when a file system is good.
  Conditions: at most 2^20 values and letters together.
-/
namespace Go.Proofs.YtgmkfhhlnhgkhaaGreatDoor
open Go.ChangeShapes Go.WideShapes Go.ChangeAt Go.RowKit Go.Joins
set_option linter.unusedVariables false

/-- What the last test asks of node k. -/
def TailOk (ns : List Nod) (k : Nat) : Prop := (k = 0 → links 0 ns = 0) ∧ (0 < k → kindAt ns k = 2 → links k ns = 1) ∧ (kindAt ns k ≠ 0 → Reach ns 0 k)
def GoodF (f : FsD) : Prop :=
  inB 1 40 (f.nodes.length : Int) = true ∧ inB 0 1000 f.room = true ∧ (sumD f.nodes : Int) ≤ f.room ∧ kindAt f.nodes 0 = 2 ∧ (∀ n ∈ f.nodes, nodOk f.nodes n = true) ∧ ∀ k, k < f.nodes.length → TailOk f.nodes k
open Classical in
noncomputable def goodF (f : FsD) : Bool := decide (GoodF f)
theorem goodF_no {f : FsD} (h : ¬ GoodF f) : false = goodF f := by unfold goodF; simp [h]
theorem goodF_yes {f : FsD} (h : GoodF f) : true = goodF f := by unfold goodF; simp [h]

theorem lead_of {ns : List Nod} (h : ∀ n ∈ ns, nodOk ns n = true) : Lead ns := by
  intro n hn e he
  have h1 := h n hn
  have hne : n.list.isEmpty = false := by cases hl : n.list <;> simp_all
  unfold nodOk at h1
  have h2 : entsOk ns n.list = true := by
    split at h1
    · simp [hne] at h1
    · split at h1
      · simp [hne] at h1
      · split at h1
        · simp at h1; exact h1.2.2.2.2.2
        · simp [hne] at h1
  obtain ⟨i, hi, rfl⟩ := List.getElem_of_mem he
  unfold entsOk at h2
  rw [List.all_eq_true] at h2
  have h3 := h2 i (List.mem_range.2 hi)
  unfold entOk at h3
  simp only [Bool.and_eq_true] at h3
  have e1 : n.list.getD i ⟨[], 0⟩ = n.list[i] := by simp [List.getD, hi]
  rw [e1] at h3
  have := inB_t h3.1.2
  omega

set_option maxHeartbeats 8000000 in
theorem l3Good_any (f : FsD) (v : Value) (w : World) (hR : FsA w v f) (hs : szF f ≤ 1048576) : Calls Tryz.prog 63 #[v] w fun e w' => e = .returned (.bool (goodF f)) ∧ Below w.heap.size w w' := by
  have HR := Lib.hid hR
  obtain ⟨nv, rfl, hN⟩ := hR
  obtain ⟨o, c, rfl, hm, hH⟩ := hN
  have HH := Lib.hid hH
  clear hH
  unfold maxLen at hm
  have HSZ := Lib.hid hs
  have hsum : sumD f.nodes ≤ 1048576 := by have := sumD_le f.nodes; unfold szF at hs; omega
  have hl : f.nodes.length ≤ 1048576 := (lists_small hs).1
  have HL : Hid (∀ n ∈ f.nodes, n.list.length ≤ 1048576 ∧ n.data.length ≤ 1048576 ∧ lensE n.list ≤ 1048576) := Lib.hid (lists_small hs).2
  clear hs
  have hbw : Below w.heap.size w (w.alloc (.cells #[.slice o f.nodes.length c, .int .i64 f.room] 26)) := (Below.refl _ _).alloc (Nat.le_refl _) _
  have hk0 := heap_alloc_new w (.cells #[.slice o f.nodes.length c, .int .i64 f.room] 26)
  go_enter Tryz.func63, Tryz.ntmps63
  go_wp2
  obtain ⟨W1, hW1⟩ : ∃ W1, w.alloc (.cells #[.slice o f.nodes.length c, .int .i64 f.room] 26) = W1 := ⟨_, rfl⟩
  rw [hW1] at hbw hk0 ⊢
  have s0 := (cell_blk hk0 0).trans rfl
  have s1 := (cell_blk hk0 1).trans rfl
  have z0 := fun d os => cell_regrown (w := W1) s0 d os
  have z1 := fun d os => cell_regrown (w := W1) s1 d os
  have HB1 := Lib.hid hbw
  have HK1 := Lib.hid hk0
  have HF1 := Lib.hid (HR.out.below hbw)
  clear hW1 hbw hk0
  by_cases c1 : inB 1 40 (f.nodes.length : Int) = true
  · have HC1 := Lib.hid c1
    have hpos : 0 < f.nodes.length := by have := inB_t c1; omega
    by_cases c2 : inB 0 1000 f.room = true
    · have HC2 := Lib.hid c2
      by_cases c3 : (sumD f.nodes : Int) ≤ f.room
      · obtain ⟨g, off, lv0, rfl, hg, hcc, -, -⟩ := HH.out 0 hpos
        have d0 := (HB1.out.cell (p := ⟨g, off + 0 * 7, none⟩) hg).trans hcc.c0
        rw [Nat.zero_mul, Nat.add_zero] at d0
        obtain ⟨kd, hkd⟩ : ∃ kd, kd = f.nodes[0].kind := ⟨_, rfl⟩
        rw [← hkd] at d0
        have HKD : Hid (kindAt f.nodes 0 = kd) := Lib.hid (by rw [hkd]; simp [kindAt, List.getD, hpos])
        have z3 := fun d os => cell_regrown (w := W1) d0 d os
        clear hcc hkd c1 c2
        by_cases c4 : kd = 2
        · subst c4
          refine wp_region_quiet_below (by kernel_rfl) (by kernel_rfl) ?_
          repeat (first | go_big_quiet_step ((first | (go_at_call 86; exact Calls.regrown_of (l1In_is (by first | exact HC1.out | exact HC2.out) _)) | (go_at_call 81; exact Calls.regrown_of (l3Bytes_any f _ _ (HF1.out.below (below_regrown _ _ _)) HSZ.out)))) | quiet_step ((first | (go_at_call 86; exact Calls.regrown_of (l1In_is (by first | exact HC1.out | exact HC2.out) _)) | (go_at_call 81; exact Calls.regrown_of (l3Bytes_any f _ _ (HF1.out.below (below_regrown _ _ _)) HSZ.out)))))
          refine wpQuiet_nil ?_
          intro w5 hwq
          have hb5 : Below W1.heap.size W1 w5 := by
            obtain ⟨pp, rfl⟩ := hwq
            exact below_regrown _ _ _
          have HB5 := Lib.hid (HB1.out.trans (hb5.mono HB1.out.size))
          have HK5 := Lib.hid ((hb5.block w.heap.size (lt_of_heap HK1.out)).trans HK1.out)
          clear hwq hb5
          have b0 := (cell_blk HK5.out 0).trans rfl
          have b1 := (cell_blk HK5.out 1).trans rfl
          clear z0 z1 z3 d0 s0 s1
          go_wp2
          go_loopw [38] (fun i wr => ∃ k : Nat, k ≤ f.nodes.length ∧ i = .int .i64 k ∧ Below w.heap.size w wr ∧ wr.heap[w.heap.size]? = some (.cells #[.slice (some ⟨g, off, none⟩) f.nodes.length c, .int .i64 f.room] 26) ∧ ∀ j (hj : j < f.nodes.length), j < k → nodOk f.nodes f.nodes[j] = true) (fun i _ => f.nodes.length - (intOf i).toNat)
          case atStart => exact ⟨0, Nat.zero_le _, rfl, HB5.out, HK5.out, fun j hj h => absurd h (Nat.not_lt_zero _)⟩
          case round =>
            obtain ⟨k, hk, rfl, hB, hb, hj⟩ := hrel
            have HJ := Lib.hid hj
            clear hj b0 b1
            by_cases hlt : k < f.nodes.length
            · obtain ⟨g3, f3, lv, e3, hg3, hcc, he, hml⟩ := HH.out k hlt
              obtain ⟨rfl, rfl⟩ : g = g3 ∧ off = f3 := by simpa using e3
              obtain ⟨d0, d1, d2, d3, d4, d5, d6⟩ := hcc.below hB hg3
              have hq2 := HL.out f.nodes[k] (List.getElem_mem hlt)
              obtain ⟨q, hqq⟩ : ∃ q, q = f.nodes[k] := ⟨_, rfl⟩
              have HQ := Lib.hid hqq
              rw [← hqq] at d0 d1 d2 d3 d4 d5 he hq2
              have HE0 := Lib.hid he
              obtain ⟨o2, c2, rfl, -, -⟩ := id he
              obtain ⟨hq3, hq4, -⟩ := hq2
              have HA1 : Hid (∀ oo, Below w.heap.size w (wr.alloc oo)) := Lib.hid (fun oo => hB.alloc hB.size oo)
              have hb3 : (wr.alloc (.cells #[.int .i64 q.kind, .int .i64 q.mode, .int .i64 q.uid, .int .i64 q.gid, .int .i64 q.time, .string (bs q.data), .slice o2 q.list.length c2] 50)).heap[w.heap.size]? = some (.cells #[.slice (some ⟨g, off, none⟩) f.nodes.length c, .int .i64 f.room] 26) := (Below.heap_alloc _ _ _ (lt_of_heap hb)).trans hb
              have HB3 := Lib.hid hb3
              have t0 := (cell_blk hb3 0).trans rfl
              have t1 := (cell_blk hb3 1).trans rfl
              have b0 := (cell_blk hb 0).trans rfl
              have b1 := (cell_blk hb 1).trans rfl
              clear hcc hml hqq he hb3 e3
              by_cases hno : nodOk f.nodes q = true
              · have HNO := Lib.hid hno
                have HJ2 : Hid (∀ j (hj : j < f.nodes.length), j < k + 1 → nodOk f.nodes f.nodes[j] = true) := Lib.hid (by
                  intro j hj h
                  rcases Nat.lt_succ_iff_lt_or_eq.1 h with h1 | rfl
                  · exact HJ.out j hj h1
                  · rw [← HQ.out]; exact HNO.out)
                go_wp2_with fail
                refine (l3Node_any f q _ _ _ (HR.out.below (HA1.out _)) (HE0.out.below (HA1.out _)) hl hq3 hq4).mono ?_
                rintro e w6 ⟨rfl, hb6⟩
                rw [HNO.out]
                have HB6 := Lib.hid ((HA1.out _).trans (hb6.mono (HA1.out _).size))
                have HK6 := Lib.hid ((hb6.block w.heap.size (lt_of_heap HB3.out)).trans HB3.out)
                clear hb6
                go_wp2
                go_roundw
                case rel => exact ⟨k + 1, hlt, by go_num, HB6.out, HK6.out, HJ2.out⟩
                case measure => simp [intOf]; omega
              · have HNO : Hid (nodOk f.nodes q = false) := Lib.hid (by simpa using hno)
                have HF : Hid (¬ GoodF f) := Lib.hid (fun h => hno (by rw [HQ.out]; exact h.2.2.2.2.1 _ (List.getElem_mem hlt)))
                go_wp2_with fail
                refine (l3Node_any f q _ _ _ (HR.out.below (HA1.out _)) (HE0.out.below (HA1.out _)) hl hq3 hq4).mono ?_
                rintro e w6 ⟨rfl, hb6⟩
                rw [HNO.out]
                have HB6 := Lib.hid ((HA1.out _).trans (hb6.mono (HA1.out _).size))
                clear hb6
                go_wp2
                go_ret
                exact ⟨ret_bool (goodF_no HF.out), HB6.out⟩
            · have HALL : Hid (∀ n ∈ f.nodes, nodOk f.nodes n = true) := Lib.hid (by
                intro n hn
                obtain ⟨j, hj, rfl⟩ := List.getElem_of_mem hn
                exact HJ.out j hj (by omega))
              have HLD := Lib.hid (lead_of HALL.out)
              have b0 := (cell_blk hb 0).trans rfl
              have b1 := (cell_blk hb 1).trans rfl
              have HB7 := Lib.hid hB
              go_wp2_with fail
              refine (l3Met_any f HLD.out hl (fun n hn => (HL.out n hn).1) _ [] 0 _ _ _ rfl (HR.out.below hB) (RdI.nil _) ⟨List.nodup_nil, by simp⟩ (by omega) (by omega)).mono ?_
              rintro e w7 ⟨v7, M7, rfl, hR7, hM7, hb7⟩
              have HM7 : Hid (∀ x, x ∈ M7 ↔ Reach f.nodes 0 x) := Lib.hid hM7.all
              have hl7 := hM7.nums.len
              have HB8 := Lib.hid (hB.trans (hb7.mono hB.size))
              have HK8 := Lib.hid ((hb7.block w.heap.size (lt_of_heap hb)).trans hb)
              have HR7 := Lib.hid hR7
              obtain ⟨o7, c7, rfl, -, -, -, -⟩ := hR7
              have t0 := (cell_blk HK8.out 0).trans rfl
              have t1 := (cell_blk HK8.out 1).trans rfl
              clear b0 b1 hM7 hb7 hB hb
              go_wp2
              go_loopw [52] (fun i wr => ∃ k : Nat, k ≤ f.nodes.length ∧ i = .int .i64 k ∧ Below w.heap.size w wr ∧ wr.heap[w.heap.size]? = some (.cells #[.slice (some ⟨g, off, none⟩) f.nodes.length c, .int .i64 f.room] 26) ∧ RdI wr (.slice o7 M7.length c7) M7 ∧ ∀ j, j < k → TailOk f.nodes j) (fun i _ => f.nodes.length - (intOf i).toNat)
              case atStart => exact ⟨0, Nat.zero_le _, rfl, HB8.out, HK8.out, HR7.out, fun j h => absurd h (Nat.not_lt_zero _)⟩
              case round =>
                obtain ⟨k, hk, rfl, hB, hb, hRr, hj⟩ := hrel
                have HJ := Lib.hid hj
                have HRr := Lib.hid hRr
                clear hj hRr t0 t1
                by_cases hlt : k < f.nodes.length
                · obtain ⟨g3, f3, lv, e3, hg3, hcc, he, hml⟩ := HH.out k hlt
                  obtain ⟨rfl, rfl⟩ : g = g3 ∧ off = f3 := by simpa using e3
                  obtain ⟨d0, d1, d2, d3, d4, d5, d6⟩ := hcc.below hB hg3
                  obtain ⟨q, hqq⟩ : ∃ q, q = f.nodes[k] := ⟨_, rfl⟩
                  have HKq : Hid (kindAt f.nodes (k : Int) = q.kind) := Lib.hid (by rw [hqq]; simp [kindAt, List.getD, hlt])
                  rw [← hqq] at d0 d1 d2 d3 d4 d5 he
                  obtain ⟨o2, c2, rfl, -, -⟩ := id he
                  have HA1 : Hid (∀ oo, Below w.heap.size w (wr.alloc oo)) := Lib.hid (fun oo => hB.alloc hB.size oo)
                  have HA2 : Hid (∀ oo, Below wr.heap.size wr (wr.alloc oo)) := Lib.hid (fun oo => (Below.refl _ _).alloc (Nat.le_refl _) _)
                  have hb3 : (wr.alloc (.cells #[.int .i64 q.kind, .int .i64 q.mode, .int .i64 q.uid, .int .i64 q.gid, .int .i64 q.time, .string (bs q.data), .slice o2 q.list.length c2] 50)).heap[w.heap.size]? = some (.cells #[.slice (some ⟨g, off, none⟩) f.nodes.length c, .int .i64 f.room] 26) := (Below.heap_alloc _ _ _ (lt_of_heap hb)).trans hb
                  have HB3 := Lib.hid hb3
                  have t0 := (cell_blk hb3 0).trans rfl
                  have t1 := (cell_blk hb3 1).trans rfl
                  have b0 := (cell_blk hb 0).trans rfl
                  have b1 := (cell_blk hb 1).trans rfl
                  have hln : links (k : Int) f.nodes ≤ 1048576 := by have h9 := links_le (k : Int) f.nodes; have h8 := HSZ.out; unfold szF at h8; omega
                  obtain ⟨N, hN⟩ : ∃ N, links (k : Int) f.nodes = N := ⟨_, rfl⟩
                  rw [hN] at hln
                  have HN := Lib.hid hN
                  clear hcc hml hqq he hb3 e3 hN
                  go_wp2_with fail
                  refine (l3Links_any f _ _ _ (HR.out.below (HA1.out _)) HSZ.out).mono ?_
                  rintro e w9 ⟨rfl, hb9⟩
                  rw [HN.out]
                  have HB9 := Lib.hid ((HA1.out _).trans (hb9.mono (HA1.out _).size))
                  have HK9 := Lib.hid ((hb9.block w.heap.size (lt_of_heap HB3.out)).trans HB3.out)
                  have HR9 := Lib.hid ((HRr.out.below (HA2.out _)).below hb9)
                  have y0 := (cell_blk ((hb9.block wr.heap.size (by simp)).trans (heap_alloc_new wr (.cells #[.int .i64 q.kind, .int .i64 q.mode, .int .i64 q.uid, .int .i64 q.gid, .int .i64 q.time, .string (bs q.data), .slice o2 q.list.length c2] 50))) 0).trans rfl
                  clear hb9 d0 d1 d2 d3 d4 d5 d6 t0 t1 b0 b1 HA1 HA2
                  rcases Nat.eq_zero_or_pos k with rfl | hpk
                  · by_cases hn0 : N = 0
                    · subst hn0
                      by_cases hz : q.kind = 0
                      · have HT : Hid (TailOk f.nodes (0)) := Lib.hid ⟨fun _ => HN.out, fun h => absurd h (Nat.lt_irrefl 0), fun h => absurd (HKq.out.trans hz) h⟩
                        have zb : (q.kind != 0) = false := by simpa using hz
                        have zc : (q.kind == 0) = true := by simpa using hz
                        have HJ2 : Hid (∀ i, i < 0 + 1 → TailOk f.nodes i) := Lib.hid (by
                          intro i h
                          rcases Nat.lt_succ_iff_lt_or_eq.1 h with h1 | rfl
                          · exact HJ.out i h1
                          · exact HT.out)
                        go_wp2
                        go_roundw
                        case rel => exact ⟨0 + 1, hlt, by go_num, HB9.out, HK9.out, HR9.out, HJ2.out⟩
                        case measure => simp [intOf]; omega
                      · have zb : (q.kind != 0) = true := by simpa using hz
                        have zc : (q.kind == 0) = false := by simpa using hz
                        by_cases hh : hasI M7 ((0 : Nat) : Int) = true
                        · have HHAS := Lib.hid hh
                          have HT : Hid (TailOk f.nodes (0)) := Lib.hid ⟨fun _ => HN.out, fun h => absurd h (Nat.lt_irrefl 0), fun _ => (HM7.out _).1 (hasI_iff.1 hh)⟩
                          have HJ2 : Hid (∀ i, i < 0 + 1 → TailOk f.nodes i) := Lib.hid (by
                            intro i h
                            rcases Nat.lt_succ_iff_lt_or_eq.1 h with h1 | rfl
                            · exact HJ.out i h1
                            · exact HT.out)
                          go_wp2_with fail
                          refine (l1Has_any M7 _ _ _ HR9.out (by omega)).mono ?_
                          rintro e w10 ⟨rfl, rfl⟩
                          first | rw [HHAS.out] | rw [show hasI M7 0 = _ from HHAS.out]
                          go_wp2
                          go_roundw
                          case rel => exact ⟨0 + 1, hlt, by go_num, HB9.out, HK9.out, HR9.out, HJ2.out⟩
                          case measure => simp [intOf]; omega
                        · have HHAS : Hid (hasI M7 ((0 : Nat) : Int) = false) := Lib.hid (by simpa using hh)
                          have HF : Hid (¬ GoodF f) := Lib.hid (fun h => by have ht := h.2.2.2.2.2 (0) hlt; exact hh (hasI_iff.2 ((HM7.out _).2 (ht.2.2 (by rw [HKq.out]; exact hz)))))
                          go_wp2_with fail
                          refine (l1Has_any M7 _ _ _ HR9.out (by omega)).mono ?_
                          rintro e w10 ⟨rfl, rfl⟩
                          first | rw [HHAS.out] | rw [show hasI M7 0 = _ from HHAS.out]
                          go_wp2
                          go_ret
                          exact ⟨ret_bool (goodF_no HF.out), HB9.out⟩
                    · have hn1 : 0 < N := by omega
                      have HF : Hid (¬ GoodF f) := Lib.hid (fun h => by have ht := h.2.2.2.2.2 (0) hlt; exact hn0 (by rw [← HN.out]; exact ht.1 rfl))
                      go_wp2
                      go_ret
                      exact ⟨ret_bool (goodF_no HF.out), HB9.out⟩
                  · obtain ⟨j, rfl⟩ : ∃ j, k = j + 1 := ⟨k - 1, by omega⟩
                    by_cases hk2 : q.kind = 2
                    · have kb : (q.kind == 2) = true := by simpa using hk2
                      by_cases hn1 : N = 1
                      · subst hn1
                        by_cases hz : q.kind = 0
                        · exact absurd (hk2.symm.trans hz) (by decide)
                        · have zb : (q.kind != 0) = true := by simpa using hz
                          have zc : (q.kind == 0) = false := by simpa using hz
                          by_cases hh : hasI M7 ((j + 1 : Nat) : Int) = true
                          · have HHAS := Lib.hid hh
                            have HT : Hid (TailOk f.nodes (j + 1)) := Lib.hid ⟨fun h => absurd h (by omega), fun _ _ => HN.out, fun _ => (HM7.out _).1 (hasI_iff.1 hh)⟩
                            have HJ2 : Hid (∀ i, i < j + 1 + 1 → TailOk f.nodes i) := Lib.hid (by
                              intro i h
                              rcases Nat.lt_succ_iff_lt_or_eq.1 h with h1 | rfl
                              · exact HJ.out i h1
                              · exact HT.out)
                            go_wp2_with fail
                            refine (l1Has_any M7 _ _ _ HR9.out (by omega)).mono ?_
                            rintro e w10 ⟨rfl, rfl⟩
                            first | rw [HHAS.out] | rw [show hasI M7 ((j : Int) + 1) = _ from HHAS.out]
                            go_wp2
                            go_roundw
                            case rel => exact ⟨j + 1 + 1, hlt, by go_num, HB9.out, HK9.out, HR9.out, HJ2.out⟩
                            case measure => simp [intOf]; omega
                          · have HHAS : Hid (hasI M7 ((j + 1 : Nat) : Int) = false) := Lib.hid (by simpa using hh)
                            have HF : Hid (¬ GoodF f) := Lib.hid (fun h => by have ht := h.2.2.2.2.2 (j + 1) hlt; exact hh (hasI_iff.2 ((HM7.out _).2 (ht.2.2 (by rw [HKq.out]; exact hz)))))
                            go_wp2_with fail
                            refine (l1Has_any M7 _ _ _ HR9.out (by omega)).mono ?_
                            rintro e w10 ⟨rfl, rfl⟩
                            first | rw [HHAS.out] | rw [show hasI M7 ((j : Int) + 1) = _ from HHAS.out]
                            go_wp2
                            go_ret
                            exact ⟨ret_bool (goodF_no HF.out), HB9.out⟩
                      · have nb : ((N : Int) != 1) = true := by rw [bne_iff_ne]; omega
                        have HF : Hid (¬ GoodF f) := Lib.hid (fun h => by have ht := h.2.2.2.2.2 (j + 1) hlt; exact hn1 (by rw [← HN.out]; exact ht.2.1 (by omega) (HKq.out.trans hk2)))
                        go_wp2
                        go_ret
                        exact ⟨ret_bool (goodF_no HF.out), HB9.out⟩
                    · have kb : (q.kind == 2) = false := by simpa using hk2
                      by_cases hz : q.kind = 0
                      · have HT : Hid (TailOk f.nodes (j + 1)) := Lib.hid ⟨fun h => absurd h (by omega), fun _ h => absurd (HKq.out.symm.trans h) hk2, fun h => absurd (HKq.out.trans hz) h⟩
                        have zb : (q.kind != 0) = false := by simpa using hz
                        have zc : (q.kind == 0) = true := by simpa using hz
                        have HJ2 : Hid (∀ i, i < j + 1 + 1 → TailOk f.nodes i) := Lib.hid (by
                          intro i h
                          rcases Nat.lt_succ_iff_lt_or_eq.1 h with h1 | rfl
                          · exact HJ.out i h1
                          · exact HT.out)
                        go_wp2
                        go_roundw
                        case rel => exact ⟨j + 1 + 1, hlt, by go_num, HB9.out, HK9.out, HR9.out, HJ2.out⟩
                        case measure => simp [intOf]; omega
                      · have zb : (q.kind != 0) = true := by simpa using hz
                        have zc : (q.kind == 0) = false := by simpa using hz
                        by_cases hh : hasI M7 ((j + 1 : Nat) : Int) = true
                        · have HHAS := Lib.hid hh
                          have HT : Hid (TailOk f.nodes (j + 1)) := Lib.hid ⟨fun h => absurd h (by omega), fun _ h => absurd (HKq.out.symm.trans h) hk2, fun _ => (HM7.out _).1 (hasI_iff.1 hh)⟩
                          have HJ2 : Hid (∀ i, i < j + 1 + 1 → TailOk f.nodes i) := Lib.hid (by
                            intro i h
                            rcases Nat.lt_succ_iff_lt_or_eq.1 h with h1 | rfl
                            · exact HJ.out i h1
                            · exact HT.out)
                          go_wp2_with fail
                          refine (l1Has_any M7 _ _ _ HR9.out (by omega)).mono ?_
                          rintro e w10 ⟨rfl, rfl⟩
                          first | rw [HHAS.out] | rw [show hasI M7 ((j : Int) + 1) = _ from HHAS.out]
                          go_wp2
                          go_roundw
                          case rel => exact ⟨j + 1 + 1, hlt, by go_num, HB9.out, HK9.out, HR9.out, HJ2.out⟩
                          case measure => simp [intOf]; omega
                        · have HHAS : Hid (hasI M7 ((j + 1 : Nat) : Int) = false) := Lib.hid (by simpa using hh)
                          have HF : Hid (¬ GoodF f) := Lib.hid (fun h => by have ht := h.2.2.2.2.2 (j + 1) hlt; exact hh (hasI_iff.2 ((HM7.out _).2 (ht.2.2 (by rw [HKq.out]; exact hz)))))
                          go_wp2_with fail
                          refine (l1Has_any M7 _ _ _ HR9.out (by omega)).mono ?_
                          rintro e w10 ⟨rfl, rfl⟩
                          first | rw [HHAS.out] | rw [show hasI M7 ((j : Int) + 1) = _ from HHAS.out]
                          go_wp2
                          go_ret
                          exact ⟨ret_bool (goodF_no HF.out), HB9.out⟩
                · go_wp2
                  go_ret
                  exact ⟨ret_bool (goodF_yes ⟨HC1.out, HC2.out, c3, HKD.out, HALL.out, fun k h => HJ.out k (by omega)⟩), hB⟩
        · have HF : Hid (¬ GoodF f) := Lib.hid (fun h => c4 (by rw [← HKD.out]; exact h.2.2.2.1))
          have c4b : (kd == 2) = false := beq_eq_false_iff_ne.2 c4
          have c4d : (kd != 2) = true := by simpa using c4
          refine wp_region_quiet_below (by kernel_rfl) (by kernel_rfl) ?_
          repeat (first | go_big_quiet_step ((first | (go_at_call 86; exact Calls.regrown_of (l1In_is (by first | exact HC1.out | exact HC2.out) _)) | (go_at_call 81; exact Calls.regrown_of (l3Bytes_any f _ _ (HF1.out.below (below_regrown _ _ _)) HSZ.out)))) | quiet_step ((first | (go_at_call 86; exact Calls.regrown_of (l1In_is (by first | exact HC1.out | exact HC2.out) _)) | (go_at_call 81; exact Calls.regrown_of (l3Bytes_any f _ _ (HF1.out.below (below_regrown _ _ _)) HSZ.out)))))
          refine wpQuiet_nil ?_
          intro w5 hwq
          have hb5 : Below W1.heap.size W1 w5 := by
            obtain ⟨pp, rfl⟩ := hwq
            exact below_regrown _ _ _
          have HB5 := Lib.hid (HB1.out.trans (hb5.mono HB1.out.size))
          have HK5 := Lib.hid ((hb5.block w.heap.size (lt_of_heap HK1.out)).trans HK1.out)
          clear hwq hb5
          go_wp2
          go_ret
          exact ⟨ret_bool (goodF_no HF.out), HB5.out⟩
      · have HF : Hid (¬ GoodF f) := Lib.hid (fun h => c3 h.2.2.1)
        have HC2 := Lib.hid c2
        refine wp_region_quiet_below (by kernel_rfl) (by kernel_rfl) ?_
        repeat (first | go_big_quiet_step ((first | (go_at_call 86; exact Calls.regrown_of (l1In_is (by first | exact HC1.out | exact HC2.out) _)) | (go_at_call 81; exact Calls.regrown_of (l3Bytes_any f _ _ (HF1.out.below (below_regrown _ _ _)) HSZ.out)))) | quiet_step ((first | (go_at_call 86; exact Calls.regrown_of (l1In_is (by first | exact HC1.out | exact HC2.out) _)) | (go_at_call 81; exact Calls.regrown_of (l3Bytes_any f _ _ (HF1.out.below (below_regrown _ _ _)) HSZ.out)))))
        refine wpQuiet_nil ?_
        intro w5 hwq
        have hb5 : Below W1.heap.size W1 w5 := by
          obtain ⟨pp, rfl⟩ := hwq
          exact below_regrown _ _ _
        have HB5 := Lib.hid (HB1.out.trans (hb5.mono HB1.out.size))
        have HK5 := Lib.hid ((hb5.block w.heap.size (lt_of_heap HK1.out)).trans HK1.out)
        clear hwq hb5
        go_wp2
        go_ret
        exact ⟨ret_bool (goodF_no HF.out), HB5.out⟩
    · have HC2 : Hid (inB 0 1000 f.room = false) := Lib.hid (by simpa using c2)
      have HF : Hid (¬ GoodF f) := Lib.hid (fun h => c2 h.2.1)
      refine wp_region_quiet_below (by kernel_rfl) (by kernel_rfl) ?_
      repeat (first | go_big_quiet_step ((first | (go_at_call 86; exact Calls.regrown_of (l1In_is (by first | exact HC1.out | exact HC2.out) _)) | (go_at_call 81; exact Calls.regrown_of (l3Bytes_any f _ _ (HF1.out.below (below_regrown _ _ _)) HSZ.out)))) | quiet_step ((first | (go_at_call 86; exact Calls.regrown_of (l1In_is (by first | exact HC1.out | exact HC2.out) _)) | (go_at_call 81; exact Calls.regrown_of (l3Bytes_any f _ _ (HF1.out.below (below_regrown _ _ _)) HSZ.out)))))
      refine wpQuiet_nil ?_
      intro w5 hwq
      have hb5 : Below W1.heap.size W1 w5 := by
        obtain ⟨pp, rfl⟩ := hwq
        exact below_regrown _ _ _
      have HB5 := Lib.hid (HB1.out.trans (hb5.mono HB1.out.size))
      have HK5 := Lib.hid ((hb5.block w.heap.size (lt_of_heap HK1.out)).trans HK1.out)
      clear hwq hb5
      go_wp2
      go_ret
      exact ⟨ret_bool (goodF_no HF.out), HB5.out⟩
  · have HC1 : Hid (inB 1 40 (f.nodes.length : Int) = false) := Lib.hid (by simpa using c1)
    have HF : Hid (¬ GoodF f) := Lib.hid (fun h => c1 h.1)
    have HC2 := HC1
    refine wp_region_quiet_below (by kernel_rfl) (by kernel_rfl) ?_
    repeat (first | go_big_quiet_step ((first | (go_at_call 86; exact Calls.regrown_of (l1In_is (by first | exact HC1.out | exact HC2.out) _)) | (go_at_call 81; exact Calls.regrown_of (l3Bytes_any f _ _ (HF1.out.below (below_regrown _ _ _)) HSZ.out)))) | quiet_step ((first | (go_at_call 86; exact Calls.regrown_of (l1In_is (by first | exact HC1.out | exact HC2.out) _)) | (go_at_call 81; exact Calls.regrown_of (l3Bytes_any f _ _ (HF1.out.below (below_regrown _ _ _)) HSZ.out)))))
    refine wpQuiet_nil ?_
    intro w5 hwq
    have hb5 : Below W1.heap.size W1 w5 := by
      obtain ⟨pp, rfl⟩ := hwq
      exact below_regrown _ _ _
    have HB5 := Lib.hid (HB1.out.trans (hb5.mono HB1.out.size))
    have HK5 := Lib.hid ((hb5.block w.heap.size (lt_of_heap HK1.out)).trans HK1.out)
    clear hwq hb5
    go_wp2
    go_ret
    exact ⟨ret_bool (goodF_no HF.out), HB5.out⟩

end Go.Proofs.YtgmkfhhlnhgkhaaGreatDoor
