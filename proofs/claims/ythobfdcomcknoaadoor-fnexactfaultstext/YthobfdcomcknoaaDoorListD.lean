
/-
  Contracts of spec.l2Parts, spec.l2Path, spec.GoodPath.
  Conditions: a text of at most 2^30 bytes.
-/
import Derived.Test.YthobfdcomcknoaaDoorListC
namespace Go.Proofs.YthobfdcomcknoaaDoor
open Go.ChangeShapes Go.WideShapes Go.ChangeAt Go.RowKit Go.Joins
set_option linter.unusedVariables false

theorem full_take_yes {qs : List (List UInt8)} {k : Nat} (h : k < qs.length) (hn : qs[k] ≠ []) : full (qs.take (k + 1)) = full (qs.take k) ++ [qs[k]] := by
  rw [List.take_succ_eq_append_getElem h, full_app]; simp [full, hn]
theorem full_take_no {qs : List (List UInt8)} {k : Nat} (h : k < qs.length) (hn : qs[k] = []) : full (qs.take (k + 1)) = full (qs.take k) := by
  rw [List.take_succ_eq_append_getElem h, full_app]; simp [full, hn]
theorem full_le (qs : List (List UInt8)) : (full qs).length ≤ qs.length := List.length_filter_le _ _
theorem text_ne {p : List UInt8} (h : p ≠ []) : ((bs p).toList.isEmpty) = false ∧ (!(bs p).toList.isEmpty) = true ∧ (bs p).toList ≠ [] := by
  rw [ByteArray.toList_eq, bs_list]
  refine ⟨?_, ?_, h⟩ <;> cases p <;> simp_all
theorem split_len (l : List UInt8) : ((sp l).1 ++ [(sp l).2]).length ≤ l.length + 1 := by have := sp_one_le l; simp; omega

set_option maxHeartbeats 1000000 in
theorem l2Parts_any (s : ByteArray) (w : World) (hs : s.size ≤ 1073741824) : Calls Tryd.prog 17 #[.string s] w fun e w' => ∃ v, e = .returned v ∧ Lst w' w.heap.size v (parts s.data.toList) ∧ Below w.heap.size w w' := by
  obtain ⟨i0, hi, hz0, hz1, hz2⟩ := info_parts strInfo
  have hql := split_len s.data.toList
  rw [len_size] at hql
  have HQ : Hid (parts s.data.toList = full ((sp s.data.toList).1 ++ [(sp s.data.toList).2])) := Lib.hid rfl
  go_enter Tryd.func17, Tryd.ntmps17
  go_wp2_with fail
  refine (l1Split_any s _ hs).mono ?_
  rintro e w1 ⟨v, rfl, hL, hb1⟩
  obtain ⟨qs, hqs⟩ : ∃ qs, qs = (sp s.data.toList).1 ++ [(sp s.data.toList).2] := ⟨_, rfl⟩
  rw [← hqs] at hL hql
  have HQ2 := Lib.hid (HQ.out.trans (congrArg full hqs.symm))
  clear hqs HQ
  obtain ⟨o, c, rfl, hlc, hcm, hH⟩ := hL.read
  have HH := Lib.hid hH
  clear hH hL
  unfold maxLen at hcm
  go_wp2
  go_loopw [3, 9] (fun out i wr => ∃ k : Nat, k ≤ qs.length ∧ i = .int .i64 k ∧ Lst wr w1.heap.size out (full (qs.take k)) ∧ Below w1.heap.size w1 wr) (fun _ i _ => qs.length - (intOf i).toNat)
  case atStart => exact ⟨0, Nat.zero_le _, rfl, Lst.nil _ _, Below.refl _ _⟩
  case round =>
    obtain ⟨k, hk, rfl, hL, hB⟩ := hrel
    have hfl : (full (qs.take k)).length ≤ k := Nat.le_trans (full_le _) (List.length_take_le _ _)
    by_cases hlt : k < qs.length
    · obtain ⟨g, off, rfl, hg, hc⟩ := HH.out k hlt
      have hcell : wr.cell? ⟨g, off + k, none⟩ = some (.string (bs qs[k])) := (hB.cell (p := ⟨g, off + k, none⟩) hg).trans hc
      clear hc
      by_cases hp : qs[k] = []
      · have HF := Lib.hid (full_take_no hlt hp)
        rw [hp] at hcell
        clear hp
        have hcell' : wr.cell? ⟨g, off + k, none⟩ = some (.string ⟨#[]⟩) := hcell
        clear hcell
        go_wp2
        go_roundw
        case rel => exact ⟨k + 1, hlt, by go_num, by rw [HF.out]; exact hL, hB⟩
        case measure => simp [intOf]; omega
      · have HF := Lib.hid (full_take_yes hlt hp)
        obtain ⟨hp1, hp2, hp3⟩ := text_ne hp
        obtain ⟨x, hx⟩ : ∃ x, x = bs qs[k] := ⟨_, rfl⟩
        rw [← hx] at hcell hp1 hp2 hp3
        have HX := Lib.hid hx
        clear hx hp
        go_wp2_with (at_builtin; refine wpList_append_own _ rfl _ _ 36 rfl w1.heap.size 9 i0 (.string ⟨#[]⟩) 1 16 Tryd.underlying36 hi hz0 hz1 hz2 rfl (by decide) _ _ _ rfl (hL.alloc _) ⟨wr.heap.size, 0, none⟩ 1 1 [.string x] rfl rfl (cell_one_new _ _ _) (by simp [Value.oneCell']) (by unfold maxLen; omega) (by omega) (by have := hB.size; simp; omega) ?_)
        intro v' w2 hown' hgrow _
        have hb2 := below_app hB hB.size hL hgrow
        have HL := Lib.hid (Lst.snoc HX.out hown')
        clear hown' hgrow hL
        go_wp2
        go_roundw
        case rel => exact ⟨k + 1, hlt, by go_num, by rw [HF.out]; exact HL.out, hb2⟩
        case measure => simp [intOf]; omega
    · have HF : Hid (full (qs.take k) = parts s.data.toList) := Lib.hid (by rw [HQ2.out, List.take_of_length_le (by omega)])
      go_wp2
      go_ret
      refine ⟨_, rfl, ?_, hb1.trans (hB.mono hb1.size)⟩
      rw [HF.out] at hL
      exact lst_mono hL hb1.size

theorem snoc_ind {P : List UInt8 → Prop} (h0 : P []) (hs : ∀ l c, P l → P (l ++ [c])) (l : List UInt8) : P l := by
  have : ∀ m : List UInt8, P m.reverse := by
    intro m
    induction m with
    | nil => exact h0
    | cons c m ih => rw [List.reverse_cons]; exact hs _ _ ih
  simpa using this l.reverse
theorem sp_pieces (l : List UInt8) : (∀ p ∈ (sp l).1, p.length ≤ l.length) ∧ (sp l).2.length ≤ l.length := by
  induction l using snoc_ind with
  | h0 => simp [sp]
  | hs l c ih =>
    rw [sp_snoc, spStep]
    split
    · refine ⟨fun p hp => ?_, by simp⟩
      rcases List.mem_append.1 hp with h | h
      · have := ih.1 p h; simp; omega
      · simp at h; subst h; have := ih.2; simp; omega
    · refine ⟨fun p hp => by have := ih.1 p hp; simp; omega, by have := ih.2; simp; omega⟩
theorem part_le {l p : List UInt8} (h : p ∈ parts l) : p.length ≤ l.length := by
  unfold parts full at h
  have h1 := (List.mem_filter.1 h).1
  rcases List.mem_append.1 h1 with h2 | h2
  · exact (sp_pieces l).1 p h2
  · simp at h2; subst h2; exact (sp_pieces l).2
theorem name_part {p : List UInt8} (h : nameB p = true) : partB p = true := by simp [nameB] at h; exact h.1
theorem part_else {p : List UInt8} (hn : nameB p = false) (h1 : p ≠ [46]) (h2 : p ≠ [46, 46]) : partB p = false := by
  simpa [nameB, h1, h2] using hn
theorem text_neq {p q : List UInt8} (h : p ≠ q) : ((bs p).toList == q) = false := by
  rw [ByteArray.toList_eq, bs_list]; simpa using h
theorem parts_le (l : List UInt8) : (parts l).length ≤ l.length + 1 := Nat.le_trans (full_le _) (split_len l)

end Go.Proofs.YthobfdcomcknoaaDoor
