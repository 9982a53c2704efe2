/-
  The contract of impl.CleanPath.
  Conditions: a text of at most 2^30 bytes.
-/
import Derived.Test.YtpdnhaaedibbaaaCleanC
namespace Go.Proofs.Ytpdnhaaedibbaaa
open Go.RowKit Go.Shelf
set_option linter.unusedVariables false

theorem clStep_mem {wh : Bool} {st : List (List UInt8)} {p q : List UInt8} (h : q ∈ clStep wh st p) : q ∈ st ∨ q = p := by
  unfold clStep at h
  repeat' split at h
  all_goals try exact .inl h
  · exact .inl ((List.dropLast_sublist _).subset h)
  · simpa using h
  · simpa using h
theorem clean_mem {wh : Bool} {ps : List (List UInt8)} {q : List UInt8} (h : q ∈ clean wh ps) : q ∈ ps := by
  have : ∀ (l st : List (List UInt8)), q ∈ l.foldl (clStep wh) st → q ∈ st ∨ q ∈ l := by
    intro l
    induction l with
    | nil => intro st h; exact .inl h
    | cons p l ih =>
      intro st h
      rcases ih _ h with h1 | h1
      · rcases clStep_mem h1 with h2 | h2
        · exact .inl h2
        · exact .inr (by simp [h2])
      · exact .inr (by simp [h1])
  rcases this ps [] h with h1 | h1
  · simp at h1
  · exact h1
theorem clean_len (wh : Bool) (ps : List (List UInt8)) : (clean wh ps).length ≤ ps.length := by
  have h := keptOf_le wh (ps.map bs)
  rw [keptOf_parts] at h
  simpa using h
theorem parts_ne {l p : List UInt8} (h : p ∈ parts l) : p ≠ [] := by
  unfold parts full at h
  have := (List.mem_filter.1 h).2
  intro e; subst e; simp at this
theorem slashed_len (m : Nat) : ∀ (ps : List (List UInt8)), (∀ p ∈ ps, p.length ≤ m) → (slashed ps).length ≤ ps.length * (m + 1)
  | [], _ => by simp [slashed]
  | p :: r, h => by
    have h1 := slashed_len m r (fun q hq => h q (by simp [hq]))
    have h2 := h p (by simp)
    have e : slashed (p :: r) = 47 :: p ++ slashed r := by simp [slashed]
    rw [e, List.length_cons, List.cons_append, List.length_cons, List.length_append, Nat.succ_mul]
    omega
theorem join_eq (ps : List (List UInt8)) : 47 :: Lib.join ps [47] = pathL ps := by
  unfold pathL
  split
  · subst_vars; rfl
  · exact join_slashed ps (by assumption)
theorem join_drop {ps : List (List UInt8)} (h : ps ≠ []) : Lib.join ps [47] = (slashed ps).drop 1 := by
  rw [← join_slashed ps h]; rfl
theorem join_ne {ps : List (List UInt8)} (h : ps ≠ []) (hp : ∀ p ∈ ps, p ≠ []) : Lib.join ps [47] ≠ [] := by
  cases ps with
  | nil => exact absurd rfl h
  | cons p r =>
    rw [Lib.join_cons]
    intro e
    exact hp p (by simp) (List.append_eq_nil_iff.1 e).1
theorem clean_small {l : List UInt8} (h : goodB l = true) : (Lib.join (cleanOf l) [47]).length ≤ 10000 ∧ (cleanOf l).length ≤ 61 := by
  have hl : 1 ≤ l.length ∧ l.length ≤ 60 := by simp [goodB] at h; exact h.1
  have h1 : ∀ p ∈ cleanOf l, p.length ≤ 60 := fun p hp => Nat.le_trans (part_le (clean_mem hp)) hl.2
  have h2 := slashed_len 60 (cleanOf l) h1
  have h3 : (cleanOf l).length ≤ 61 := Nat.le_trans (clean_len _ _) (Nat.le_trans (parts_le l) (by omega))
  refine ⟨?_, h3⟩
  by_cases hn : cleanOf l = []
  · rw [hn]; simp [Lib.join]
  · have := join_slashed _ hn
    have h4 : (Lib.join (cleanOf l) [47]).length ≤ (slashed (cleanOf l)).length := by rw [← this]; simp
    have h5 : (cleanOf l).length * (60 + 1) ≤ 61 * 61 := Nat.mul_le_mul h3 (by omega)
    omega

theorem map_data (ps : List (List UInt8)) : (ps.map bs).map (fun x => x.data.toList) = ps := by
  rw [List.map_map]
  conv => rhs; rw [← List.map_id ps]
  exact List.map_congr_left fun p _ => bs_list p

theorem join_rd {ps : List (List UInt8)} {v : Value} {w : World} (h : Rd w v ps) (hlen : (Lib.join ps [47]).length ≤ 140737488355328) (hn : ps.length ≤ 140737488355328) :
    Calls Try.prog 50 #[v, .string ⟨#[47]⟩] w fun e w' => e = .returned (.string (bs (Lib.join ps [47]))) ∧ Below w.heap.size w w' := by
  obtain ⟨o, c, rfl, hlc, hcm, hH⟩ := h
  by_cases h0 : ps = []
  · subst h0
    refine (Try.strings_Join_none o c ⟨#[47]⟩ w).mono fun e w' ⟨he, hw⟩ => ⟨he, hw ▸ Below.refl _ _⟩
  · have hp : 0 < ps.length := List.length_pos_iff.2 h0
    obtain ⟨g, off, rfl, hg, _⟩ := hH 0 hp
    have hlen' : (Lib.join ((ps.map bs).map (fun x => x.data.toList)) (ByteArray.mk #[47]).data.toList).length ≤ 140737488355328 := by rw [map_data]; exact hlen
    have hx := Try.strings_Join g off c (ps.map bs) ⟨#[47]⟩ w (fun j x hx => by
      rw [List.getElem?_map] at hx
      obtain ⟨p, hp1, rfl⟩ := Option.map_eq_some_iff.1 hx
      obtain ⟨hj, rfl⟩ := List.getElem?_eq_some_iff.1 hp1
      obtain ⟨g', off', e, _, hc⟩ := hH j hj
      simp only [Option.some.injEq, Addr.mk.injEq, and_true] at e
      obtain ⟨rfl, rfl⟩ := e
      exact hc) hg (by simpa using hn) (by simpa using hlc) hlen'
    rw [List.length_map] at hx
    refine hx.mono fun e w' ⟨he, hb⟩ => ⟨?_, hb⟩
    rw [he, map_data]
    rfl

theorem cleanT_whole {l : List UInt8} (h : wholeB l = true) : bs [47] ++ bs (Lib.join (cleanOf l) [47]) = bs (cleanT l) := by
  rw [bs_app]
  unfold cleanT
  rw [if_pos h]
  exact congrArg bs (join_eq _)
theorem cleanT_none {l : List UInt8} (h : wholeB l = false) (h0 : cleanOf l = []) : cleanT l = [46] := by simp [cleanT, h, h0]
theorem cleanT_some {l : List UInt8} (h : wholeB l = false) (h0 : cleanOf l ≠ []) : cleanT l = Lib.join (cleanOf l) [47] := by
  unfold cleanT; rw [h, if_neg (by simp), if_neg h0, join_drop h0]

set_option maxHeartbeats 1000000 in
theorem cleanPath_no (s : ByteArray) (w : World) (hs : s.size ≤ 1073741824) (h : goodB s.data.toList = false) : Calls Try.prog 17 #[.string s] w fun e w' => e = .returned (.tuple #[.string ⟨#[]⟩, .bool false]) ∧ Below w.heap.size w w' := by
  have HG := Lib.hid h
  clear h
  go_enter Try.func17, Try.ntmps17
  go_wp2_with (go_at_call 23; refine (goodPath_any _ _ (by unfold maxLen; omega)).mono ?_; rintro e w' ⟨rfl, hb⟩; rw [HG.out])
  go_ret2
  exact ⟨rfl, hb⟩

set_option maxHeartbeats 1000000 in
theorem cleanPath_yes (s : ByteArray) (w : World) (hs : s.size ≤ 1073741824) (h : goodB s.data.toList = true) : Calls Try.prog 17 #[.string s] w fun e w' => e = .returned (.tuple #[.string (bs (cleanT s.data.toList)), .bool true]) ∧ Below w.heap.size w w' := by
  have HG := Lib.hid h
  obtain ⟨hj, hc⟩ := clean_small h
  have HNE : Hid (∀ p ∈ cleanOf s.data.toList, p ≠ []) := Lib.hid (fun p hp => parts_ne (clean_mem hp))
  clear h
  go_enter Try.func17, Try.ntmps17
  go_wp2_with fail
  refine (goodPath_any _ _ (by unfold maxLen; omega)).mono ?_
  rintro e w1 ⟨rfl, hb1⟩
  rw [HG.out]
  go_wp2_with fail
  refine (cleanParts_any _ _ hs).mono ?_
  rintro e w2 ⟨v, rfl, hL, hb2⟩
  have hR := hL.read
  have HR := Lib.hid hR
  clear hL hR
  go_wp2_with fail
  refine (join_rd HR.out (by omega) (by omega)).mono ?_
  rintro e w3 ⟨rfl, hb3⟩
  have hb : Below w.heap.size w w3 := (hb1.trans (hb2.mono hb1.size)).trans (hb3.mono (Nat.le_trans hb1.size hb2.size))
  by_cases hw : wholeB s.data.toList = true
  · have HW := Lib.hid hw
    clear hw hb1 hb2 hb3
    have hjs : (bs (Lib.join (cleanOf s.data.toList) [47])).size ≤ 10000 := by rw [bs_size]; exact hj
    obtain ⟨x, hx⟩ : ∃ x, x = bs (Lib.join (cleanOf s.data.toList) [47]) := ⟨_, rfl⟩
    rw [← hx] at hjs ⊢
    have HX := Lib.hid hx
    clear hx
    go_wp2_with (go_at_call 52; refine (isWhole_any _ _).mono ?_; rintro e w' ⟨rfl, rfl⟩; rw [HW.out])
    go_ret2
    refine ⟨?_, hb⟩
    rw [← cleanT_whole HW.out, ← HX.out]
    rfl
  · have HW := Lib.hid (show wholeB s.data.toList = false by simpa using hw)
    clear hw hb1 hb2 hb3
    by_cases h0 : cleanOf s.data.toList = []
    · have HT := Lib.hid (cleanT_none HW.out h0)
      have hx : bs (Lib.join (cleanOf s.data.toList) [47]) = ⟨#[]⟩ := by rw [h0]; rfl
      rw [hx]
      clear hx h0
      go_wp2_with (go_at_call 52; refine (isWhole_any _ _).mono ?_; rintro e w' ⟨rfl, rfl⟩; rw [HW.out])
      go_ret2
      exact ⟨by rw [HT.out]; rfl, hb⟩
    · have HT := Lib.hid (cleanT_some HW.out h0)
      obtain ⟨t1, t2, t3⟩ := text_ne (join_ne h0 HNE.out)
      obtain ⟨x, hx⟩ : ∃ x, x = bs (Lib.join (cleanOf s.data.toList) [47]) := ⟨_, rfl⟩
      rw [← hx] at t1 t2 t3 ⊢
      have HX := Lib.hid hx
      clear hx h0
      go_wp2_with (go_at_call 52; refine (isWhole_any _ _).mono ?_; rintro e w' ⟨rfl, rfl⟩; rw [HW.out])
      go_ret2
      exact ⟨by rw [HT.out, ← HX.out]; rfl, hb⟩
end Go.Proofs.Ytpdnhaaedibbaaa
