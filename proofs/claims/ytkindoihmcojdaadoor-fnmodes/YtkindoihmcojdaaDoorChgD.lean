/-
  Contracts of impl.ChangeMode and spec.ChangeMode, for every mode and every text: the same answer.
  Conditions: the text has fewer than 4294967281 bytes.
-/
import Derived.Test.YtkindoihmcojdaaDoorChgC
namespace Go.Proofs.YtkindoihmcojdaaDoor
open Go.ChangeShapes Go.WideShapes Go.ChangeAt Go.RowKit Go.Joins
set_option linter.unusedVariables false

/-- The place of a text's first sign, its length where it has none. -/
def kOf (l : List UInt8) : Nat := l.findIdx fun b => sgnL.contains b
theorem kOf_le (l : List UInt8) : kOf l ≤ l.length := List.findIdx_le_length
theorem kOf_no (l : List UInt8) (j : Nat) (b : UInt8) (h : j < kOf l) (hb : l[j]? = some b) : sgnL.contains b = false := by
  obtain ⟨hj, e⟩ := List.getElem?_eq_some_iff.1 hb
  have := List.not_of_lt_findIdx (p := fun b => sgnL.contains b) (xs := l) h
  rw [e] at this
  simpa using this
theorem kOf_yes (l : List UInt8) (x : UInt8) (hx : l[kOf l]? = some x) : sgnL.contains x = true := by
  obtain ⟨hk, e⟩ := List.getElem?_eq_some_iff.1 hx
  have := List.findIdx_getElem (p := fun b => sgnL.contains b) (xs := l) (w := hk)
  rw [← e]
  exact this
theorem index_hit (l : List UInt8) (h : kOf l < l.length) : Lib.indexAny l sgnL = (kOf l : Int) := by
  have hx : l[kOf l]? = some l[kOf l] := List.getElem?_eq_getElem h
  exact Lib.indexAny_hit (fun j b hj hb => kOf_no l j b hj hb) hx (kOf_yes l _ hx)
theorem index_miss (l : List UInt8) (h : ¬ kOf l < l.length) : Lib.indexAny l sgnL = -1 :=
  Lib.indexAny_none fun j b hj hb => kOf_no l j b (by omega) hb

/-- The mode changed as a text says; none where the mode or the text is not as it must be. -/
noncomputable def chgOf (m : Int) (l : List UInt8) : Option Int :=
  if inB 0 511 m = true ∧ 1 ≤ kOf l ∧ kOf l < l.length then
    match lettersOf whoB (l.take (kOf l)), lettersOf whatB (l.drop (kOf l + 1)) with
    | some a, some b => some (signed m (l.getD (kOf l) 0) a (bits BinOp.and IntKind.i64 a b))
    | _, _ => none
  else none
theorem chg_bad {m : Int} {l : List UInt8} (h : ¬ (inB 0 511 m = true ∧ 1 ≤ kOf l ∧ kOf l < l.length)) : chgOf m l = none := by unfold chgOf; rw [if_neg h]
theorem chg_who {m : Int} {l : List UInt8} (h : lettersOf whoB (l.take (kOf l)) = none) : chgOf m l = none := by
  unfold chgOf
  split
  · rw [h]
  · rfl
theorem chg_what {m : Int} {l : List UInt8} (h : lettersOf whatB (l.drop (kOf l + 1)) = none) : chgOf m l = none := by
  unfold chgOf
  split
  · rw [h]
    cases lettersOf whoB (l.take (kOf l)) <;> rfl
  · rfl
theorem chg_some {m : Int} {l : List UInt8} {x : UInt8} {a b : Int} (h : inB 0 511 m = true ∧ 1 ≤ kOf l ∧ kOf l < l.length) (hx : l[kOf l]? = some x) (ha : lettersOf whoB (l.take (kOf l)) = some a) (hb : lettersOf whatB (l.drop (kOf l + 1)) = some b) :
    chgOf m l = some (signed m x a (bits BinOp.and IntKind.i64 a b)) := by
  unfold chgOf
  rw [if_pos h, ha, hb]
  simp only []
  rw [List.getD_eq_getElem?_getD, hx]
  rfl

theorem ext_take (s : ByteArray) (k : Nat) : (s.extract 0 k).data.toList = s.data.toList.take k := by simp
theorem ext_drop (s : ByteArray) (k : Nat) : (s.extract k s.size).data.toList = s.data.toList.drop k := by
  exact Lib.extract_to_end s k
theorem ext_size (s : ByteArray) (a b : Nat) (hs : s.size < 4294967281) : (s.extract a b).size < 4294967281 := by
  have := ByteArray.size_extract (a := s) (b := a) (e := b)
  omega

set_option maxRecDepth 100000 in
set_option maxHeartbeats 1000000 in
theorem implChange_bad (m : Int) (s : ByteArray) (w : World) (hs : s.size < 4294967281) (h : inB 0 511 m = false ∨ (inB 0 511 m = true ∧ Lib.indexAny s.data.toList sgnL < 1)) :
    Calls Tryd.prog 19 #[.int .i64 m, .string s] w fun e w' => e = .returned (.tuple #[.int .i64 0, .bool false]) ∧ Below w.heap.size w w' := by
  rcases h with h | ⟨h, h1⟩
  all_goals
    go_enter Tryd.func19, Tryd.ntmps19
    go_wp2_with (first | (go_at_call 32; refine (indexAny_any _ _ hs).mono ?_; rintro e w1 ⟨rfl, hb1⟩) | (go_at_call 23; refine (isMode_any _ _).mono ?_; rintro e w' ⟨rfl, rfl⟩))
    go_ret2
    exact ⟨rfl, hb1⟩

set_option maxRecDepth 100000 in
set_option maxHeartbeats 1000000 in
theorem implChange_who (m : Int) (s : ByteArray) (k : Nat) (w : World) (hs : s.size < 4294967281) (h : inB 0 511 m = true) (hi : Lib.indexAny s.data.toList sgnL = (k : Int)) (hk0 : 1 ≤ k) (hk1 : k < s.size)
    (ha : lettersOf whoB (s.extract 0 k).data.toList = none) (o : Option Int) (hb : lettersOf whatB (s.extract (k + 1) s.size).data.toList = o) :
    Calls Tryd.prog 19 #[.int .i64 m, .string s] w fun e w' => e = .returned (.tuple #[.int .i64 0, .bool false]) ∧ Below w.heap.size w w' := by
  have HA := Lib.hid ha
  have HB := Lib.hid hb
  clear ha hb
  go_enter Tryd.func19, Tryd.ntmps19
  go_wp2_with (first | (go_at_call 32; refine (indexAny_any _ _ hs).mono ?_; rintro e w1 ⟨rfl, hb1⟩) | (go_at_call 23; refine (isMode_any _ _).mono ?_; rintro e w' ⟨rfl, rfl⟩) | (go_at_call 33; fail))
  refine (who_none _ _ (ext_size s 0 k hs) HA.out).mono ?_
  rintro e w2 ⟨rfl, hb2⟩
  go_wp2_with fail
  cases o with
  | none =>
    refine (what_none _ _ (ext_size s (k + 1) s.size hs) HB.out).mono ?_
    rintro e w3 ⟨rfl, hb3⟩
    go_wp2
    go_ret2
    have z1 := hb1.size
    have z2 := hb2.size
    exact ⟨rfl, (hb1.trans (hb2.mono z1)).trans (hb3.mono (by omega))⟩
  | some n =>
    refine (what_some _ _ _ (ext_size s (k + 1) s.size hs) HB.out).mono ?_
    rintro e w3 ⟨rfl, hb3⟩
    go_wp2
    go_ret2
    have z1 := hb1.size
    have z2 := hb2.size
    exact ⟨rfl, (hb1.trans (hb2.mono z1)).trans (hb3.mono (by omega))⟩

set_option maxRecDepth 100000 in
set_option maxHeartbeats 1000000 in
theorem implChange_what (m : Int) (s : ByteArray) (k : Nat) (a : Int) (w : World) (hs : s.size < 4294967281) (h : inB 0 511 m = true) (hi : Lib.indexAny s.data.toList sgnL = (k : Int)) (hk0 : 1 ≤ k) (hk1 : k < s.size)
    (ha : lettersOf whoB (s.extract 0 k).data.toList = some a) (hb : lettersOf whatB (s.extract (k + 1) s.size).data.toList = none) :
    Calls Tryd.prog 19 #[.int .i64 m, .string s] w fun e w' => e = .returned (.tuple #[.int .i64 0, .bool false]) ∧ Below w.heap.size w w' := by
  have HA := Lib.hid ha
  have HB := Lib.hid hb
  clear ha hb
  go_enter Tryd.func19, Tryd.ntmps19
  go_wp2_with (first | (go_at_call 32; refine (indexAny_any _ _ hs).mono ?_; rintro e w1 ⟨rfl, hb1⟩) | (go_at_call 23; refine (isMode_any _ _).mono ?_; rintro e w' ⟨rfl, rfl⟩) | (go_at_call 33; fail))
  refine (who_some _ _ _ (ext_size s 0 k hs) HA.out).mono ?_
  rintro e w2 ⟨rfl, hb2⟩
  go_wp2_with fail
  refine (what_none _ _ (ext_size s (k + 1) s.size hs) HB.out).mono ?_
  rintro e w3 ⟨rfl, hb3⟩
  go_wp2
  go_ret2
  have z1 := hb1.size
  have z2 := hb2.size
  exact ⟨rfl, (hb1.trans (hb2.mono z1)).trans (hb3.mono (by omega))⟩

set_option maxRecDepth 100000 in
set_option maxHeartbeats 1000000 in
theorem implChange_some (m : Int) (s : ByteArray) (k : Nat) (x : UInt8) (a b : Int) (w : World) (hs : s.size < 4294967281) (h : inB 0 511 m = true) (hi : Lib.indexAny s.data.toList sgnL = (k : Int)) (hk0 : 1 ≤ k) (hk1 : k < s.size) (hx : s[k]'hk1 = x)
    (ha : lettersOf whoB (s.extract 0 k).data.toList = some a) (hb : lettersOf whatB (s.extract (k + 1) s.size).data.toList = some b) :
    Calls Tryd.prog 19 #[.int .i64 m, .string s] w fun e w' => e = .returned (.tuple #[.int .i64 (signed m x a (bits BinOp.and IntKind.i64 a b)), .bool true]) ∧ Below w.heap.size w w' := by
  have HA := Lib.hid ha
  have HB := Lib.hid hb
  clear ha hb
  go_enter Tryd.func19, Tryd.ntmps19
  go_wp2_with (first | (go_at_call 32; refine (indexAny_any _ _ hs).mono ?_; rintro e w1 ⟨rfl, hb1⟩) | (go_at_call 23; refine (isMode_any _ _).mono ?_; rintro e w' ⟨rfl, rfl⟩) | (go_at_call 33; fail))
  refine (who_some _ _ _ (ext_size s 0 k hs) HA.out).mono ?_
  rintro e w2 ⟨rfl, hb2⟩
  go_wp2_with fail
  refine (what_some _ _ _ (ext_size s (k + 1) s.size hs) HB.out).mono ?_
  rintro e w3 ⟨rfl, hb3⟩
  go_wp2_with fail
  refine (applySign_any _ _ _ _ _).mono ?_
  rintro e w4 ⟨rfl, rfl⟩
  go_wp2
  go_ret2
  have z1 := hb1.size
  have z2 := hb2.size
  exact ⟨rfl, (hb1.trans (hb2.mono z1)).trans (hb3.mono (by omega))⟩

theorem implChange_any (m : Int) (s : ByteArray) (w : World) (hs : s.size < 4294967281) :
    Calls Tryd.prog 19 #[.int .i64 m, .string s] w fun e w' => e = lettersEnd (chgOf m s.data.toList) ∧ Below w.heap.size w w' := by
  have hl := Lib.size_eq s
  by_cases hm : inB 0 511 m = true
  · by_cases hk : 1 ≤ kOf s.data.toList ∧ kOf s.data.toList < s.data.toList.length
    · obtain ⟨hk0, hk1⟩ := hk
      have hi := index_hit _ hk1
      have hks : kOf s.data.toList < s.size := by omega
      have hx := Lib.data_getElem? s (kOf s.data.toList) hks
      have et := ext_take s (kOf s.data.toList)
      have ed := ext_drop s (kOf s.data.toList + 1)
      cases ha : lettersOf whoB (s.data.toList.take (kOf s.data.toList)) with
      | none =>
        refine (implChange_who m s _ w hs hm hi hk0 hks (by rw [et]; exact ha) _ rfl).mono fun e w' k => ⟨?_, k.2⟩
        rw [k.1, chg_who ha]
        rfl
      | some a =>
        cases hb : lettersOf whatB (s.data.toList.drop (kOf s.data.toList + 1)) with
        | none =>
          refine (implChange_what m s _ a w hs hm hi hk0 hks (by rw [et]; exact ha) (by rw [ed]; exact hb)).mono fun e w' k => ⟨?_, k.2⟩
          rw [k.1, chg_what hb]
          rfl
        | some b =>
          refine (implChange_some m s _ _ a b w hs hm hi hk0 hks rfl (by rw [et]; exact ha) (by rw [ed]; exact hb)).mono fun e w' k => ⟨?_, k.2⟩
          rw [k.1, chg_some ⟨hm, hk0, hk1⟩ hx ha hb]
          rfl
    · refine (implChange_bad m s w hs (Or.inr ⟨hm, ?_⟩)).mono fun e w' k => ⟨?_, k.2⟩
      · by_cases hk1 : kOf s.data.toList < s.data.toList.length
        · rw [index_hit _ hk1]
          omega
        · rw [index_miss _ hk1]
          decide
      · rw [k.1, chg_bad (fun h => hk h.2)]
        rfl
  · refine (implChange_bad m s w hs (Or.inl (by simpa using hm))).mono fun e w' k => ⟨?_, k.2⟩
    rw [k.1, chg_bad (fun h => hm h.1)]
    rfl
end Go.Proofs.YtkindoihmcojdaaDoor
