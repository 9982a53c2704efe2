/-
  Contracts of impl.ReadMode and spec.ReadMode, for every text: the mode whose nine signs it is, and true; or 0 and false.
  Conditions: the table's cells (impl's), and what each contract names.
-/
import Derived.Test.YtkindoihmcojdaaDoorTriC
namespace Go.Proofs.YtkindoihmcojdaaDoor
open Go.ChangeShapes Go.WideShapes Go.ChangeAt Go.RowKit Go.Joins
set_option linter.unusedVariables false

theorem cut9 (s : ByteArray) (h : s.size = 9) : s.extract 0 3 ++ s.extract 3 6 ++ s.extract 6 9 = s := by
  obtain ⟨⟨l⟩⟩ := s
  match l, h with
  | [x0, x1, x2, x3, x4, x5, x6, x7, x8], _ => exact ByteArray.ext (by simp)

theorem signs_of (a b c : Int) (ha0 : 0 ≤ a) (ha1 : a ≤ 7) (hb0 : 0 ≤ b) (hb1 : b ≤ 7) (hc0 : 0 ≤ c) (hc1 : c ≤ 7) : sig a ++ sig b ++ sig c = signs (a * 64 + b * 8 + c) := by
  rw [← signs_eq, show (a * 64 + b * 8 + c) / 64 = a by omega, show (a * 64 + b * 8 + c) / 8 % 8 = b by omega, show (a * 64 + b * 8 + c) % 8 = c by omega]

theorem app3 (x y z : ByteArray) (hx : x.size = 3) (hy : y.size = 3) (hz : z.size = 3) : (x ++ y ++ z).extract 0 3 = x ∧ (x ++ y ++ z).extract 3 6 = y ∧ (x ++ y ++ z).extract 6 9 = z := by
  obtain ⟨⟨x⟩⟩ := x
  obtain ⟨⟨y⟩⟩ := y
  obtain ⟨⟨z⟩⟩ := z
  match x, y, z, hx, hy, hz with
  | [x0, x1, x2], [y0, y1, y2], [z0, z1, z2], _, _, _ =>
    exact ⟨ByteArray.ext (by simp), ByteArray.ext (by simp), ByteArray.ext (by simp)⟩

theorem signs_cut (m : Int) : (signs m).extract 0 3 = sig (m / 64) ∧ (signs m).extract 3 6 = sig (m / 8 % 8) ∧ (signs m).extract 6 9 = sig (m % 8) := by
  rw [← signs_eq]
  exact app3 _ _ _ (sig_size _) (sig_size _) (sig_size _)
theorem signs_size (m : Int) : (signs m).size = 9 := by
  rw [← signs_eq, ByteArray.size_append, ByteArray.size_append, sig_size, sig_size, sig_size]

theorem signs_inj (a b : Int) (ha0 : 0 ≤ a) (ha1 : a ≤ 511) (hb0 : 0 ≤ b) (hb1 : b ≤ 511) (h : signs a = signs b) : a = b := by
  obtain ⟨x1, x2, x3⟩ := signs_cut a
  obtain ⟨y1, y2, y3⟩ := signs_cut b
  have e1 := sig_inj (a / 64) (b / 64) (by omega) (by omega) (by omega) (by omega) (by rw [← x1, ← y1, h])
  have e2 := sig_inj (a / 8 % 8) (b / 8 % 8) (by omega) (by omega) (by omega) (by omega) (by rw [← x2, ← y2, h])
  have e3 := sig_inj (a % 8) (b % 8) (by omega) (by omega) (by omega) (by omega) (by rw [← x3, ← y3, h])
  omega

theorem mode_sum (a b c : Int) (ha0 : 0 ≤ a) (ha1 : a ≤ 7) (hb0 : 0 ≤ b) (hb1 : b ≤ 7) (hc0 : 0 ≤ c) (hc1 : c ≤ 7) :
    bits BinOp.or IntKind.i64 0 a = a ∧ bits BinOp.or IntKind.i64 (a * 8) b = a * 8 + b ∧ bits BinOp.or IntKind.i64 ((a * 8 + b) * 8) c = (a * 8 + b) * 8 + c :=
  ⟨or_zero a ha0 ha1, or8 a b (by omega) (by omega) hb0 hb1, or8 (a * 8 + b) c (by omega) (by omega) hc0 hc1⟩

set_option maxRecDepth 100000 in
set_option maxHeartbeats 400000 in
theorem implReadMode3 (s : ByteArray) (a b c : Int) (w : World) (ht : Tab w) (hs : s.size = 9) (e0 : s.extract 0 3 = sig a) (e1 : s.extract 3 6 = sig b) (e2 : s.extract 6 9 = sig c)
    (ha0 : 0 ≤ a) (ha1 : a ≤ 7) (hb0 : 0 ≤ b) (hb1 : b ≤ 7) (hc0 : 0 ≤ c) (hc1 : c ≤ 7) :
    Calls Tryd.prog 12 #[.string s] w fun e w' => e = .returned (.tuple #[.int .i64 (a * 64 + b * 8 + c), .bool true]) ∧ w = w' := by
  obtain ⟨o1, o2, o3⟩ := mode_sum a b c ha0 ha1 hb0 hb1 hc0 hc1
  have HT := Lib.hid ht
  clear ht
  go_enter Tryd.func12, Tryd.ntmps12
  go_wp2
  go_loop [4, 5] (fun v i => (i = .int .i64 0 ∧ v = .int .i64 0) ∨ (i = .int .i64 3 ∧ v = .int .i64 a) ∨ (i = .int .i64 6 ∧ v = .int .i64 (a * 8 + b)) ∨ (i = .int .i64 9 ∧ v = .int .i64 ((a * 8 + b) * 8 + c))) (fun _ i => 9 - (intOf i).toNat)
  case atStart => exact Or.inl ⟨rfl, rfl⟩
  case round =>
    rcases hrel with ⟨rfl, rfl⟩ | ⟨rfl, rfl⟩ | ⟨rfl, rfl⟩ | ⟨rfl, rfl⟩
    · go_wp2_with fail
      refine (readTriple_yes _ _ HT.out ha0 ha1).mono ?_
      rintro e w' ⟨rfl, rfl⟩
      go_wp2
      go_round
      case rel => exact Or.inr (Or.inl ⟨rfl, rfl⟩)
      case measure => simp [intOf]
    · go_wp2_with fail
      refine (readTriple_yes _ _ HT.out hb0 hb1).mono ?_
      rintro e w' ⟨rfl, rfl⟩
      go_wp2
      go_round
      case rel => exact Or.inr (Or.inr (Or.inl ⟨rfl, rfl⟩))
      case measure => simp [intOf]
    · go_wp2_with fail
      refine (readTriple_yes _ _ HT.out hc0 hc1).mono ?_
      rintro e w' ⟨rfl, rfl⟩
      go_wp2
      go_round
      case rel => exact Or.inr (Or.inr (Or.inr ⟨rfl, rfl⟩))
      case measure => simp [intOf]
    · go_wp2
      go_ret2
      exact ⟨ret_ib (by omega), rfl⟩
set_option maxRecDepth 100000 in
set_option maxHeartbeats 400000 in
theorem implReadMode_no0 (s : ByteArray) (w : World) (ht : Tab w) (hs : s.size = 9) (e0 : NotSig (s.extract 0 3)) :
    Calls Tryd.prog 12 #[.string s] w fun e w' => e = .returned (.tuple #[.int .i64 0, .bool false]) ∧ w = w' := by
  have HT := Lib.hid ht
  have HN := Lib.hid e0
  clear ht e0
  go_enter Tryd.func12, Tryd.ntmps12
  go_wp2
  go_loop [4, 5] (fun v i => (i = .int .i64 0 ∧ v = .int .i64 0)) (fun _ i => 9 - (intOf i).toNat)
  case atStart => exact ⟨rfl, rfl⟩
  case round =>
    rcases hrel with ⟨rfl, rfl⟩
    · go_wp2_with fail
      refine (readTriple_no _ _ HT.out HN.out).mono ?_
      rintro e w' ⟨rfl, rfl⟩
      go_wp2
      go_ret2
      exact ⟨rfl, rfl⟩

set_option maxRecDepth 100000 in
set_option maxHeartbeats 400000 in
theorem implReadMode_no1 (s : ByteArray) (w : World) (ht : Tab w) (hs : s.size = 9) (a : Int) (ha0 : 0 ≤ a) (ha1 : a ≤ 7) (e0 : s.extract 0 3 = sig a) (e1 : NotSig (s.extract 3 6)) :
    Calls Tryd.prog 12 #[.string s] w fun e w' => e = .returned (.tuple #[.int .i64 0, .bool false]) ∧ w = w' := by
  have o1 := or_zero a ha0 ha1
  have HT := Lib.hid ht
  have HN := Lib.hid e1
  clear ht e1
  go_enter Tryd.func12, Tryd.ntmps12
  go_wp2
  go_loop [4, 5] (fun v i => (i = .int .i64 0 ∧ v = .int .i64 0) ∨ (i = .int .i64 3 ∧ v = .int .i64 a)) (fun _ i => 9 - (intOf i).toNat)
  case atStart => exact Or.inl ⟨rfl, rfl⟩
  case round =>
    rcases hrel with ⟨rfl, rfl⟩ | ⟨rfl, rfl⟩
    · go_wp2_with fail
      refine (readTriple_yes _ _ HT.out ha0 ha1).mono ?_
      rintro e w' ⟨rfl, rfl⟩
      go_wp2
      go_round
      case rel => exact Or.inr ⟨rfl, rfl⟩
      case measure => simp [intOf]
    · go_wp2_with fail
      refine (readTriple_no _ _ HT.out HN.out).mono ?_
      rintro e w' ⟨rfl, rfl⟩
      go_wp2
      go_ret2
      exact ⟨rfl, rfl⟩

set_option maxRecDepth 100000 in
set_option maxHeartbeats 400000 in
theorem implReadMode_no2 (s : ByteArray) (w : World) (ht : Tab w) (hs : s.size = 9) (a b : Int) (ha0 : 0 ≤ a) (ha1 : a ≤ 7) (hb0 : 0 ≤ b) (hb1 : b ≤ 7) (e0 : s.extract 0 3 = sig a) (e1 : s.extract 3 6 = sig b) (e2 : NotSig (s.extract 6 9)) :
    Calls Tryd.prog 12 #[.string s] w fun e w' => e = .returned (.tuple #[.int .i64 0, .bool false]) ∧ w = w' := by
  have o1 := or_zero a ha0 ha1
  have o2 := or8 a b (by omega) (by omega) hb0 hb1
  have HT := Lib.hid ht
  have HN := Lib.hid e2
  clear ht e2
  go_enter Tryd.func12, Tryd.ntmps12
  go_wp2
  go_loop [4, 5] (fun v i => (i = .int .i64 0 ∧ v = .int .i64 0) ∨ (i = .int .i64 3 ∧ v = .int .i64 a) ∨ (i = .int .i64 6 ∧ v = .int .i64 (a * 8 + b))) (fun _ i => 9 - (intOf i).toNat)
  case atStart => exact Or.inl ⟨rfl, rfl⟩
  case round =>
    rcases hrel with ⟨rfl, rfl⟩ | ⟨rfl, rfl⟩ | ⟨rfl, rfl⟩
    · go_wp2_with fail
      refine (readTriple_yes _ _ HT.out ha0 ha1).mono ?_
      rintro e w' ⟨rfl, rfl⟩
      go_wp2
      go_round
      case rel => exact Or.inr (Or.inl ⟨rfl, rfl⟩)
      case measure => simp [intOf]
    · go_wp2_with fail
      refine (readTriple_yes _ _ HT.out hb0 hb1).mono ?_
      rintro e w' ⟨rfl, rfl⟩
      go_wp2
      go_round
      case rel => exact Or.inr (Or.inr ⟨rfl, rfl⟩)
      case measure => simp [intOf]
    · go_wp2_with fail
      refine (readTriple_no _ _ HT.out HN.out).mono ?_
      rintro e w' ⟨rfl, rfl⟩
      go_wp2
      go_ret2
      exact ⟨rfl, rfl⟩

set_option maxHeartbeats 400000 in
theorem implReadMode_long (s : ByteArray) (w : World) (hs : s.size ≤ maxLen) (h : s.size ≠ 9) :
    Calls Tryd.prog 12 #[.string s] w fun e w' => e = .returned (.tuple #[.int .i64 0, .bool false]) ∧ w = w' := by
  unfold maxLen at hs
  have h1 : ((s.size : Int) == 9) = false := by rw [beq_eq_false_iff_ne]; omega
  have h2 : ((s.size : Int) != 9) = true := by rw [bne_iff_ne]; omega
  have H := Lib.hid h
  clear h
  go_enter Tryd.func12, Tryd.ntmps12
  go_wp2
  go_ret2
  exact ⟨rfl, rfl⟩

theorem implReadMode_yes (m : Int) (w : World) (ht : Tab w) (h0 : 0 ≤ m) (h1 : m ≤ 511) :
    Calls Tryd.prog 12 #[.string (signs m)] w fun e w' => e = .returned (.tuple #[.int .i64 m, .bool true]) ∧ w = w' := by
  obtain ⟨x1, x2, x3⟩ := signs_cut m
  refine (implReadMode3 (signs m) (m / 64) (m / 8 % 8) (m % 8) w ht (signs_size m) x1 x2 x3 (by omega) (by omega) (by omega) (by omega) (by omega) (by omega)).mono ?_
  rintro e w' ⟨rfl, rfl⟩
  exact ⟨ret_ib (by omega), rfl⟩

/-- No mode has this text. -/
def NoSigns (s : ByteArray) : Prop := ∀ m : Int, 0 ≤ m → m ≤ 511 → signs m ≠ s

theorem sig_or (s : ByteArray) : NotSig s ∨ ∃ k : Int, 0 ≤ k ∧ k ≤ 7 ∧ s = sig k := by
  by_cases h : NotSig s
  · exact Or.inl h
  · refine Or.inr (Classical.byContradiction fun k => h fun n h0 h1 e => k ⟨n, h0, h1, e.symm⟩)

theorem implReadMode_no (s : ByteArray) (w : World) (ht : Tab w) (hs : s.size ≤ maxLen) (h : NoSigns s) :
    Calls Tryd.prog 12 #[.string s] w fun e w' => e = .returned (.tuple #[.int .i64 0, .bool false]) ∧ w = w' := by
  by_cases h9 : s.size = 9
  · rcases sig_or (s.extract 0 3) with k | ⟨a, ha0, ha1, ea⟩
    · exact implReadMode_no0 s w ht h9 k
    · rcases sig_or (s.extract 3 6) with k | ⟨b, hb0, hb1, eb⟩
      · exact implReadMode_no1 s w ht h9 a ha0 ha1 ea k
      · rcases sig_or (s.extract 6 9) with k | ⟨c, hc0, hc1, ec⟩
        · exact implReadMode_no2 s w ht h9 a b ha0 ha1 hb0 hb1 ea eb k
        · exfalso
          refine h (a * 64 + b * 8 + c) (by omega) (by omega) ?_
          rw [← signs_of a b c ha0 ha1 hb0 hb1 hc0 hc1, ← ea, ← eb, ← ec]
          exact cut9 s h9
  · exact implReadMode_long s w hs h9

set_option maxRecDepth 100000 in
set_option maxHeartbeats 400000 in
theorem specReadMode_no (s : ByteArray) (w : World) (h : NoSigns s) :
    Calls Tryd.prog 15 #[.string s] w fun e w' => e = .returned (.tuple #[.int .i64 0, .bool false]) ∧ w = w' := by
  have H := Lib.hid h
  clear h
  go_enter Tryd.func15, Tryd.ntmps15
  go_wp2
  go_loop [4] (fun i => ∃ k : Nat, k ≤ 512 ∧ i = .int .i64 k) (fun i => 512 - (intOf i).toNat)
  case atStart => exact ⟨0, by omega, rfl⟩
  case round =>
    obtain ⟨k, hk, rfl⟩ := hrel
    by_cases hlt : k < 512
    · have hne : ((signs (k : Int)).toList == s.toList) = false := by
        rw [beq_eq_false_iff_ne]
        intro e
        exact H.out (k : Int) (by omega) (by omega) (text_inj e)
      go_wp2_with fail
      refine (l1Signs_any _ _ (by omega) (by omega)).mono ?_
      rintro e w1 ⟨rfl, rfl⟩
      go_wp2
      go_round
      case rel => exact ⟨k + 1, by omega, by go_num⟩
      case measure => simp [intOf]; omega
    · go_wp2
      go_ret2
      exact ⟨rfl, rfl⟩

set_option maxRecDepth 100000 in
set_option maxHeartbeats 400000 in
theorem specReadMode_yes (m : Int) (w : World) (h0 : 0 ≤ m) (h1 : m ≤ 511) :
    Calls Tryd.prog 15 #[.string (signs m)] w fun e w' => e = .returned (.tuple #[.int .i64 m, .bool true]) ∧ w = w' := by
  go_enter Tryd.func15, Tryd.ntmps15
  go_wp2
  go_loop [4] (fun i => ∃ k : Nat, (k : Int) ≤ m ∧ i = .int .i64 k) (fun i => 512 - (intOf i).toNat)
  case atStart => exact ⟨0, by omega, rfl⟩
  case round =>
    obtain ⟨k, hk, rfl⟩ := hrel
    by_cases hlt : (k : Int) < m
    · have hne : ((signs (k : Int)).toList == (signs m).toList) = false := by
        rw [beq_eq_false_iff_ne]
        intro e
        have hi := signs_inj (k : Int) m (by omega) (by omega) h0 h1 (text_inj e)
        omega
      go_wp2_with fail
      refine (l1Signs_any _ _ (by omega) (by omega)).mono ?_
      rintro e w1 ⟨rfl, rfl⟩
      go_wp2
      go_round
      case rel => exact ⟨k + 1, by omega, by go_num⟩
      case measure => simp [intOf]; omega
    · obtain rfl : m = (k : Int) := by omega
      go_wp2_with fail
      refine (l1Signs_any _ _ (by omega) (by omega)).mono ?_
      rintro e w1 ⟨rfl, rfl⟩
      go_wp2
      go_ret2
      exact ⟨rfl, rfl⟩
end Go.Proofs.YtkindoihmcojdaaDoor
