/-
  Contracts of impl.ChangeMode and spec.ChangeMode, for every mode and every text: the same answer.
  Conditions: the text has fewer than 4294967281 bytes.
-/
import Derived.Test.YtkindoihmcojdaaDoorLetD
import Derived.Test.YtkindoihmcojdaaDoorModeC
namespace Go.Proofs.YtkindoihmcojdaaDoor
open Go.ChangeShapes Go.WideShapes Go.ChangeAt Go.RowKit Go.Joins
set_option linter.unusedVariables false

/-! bits of numbers below 512 -/
theorem ofInt_small (a : Nat) (ha : a < 512) : (BitVec.ofInt 64 (a : Int)).toNat = a := by
  rw [BitVec.ofInt_natCast, BitVec.toNat_ofNat]
  exact Nat.mod_eq_of_lt (by omega)
theorem or_nat (a b : Nat) (ha : a < 512) (hb : b < 512) : bits BinOp.or IntKind.i64 (a : Int) (b : Int) = ((a ||| b : Nat) : Int) := by
  have hx : a ||| b < 2 ^ 9 := Nat.or_lt_two_pow (by omega) (by omega)
  show IntKind.i64.wrap ((BitVec.ofInt 64 (a : Int) ||| BitVec.ofInt 64 (b : Int)).toNat : Int) = _
  rw [BitVec.toNat_or, ofInt_small _ (by omega), ofInt_small _ (by omega)]
  exact IntWalk.i64_in _ (by omega)
theorem or_range (a b : Int) (ha0 : 0 ≤ a) (ha1 : a ≤ 511) (hb0 : 0 ≤ b) (hb1 : b ≤ 511) : 0 ≤ bits BinOp.or IntKind.i64 a b ∧ bits BinOp.or IntKind.i64 a b ≤ 511 := by
  obtain ⟨a, rfl⟩ : ∃ n : Nat, a = (n : Int) := ⟨a.toNat, by omega⟩
  obtain ⟨b, rfl⟩ : ∃ n : Nat, b = (n : Int) := ⟨b.toNat, by omega⟩
  have hx : a ||| b < 2 ^ 9 := Nat.or_lt_two_pow (by omega) (by omega)
  rw [or_nat a b (by omega) (by omega)]
  omega

theorem orAll_range (f : UInt8 → Int) (hf : ∀ x, 0 ≤ f x ∧ f x ≤ 511) (l : List UInt8) : 0 ≤ orAll f l ∧ orAll f l ≤ 511 := by
  unfold orAll
  suffices h : ∀ (l : List UInt8) (a : Int), 0 ≤ a → a ≤ 511 → 0 ≤ l.foldl (fun a b => bits BinOp.or IntKind.i64 a (f b)) a ∧ l.foldl (fun a b => bits BinOp.or IntKind.i64 a (f b)) a ≤ 511 from h l 0 (by omega) (by omega)
  intro l
  induction l with
  | nil => intro a h0 h1; exact ⟨h0, h1⟩
  | cons b l ih =>
    intro a h0 h1
    have := or_range a (f b) h0 h1 (hf b).1 (hf b).2
    exact ih _ this.1 this.2
theorem whoB_range (x : UInt8) : 0 ≤ whoB x ∧ whoB x ≤ 511 := by
  unfold whoB
  repeat' split
  all_goals omega
theorem whatB_range (x : UInt8) : 0 ≤ whatB x ∧ whatB x ≤ 511 := by
  unfold whatB
  repeat' split
  all_goals omega
theorem letters_range {f : UInt8 → Int} (hf : ∀ x, 0 ≤ f x ∧ f x ≤ 511) {l : List UInt8} {n : Int} (h : lettersOf f l = some n) : 0 ≤ n ∧ n ≤ 511 := by
  have : n = orAll f l := by
    unfold lettersOf at h
    split at h
    · exact (Option.some.inj h).symm
    · cases h
  rw [this]
  exact orAll_range f hf l

/-! the two tables of letters -/
def ugoa : ByteArray := ⟨#[117, 103, 111, 97]⟩
def rwx : ByteArray := ⟨#[114, 119, 120]⟩
def whoV (k : Nat) : Int := match k with
  | 0 => 448
  | 1 => 56
  | 2 => 7
  | _ => 511
def whatV (k : Nat) : Int := match k with
  | 0 => 292
  | 1 => 146
  | _ => 73

theorem who_table_all : ∀ n : Fin 256, ∃ K : Fin 5, (∀ j : Fin 4, j.val < K.val → (ugoa.data.toList[j.val]?).map UInt8.toNat ≠ some n.val) ∧ (K.val < 4 → (ugoa.data.toList[K.val]?).map UInt8.toNat = some n.val ∧ whoB (UInt8.ofNat n.val) = whoV K.val ∧ whoB (UInt8.ofNat n.val) ≠ 0) ∧ (K.val = 4 → whoB (UInt8.ofNat n.val) = 0) := by
  decide +kernel
theorem what_table_all : ∀ n : Fin 256, ∃ K : Fin 4, (∀ j : Fin 3, j.val < K.val → (rwx.data.toList[j.val]?).map UInt8.toNat ≠ some n.val) ∧ (K.val < 3 → (rwx.data.toList[K.val]?).map UInt8.toNat = some n.val ∧ whatB (UInt8.ofNat n.val) = whatV K.val ∧ whatB (UInt8.ofNat n.val) ≠ 0) ∧ (K.val = 3 → whatB (UInt8.ofNat n.val) = 0) := by
  decide +kernel

theorem at_list (t : ByteArray) (j : Nat) (h : j < t.size) : (t.data.toList[j]?).map UInt8.toNat = some (t[j]'h).toNat := by
  rw [Lib.data_getElem? t j h]; rfl

theorem who_table : TableOf whoB ugoa whoV := by
  intro x
  obtain ⟨K, h1, h2, h3⟩ := who_table_all ⟨x.toNat, x.toNat_lt⟩
  have ex : UInt8.ofNat x.toNat = x := by simp
  simp only [ex] at h1 h2 h3
  have hs : ugoa.size = 4 := rfl
  refine ⟨K.val, ⟨by omega, fun j hj hjk e => ?_, fun hk => ?_⟩, fun hk => (h2 (by omega)).2, fun hk => h3 (by omega)⟩
  · have := h1 ⟨j, by omega⟩ hjk
    simp only [] at this
    rw [at_list ugoa j hj, e] at this
    exact this rfl
  · have := (h2 (by omega)).1
    rw [at_list ugoa K.val hk] at this
    exact UInt8.toNat_inj.1 (Option.some.inj this)
theorem what_table : TableOf whatB rwx whatV := by
  intro x
  obtain ⟨K, h1, h2, h3⟩ := what_table_all ⟨x.toNat, x.toNat_lt⟩
  have ex : UInt8.ofNat x.toNat = x := by simp
  simp only [ex] at h1 h2 h3
  have hs : rwx.size = 3 := rfl
  refine ⟨K.val, ⟨by omega, fun j hj hjk e => ?_, fun hk => ?_⟩, fun hk => (h2 (by omega)).2, fun hk => h3 (by omega)⟩
  · have := h1 ⟨j, by omega⟩ hjk
    simp only [] at this
    rw [at_list rwx j hj, e] at this
    exact this rfl
  · have := (h2 (by omega)).1
    rw [at_list rwx K.val hk] at this
    exact UInt8.toNat_inj.1 (Option.some.inj this)

/-! the callees, by their outcome -/
theorem enter_who : ∀ args w, (callFunc 34 args).run Tryd.prog w = .ok (.enter 34 args) w := enters_of Tryd.func34 (by kernel_rfl) rfl
theorem enter_what : ∀ args w, (callFunc 35 args).run Tryd.prog w = .ok (.enter 35 args) w := enters_of Tryd.func35 (by kernel_rfl) rfl

theorem who_some (s : ByteArray) (n : Int) (w : World) (hs : s.size < 4294967281) (h : lettersOf whoB s.data.toList = some n) :
    Calls Tryd.prog 33 #[.string s, .func (.func 34) #[] #[]] w fun e w' => e = .returned (.tuple #[.int .i64 n, .bool true]) ∧ Below w.heap.size w w' :=
  (bitsOfLetters_any whoB _ whoBits_any enter_who s w hs).mono fun e w' k => ⟨by rw [k.1, h]; rfl, k.2⟩
theorem who_none (s : ByteArray) (w : World) (hs : s.size < 4294967281) (h : lettersOf whoB s.data.toList = none) :
    Calls Tryd.prog 33 #[.string s, .func (.func 34) #[] #[]] w fun e w' => e = .returned (.tuple #[.int .i64 0, .bool false]) ∧ Below w.heap.size w w' :=
  (bitsOfLetters_any whoB _ whoBits_any enter_who s w hs).mono fun e w' k => ⟨by rw [k.1, h]; rfl, k.2⟩
theorem what_some (s : ByteArray) (n : Int) (w : World) (hs : s.size < 4294967281) (h : lettersOf whatB s.data.toList = some n) :
    Calls Tryd.prog 33 #[.string s, .func (.func 35) #[] #[]] w fun e w' => e = .returned (.tuple #[.int .i64 n, .bool true]) ∧ Below w.heap.size w w' :=
  (bitsOfLetters_any whatB _ whatBits_any enter_what s w hs).mono fun e w' k => ⟨by rw [k.1, h]; rfl, k.2⟩
theorem what_none (s : ByteArray) (w : World) (hs : s.size < 4294967281) (h : lettersOf whatB s.data.toList = none) :
    Calls Tryd.prog 33 #[.string s, .func (.func 35) #[] #[]] w fun e w' => e = .returned (.tuple #[.int .i64 0, .bool false]) ∧ Below w.heap.size w w' :=
  (bitsOfLetters_any whatB _ whatBits_any enter_what s w hs).mono fun e w' k => ⟨by rw [k.1, h]; rfl, k.2⟩

/-- The number by which the model's function of letters tells an outcome. -/
def orMinus (o : Option Int) : Int := match o with
  | some n => n
  | none => -1
theorem specWho_any (s : ByteArray) (g : Nat) (w : World) (hs : s.size < 4294967281) (hc : ∀ k, k < 4 → w.cell? ⟨g, k, none⟩ = some (.int .i64 (whoV k))) :
    Calls Tryd.prog 37 #[.string s, .string ⟨#[117, 103, 111, 97]⟩, .slice (some ⟨g, 0, none⟩) 4 4] w fun e w' => e = .returned (.int .i64 (orMinus (lettersOf whoB s.data.toList))) ∧ Below w.heap.size w w' :=
  (l1Letters_any whoB s ugoa g whoV w hs (by decide) who_table hc).mono fun e w' k => ⟨by rw [k.1]; cases lettersOf whoB s.data.toList <;> rfl, k.2⟩
theorem specWhat_any (s : ByteArray) (g : Nat) (w : World) (hs : s.size < 4294967281) (hc : ∀ k, k < 3 → w.cell? ⟨g, k, none⟩ = some (.int .i64 (whatV k))) :
    Calls Tryd.prog 37 #[.string s, .string ⟨#[114, 119, 120]⟩, .slice (some ⟨g, 0, none⟩) 3 3] w fun e w' => e = .returned (.int .i64 (orMinus (lettersOf whatB s.data.toList))) ∧ Below w.heap.size w w' :=
  (l1Letters_any whatB s rwx g whatV w hs (by decide) what_table hc).mono fun e w' k => ⟨by rw [k.1]; cases lettersOf whatB s.data.toList <;> rfl, k.2⟩

/-- A mode changed by a sign. -/
def signed (m : Int) (x : UInt8) (who b : Int) : Int := if x.toNat = 43 then bits BinOp.or IntKind.i64 m b else if x.toNat = 45 then bits BinOp.andNot IntKind.i64 m b else bits BinOp.or IntKind.i64 (bits BinOp.andNot IntKind.i64 m who) b

set_option maxHeartbeats 400000 in
theorem applySign_any (m : Int) (x : UInt8) (who b : Int) (w : World) :
    Calls Tryd.prog 36 #[.int .i64 m, .int .u8 (x.toNat : Int), .int .i64 who, .int .i64 b] w fun e w' => e = .returned (.int .i64 (signed m x who b)) ∧ w = w' := by
  by_cases h1 : x.toNat = 43
  · have e1 := eqT (show (x.toNat : Int) = 43 by omega)
    have H := Lib.hid h1
    clear h1
    go_enter Tryd.func36, Tryd.ntmps36
    go_wp2
    go_ret
    exact ⟨ret_int (by simp [signed, H.out]), rfl⟩
  · have e1 := eqF (show (x.toNat : Int) ≠ 43 by omega)
    by_cases h2 : x.toNat = 45
    · have e2 := eqT (show (x.toNat : Int) = 45 by omega)
      have H := Lib.hid h2
      clear h1 h2
      go_enter Tryd.func36, Tryd.ntmps36
      go_wp2
      go_ret
      exact ⟨ret_int (by simp [signed, H.out]), rfl⟩
    · have e2 := eqF (show (x.toNat : Int) ≠ 45 by omega)
      have H := Lib.hid (And.intro h1 h2)
      clear h1 h2
      go_enter Tryd.func36, Tryd.ntmps36
      go_wp2
      go_ret
      exact ⟨ret_int (by simp [signed, H.out]), rfl⟩

/-- strings.IndexAny among the three signs, of any text. -/
theorem indexAny_any (s : ByteArray) (w : World) (hs : s.size < 4294967281) :
    Calls Tryd.prog 32 #[.string s, .string ⟨#[43, 45, 61]⟩] w fun e w' => e = .returned (.int .i64 (Lib.indexAny s.data.toList sgnL)) ∧ Below w.heap.size w w' := by
  by_cases h8 : s.size ≤ 8
  · exact indexAny_short s w h8
  · refine (Tryd.strings_IndexAny_long (fun w => by kernel_rfl) s sgn3 w (by decide) (by omega) hs (by decide) (fun j b hb => ?_)).mono ?_
    · rw [sgn3_list] at hb
      have := List.mem_of_getElem? hb
      simp [sgnL] at this
      rcases this with rfl | rfl | rfl <;> decide
    · rintro e w' ⟨rfl, rfl⟩
      exact ⟨rfl, ((Below.refl _ _).alloc (Nat.le_refl _) _).alloc (by simp) _⟩
end Go.Proofs.YtkindoihmcojdaaDoor
