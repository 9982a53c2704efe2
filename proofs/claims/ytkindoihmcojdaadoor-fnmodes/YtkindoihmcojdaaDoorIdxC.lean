/-
  Contracts of strings.IndexRune at a rune of 128 or more among the three signs, and of strings.IndexAny of any text among the three signs.
  Conditions: the text has fewer than 4294967281 bytes.
-/
import Derived.Test.YtkindoihmcojdaaDoorBase
import Derived.Test.YtkindoihmcojdaaDoorShelf
import Derived.Laws.RangeAny
import Derived.Lib.DecodeN
import Derived.Lib.SpaceUEq
import Derived.Deep.LoopGhost
import Derived.BigQuiet
import Derived.WalkMore
import Derived.LoopN
namespace Go.Proofs.YtkindoihmcojdaaDoor
open Go.ChangeShapes Go.WideShapes Go.ChangeAt Go.RowKit Go.Joins
set_option linter.unusedVariables false

/-- The three signs. -/
def sgn3 : ByteArray := ⟨#[43, 45, 61]⟩

theorem enc_high (r : Int) (h : 128 ≤ r) : (∃ x y : UInt8, Utf8.encode r = ⟨#[x, y]⟩ ∧ 128 ≤ y.toNat) ∨ (∃ x y z : UInt8, Utf8.encode r = ⟨#[x, y, z]⟩ ∧ 128 ≤ z.toNat) ∨ (∃ x y z t : UInt8, Utf8.encode r = ⟨#[x, y, z, t]⟩ ∧ 128 ≤ t.toNat) := by
  have hc : ∀ n : Nat, 128 ≤ (UInt8.ofNat (128 + n % 64)).toNat := fun n => by
    rw [UInt8.toNat_ofNat']
    omega
  have key : ∀ c : Nat, 128 ≤ c → (if c < 0x80 then (⟨#[UInt8.ofNat c]⟩ : ByteArray)
      else if c < 0x800 then ⟨#[UInt8.ofNat (0xC0 + c / 64), UInt8.ofNat (0x80 + c % 64)]⟩
      else if c < 0x10000 then ⟨#[UInt8.ofNat (0xE0 + c / 4096), UInt8.ofNat (0x80 + c / 64 % 64), UInt8.ofNat (0x80 + c % 64)]⟩
      else ⟨#[UInt8.ofNat (0xF0 + c / 262144), UInt8.ofNat (0x80 + c / 4096 % 64), UInt8.ofNat (0x80 + c / 64 % 64), UInt8.ofNat (0x80 + c % 64)]⟩) = Utf8.encode r →
      (∃ x y : UInt8, Utf8.encode r = ⟨#[x, y]⟩ ∧ 128 ≤ y.toNat) ∨ (∃ x y z : UInt8, Utf8.encode r = ⟨#[x, y, z]⟩ ∧ 128 ≤ z.toNat) ∨ (∃ x y z t : UInt8, Utf8.encode r = ⟨#[x, y, z, t]⟩ ∧ 128 ≤ t.toNat) := by
    intro c hc0 e
    rw [← e, if_neg (by omega)]
    split
    · exact Or.inl ⟨_, _, rfl, hc _⟩
    · split
      · exact Or.inr (Or.inl ⟨_, _, _, rfl, hc _⟩)
      · exact Or.inr (Or.inr ⟨_, _, _, _, rfl, hc _⟩)
  refine key (if Utf8.valid r then r.toNat else Utf8.runeError) ?_ rfl
  split
  · omega
  · decide

theorem conv_rune (r : Int) (w : World) : (convert 21 9 (.int .i32 r)).run Tryd.prog w = .ok (.string (Utf8.encode r)) w := by
  simp [convert, run_underlying Tryd.underlying21, run_underlying Tryd.underlying9, Conv.intToString]

theorem idx_none (l : List UInt8) (c : UInt8) (h : ∀ b ∈ l, b ≠ c) : Lib.indexByte l c = -1 := by
  induction l with
  | nil => rfl
  | cons b l ih =>
    have h1 := ih (fun x hx => h x (by simp [hx]))
    have h2 := h b (by simp)
    simp [Lib.indexByte, h1, h2]

/-- A call that leaves the world alone, in a region behind draws. -/
theorem still_behind {P : Program} {f : FuncId} {args : Array Value} {w : World} {a n : Nat} {v : Value} (h : Calls P f args (w.drewN (a + n)) fun e w' => e = .returned v ∧ w' = w.drewN (a + n)) :
    Calls P f args (w.drewN (a + n)) fun e w' => e = .returned v ∧ ∃ m, w' = w.drewN (a + m) :=
  h.mono fun _ _ k => ⟨k.1, n, k.2⟩
theorem wrap2 : IntKind.i64.wrap 2 = 2 := by decide
theorem wrap3 : IntKind.i64.wrap 3 = 3 := by decide

set_option maxRecDepth 100000 in
set_option maxHeartbeats 1000000 in
theorem indexRune2 (r : Int) (x y : UInt8) (w : World) (h : 128 ≤ r) (hne : (r == 65533) = false) (hv : Lib.validRune r = true) (he : Utf8.encode r = ⟨#[x, y]⟩) (hy : 128 ≤ y.toNat) :
    Calls Tryd.prog 42 #[.string sgn3, .int .i32 r] w fun e w' => e = .returned (.int .i64 (-1)) ∧ Below w.heap.size w w' := by
  have hcv := conv_rune r
  rw [he] at hcv
  have hs : sgn3.size = 3 := rfl
  have g1 : ∀ h, sgn3[1]'h = 45 := fun _ => rfl
  have k1 : ∀ h, (⟨#[x, y]⟩ : ByteArray)[1]'h = y := fun _ => rfl
  have hn : ((45 : Int) != (y.toNat : Int)) = true := by rw [bne_iff_ne]; omega
  have hlt : ¬ r < 128 := by omega
  have hw2 := wrap2
  have q1 : Lib.indexByte (List.take 1 (List.drop 2 sgn3.data.toList)) y = -1 := idx_none [61] y (fun b hb e => by simp at hb; subst e; subst hb; simp at hy)
  have q2 : Lib.indexByte (sgn3.extract 2 3).data.toList ((y.toNat : Int)).toNat.toUInt8 = -1 := by
    have e : ((y.toNat : Int)).toNat.toUInt8 = y := by simp
    rw [e]
    exact q1
  clear he
  go_enter Tryd.func42, Tryd.ntmps42
  go_wp2_with (go_at_call 47; refine (Tryd.utf8_ValidRune _ _).mono ?_; rintro e w' ⟨rfl, hw⟩; rw [hw])
  go_step3
  go_wp2
  refine wp_loop_rounds 2 ?_
  rw [rounds_succ]
  go_wp2
  go_step3
  go_wp2
  go_quiet (fail)
  go_wp2
  go_quiet ((go_at_call 46; exact still_behind (Tryd.strings_IndexByte _ _ _)))
  go_wp2
  simp only [Exit.noGoto_ret, Exit.inBlock, Exit.then]
  go_ret
  exact ⟨rfl, ⟨rfl, rfl, rfl, Nat.le_refl _, fun _ _ => rfl⟩⟩

set_option maxRecDepth 100000 in
set_option maxHeartbeats 1000000 in
theorem indexRune3 (r : Int) (x y z : UInt8) (w : World) (h : 128 ≤ r) (hne : (r == 65533) = false) (hv : Lib.validRune r = true) (he : Utf8.encode r = ⟨#[x, y, z]⟩) (hz : 128 ≤ z.toNat) :
    Calls Tryd.prog 42 #[.string sgn3, .int .i32 r] w fun e w' => e = .returned (.int .i64 (-1)) ∧ Below w.heap.size w w' := by
  have hcv := conv_rune r
  rw [he] at hcv
  have hs : sgn3.size = 3 := rfl
  have g1 : ∀ h, sgn3[2]'h = 61 := fun _ => rfl
  have k1 : ∀ h, (⟨#[x, y, z]⟩ : ByteArray)[2]'h = z := fun _ => rfl
  have hn : ((61 : Int) != (z.toNat : Int)) = true := by rw [bne_iff_ne]; omega
  have hlt : ¬ r < 128 := by omega
  have hw3 := wrap3
  have q1 : Lib.indexByte (List.take 0 (List.drop 3 sgn3.data.toList)) z = -1 := rfl
  have q3 : Lib.indexByte [] z = -1 := rfl
  have q2 : Lib.indexByte (sgn3.extract 3 3).data.toList ((z.toNat : Int)).toNat.toUInt8 = -1 := rfl
  clear he
  go_enter Tryd.func42, Tryd.ntmps42
  go_wp2_with (go_at_call 47; refine (Tryd.utf8_ValidRune _ _).mono ?_; rintro e w' ⟨rfl, hw⟩; rw [hw])
  go_step3
  go_wp2
  refine wp_loop_rounds 2 ?_
  rw [rounds_succ]
  go_wp2
  go_step3
  go_wp2
  go_quiet (fail)
  go_wp2
  go_quiet ((go_at_call 46; exact still_behind (Tryd.strings_IndexByte _ _ _)))
  go_wp2
  simp only [Exit.noGoto_ret, Exit.inBlock, Exit.then]
  go_ret
  exact ⟨rfl, ⟨rfl, rfl, rfl, Nat.le_refl _, fun _ _ => rfl⟩⟩

set_option maxRecDepth 100000 in
set_option maxHeartbeats 1000000 in
theorem indexRune4 (r : Int) (x y z t : UInt8) (w : World) (h : 128 ≤ r) (hne : (r == 65533) = false) (hv : Lib.validRune r = true) (he : Utf8.encode r = ⟨#[x, y, z, t]⟩) :
    Calls Tryd.prog 42 #[.string sgn3, .int .i32 r] w fun e w' => e = .returned (.int .i64 (-1)) ∧ Below w.heap.size w w' := by
  have hcv := conv_rune r
  rw [he] at hcv
  have hs : sgn3.size = 3 := rfl
  have hlt : ¬ r < 128 := by omega
  clear he
  go_enter Tryd.func42, Tryd.ntmps42
  go_wp2_with (go_at_call 47; refine (Tryd.utf8_ValidRune _ _).mono ?_; rintro e w' ⟨rfl, hw⟩; rw [hw])
  go_step3
  go_wp2
  refine wp_loop_rounds 1 ?_
  rw [rounds_succ]
  go_wp2
  simp only [Exit.noGoto_ret, Exit.inBlock]
  go_ret
  exact ⟨rfl, by go_grown⟩

set_option maxRecDepth 100000 in
set_option maxHeartbeats 1000000 in
theorem indexRune_bad (r : Int) (w : World) (h : 128 ≤ r) (hne : (r == 65533) = false) (hv : Lib.validRune r = false) :
    Calls Tryd.prog 42 #[.string sgn3, .int .i32 r] w fun e w' => e = .returned (.int .i64 (-1)) ∧ Below w.heap.size w w' := by
  have hlt : ¬ r < 128 := by omega
  go_enter Tryd.func42, Tryd.ntmps42
  go_wp2_with (go_at_call 47; refine (Tryd.utf8_ValidRune _ _).mono ?_; rintro e w' ⟨rfl, hw⟩; rw [hw])
  go_ret
  exact ⟨rfl, by go_grown⟩

theorem below_iter (w : World) (s : ByteArray) (p : Nat) : Below w.heap.size w (w.iter s p) := (Below.refl _ _).alloc (Nat.le_refl _) _

set_option maxRecDepth 100000 in
set_option maxHeartbeats 1000000 in
theorem indexRune_err (w : World) :
    Calls Tryd.prog 42 #[.string sgn3, .int .i32 65533] w fun e w' => e = .returned (.int .i64 (-1)) ∧ Below w.heap.size w w' := by
  have n0 := fun ty => run_next_ascii (P := Tryd.prog) w sgn3 0 ty (by decide) (by decide)
  have n1 := fun ty => run_next_ascii (P := Tryd.prog) w sgn3 1 ty (by decide) (by decide)
  have n2 := fun ty => run_next_ascii (P := Tryd.prog) w sgn3 2 ty (by decide) (by decide)
  have n3 := fun ty => run_next_end (P := Tryd.prog) w sgn3 3 ty (by decide)
  have g0 : ∀ h, sgn3[0]'h = 43 := fun _ => rfl
  have g1 : ∀ h, sgn3[1]'h = 45 := fun _ => rfl
  have g2 : ∀ h, sgn3[2]'h = 61 := fun _ => rfl
  go_enter Tryd.func42, Tryd.ntmps42
  go_wp2
  go_rounds 4
  go_ret
  exact ⟨rfl, below_iter _ _ _⟩

/-- strings.IndexRune of a rune of 128 or more among the three signs: it is not there. -/
theorem indexRune_high (r : Int) (w : World) (h : 128 ≤ r) :
    Calls Tryd.prog 42 #[.string sgn3, .int .i32 r] w fun e w' => e = .returned (.int .i64 (-1)) ∧ Below w.heap.size w w' := by
  by_cases he : r = 65533
  · subst he
    exact indexRune_err w
  · have hne : (r == 65533) = false := by rw [beq_eq_false_iff_ne]; exact he
    by_cases hv : Lib.validRune r = true
    · rcases enc_high r h with ⟨x, y, e, hy⟩ | ⟨x, y, z, e, hz⟩ | ⟨x, y, z, t, e, ht⟩
      · exact indexRune2 r x y w h hne hv e hy
      · exact indexRune3 r x y z w h hne hv e hz
      · exact indexRune4 r x y z t w h hne hv e
    · exact indexRune_bad r w h hne (by simpa using hv)
end Go.Proofs.YtkindoihmcojdaaDoor
