/-
  What the law FnMay needs besides: contracts of spec.GoodCred, impl.WithMask, spec.WithMask; bits that a mask takes; May of single bits.
  Conditions: as each states.
-/
import Derived.Test.YtkindoihmcojdaaMayD
import Derived.Test.YtkindoihmcojdaaCurE
import Derived.Deep.RegionHeld3
namespace Go.Proofs.Ytkindoihmcojdaa
open Go.ChangeShapes Go.WideShapes Go.ChangeAt Go.RowKit Go.Joins
set_option linter.unusedVariables false

set_option maxHeartbeats 400000 in
theorem specGood_any (u g : Int) (w : World) : Calls Try.prog 15 #[.agg #[.int .i64 u, .int .i64 g]] w fun e w' => e = .returned (.bool (credB u g)) ∧ Below w.heap.size w w' := by
  go_enter Try.func15, Try.ntmps15
  go_wp2_with (go_at_call 34; refine (l1Cred_any _ _ _).mono ?_; rintro e w1 ⟨rfl, hb⟩)
  go_ret
  exact ⟨rfl, ((Below.refl _ _).alloc (Nat.le_refl _) _).trans (hb.mono (by simp))⟩

def maskB (m k : Int) : Bool := inB 0 511 m && inB 0 511 k
theorem maskB_t {m k : Int} (h : maskB m k = true) : inB 0 511 m = true ∧ inB 0 511 k = true := by simpa [maskB] using h
theorem maskB_f {m k : Int} (h : maskB m k = false) : inB 0 511 m = false ∨ (inB 0 511 m = true ∧ inB 0 511 k = false) := by
  unfold maskB at h
  cases h1 : inB 0 511 m <;> cases h2 : inB 0 511 k <;> simp_all

set_option maxHeartbeats 400000 in
theorem implMask_yes (m k : Int) (w : World) (h : maskB m k = true) : Calls Try.prog 17 #[.int .i64 m, .int .i64 k] w fun e w' => e = .returned (.tuple #[.int .i64 (bits BinOp.andNot IntKind.i64 m k), .bool true]) ∧ w = w' := by
  obtain ⟨h1, h2⟩ := maskB_t h
  go_enter Try.func17, Try.ntmps17
  go_wp2_with (go_at_call 30; refine (isMode_any _ _).mono ?_; rintro e w' ⟨rfl, rfl⟩)
  go_ret2
  exact ⟨rfl, rfl⟩
set_option maxHeartbeats 400000 in
theorem implMask_no (m k : Int) (w : World) (h : maskB m k = false) : Calls Try.prog 17 #[.int .i64 m, .int .i64 k] w fun e w' => e = .returned (.tuple #[.int .i64 0, .bool false]) ∧ w = w' := by
  rcases maskB_f h with h1 | ⟨h1, h2⟩
  all_goals
    clear h
    go_enter Try.func17, Try.ntmps17
    go_wp2_with (go_at_call 30; refine (isMode_any _ _).mono ?_; rintro e w' ⟨rfl, rfl⟩)
    go_ret2
    exact ⟨rfl, rfl⟩
set_option maxHeartbeats 400000 in
theorem specMask_yes (m k : Int) (w : World) (h : maskB m k = true) : Calls Try.prog 18 #[.int .i64 m, .int .i64 k] w fun e w' => e = .returned (.tuple #[.int .i64 (bits BinOp.andNot IntKind.i64 m k), .bool true]) ∧ w = w' := by
  obtain ⟨h1, h2⟩ := maskB_t h
  go_enter Try.func18, Try.ntmps18
  go_wp2_with (go_at_call 35; refine (l1Mode_any _ _).mono ?_; rintro e w' ⟨rfl, rfl⟩)
  go_ret2
  exact ⟨rfl, rfl⟩
set_option maxHeartbeats 400000 in
theorem specMask_no (m k : Int) (w : World) (h : maskB m k = false) : Calls Try.prog 18 #[.int .i64 m, .int .i64 k] w fun e w' => e = .returned (.tuple #[.int .i64 0, .bool false]) ∧ w = w' := by
  rcases maskB_f h with h1 | ⟨h1, h2⟩
  all_goals
    clear h
    go_enter Try.func18, Try.ntmps18
    go_wp2_with (go_at_call 35; refine (l1Mode_any _ _).mono ?_; rintro e w' ⟨rfl, rfl⟩)
    go_ret2
    exact ⟨rfl, rfl⟩

/-! what a mask takes is taken -/
theorem wrap_ofInt (n : Int) : BitVec.ofInt 64 (IntKind.i64.wrap n) = BitVec.ofInt 64 n := by
  apply BitVec.eq_of_toInt_eq
  rw [BitVec.toInt_ofInt, BitVec.toInt_ofInt, IntKind.wrap_i64]
  simp only [Int.bmod]
  omega
theorem ofInt_toNat (x : BitVec 64) : BitVec.ofInt 64 (x.toNat : Int) = x := by
  rw [BitVec.ofInt_natCast]
  simp
theorem ofInt_andNot (m k : Int) : BitVec.ofInt 64 (bits BinOp.andNot IntKind.i64 m k) = BitVec.ofInt 64 m &&& ~~~BitVec.ofInt 64 k := by
  show BitVec.ofInt 64 (IntKind.i64.wrap ((BitVec.ofInt 64 m &&& ~~~BitVec.ofInt 64 k).toNat : Int)) = _
  rw [wrap_ofInt, ofInt_toNat]
theorem mask_gone (m k : Int) : bits BinOp.and IntKind.i64 (bits BinOp.andNot IntKind.i64 m k) k = 0 := by
  show IntKind.i64.wrap ((BitVec.ofInt 64 (bits BinOp.andNot IntKind.i64 m k) &&& BitVec.ofInt 64 k).toNat : Int) = 0
  rw [ofInt_andNot, BitVec.and_assoc, show ~~~BitVec.ofInt 64 k &&& BitVec.ofInt 64 k = 0#64 by rw [BitVec.and_comm]; exact BitVec.and_not_self _]
  simp
  decide
theorem mask_within (m k : Int) (h0 : 0 ≤ m) (h1 : m ≤ 511) : bits BinOp.or IntKind.i64 (bits BinOp.andNot IntKind.i64 m k) m = m := by
  show IntKind.i64.wrap ((BitVec.ofInt 64 (bits BinOp.andNot IntKind.i64 m k) ||| BitVec.ofInt 64 m).toNat : Int) = m
  have e : (BitVec.ofInt 64 m &&& ~~~BitVec.ofInt 64 k) ||| BitVec.ofInt 64 m = BitVec.ofInt 64 m := by
    ext i
    simp
    intro h _
    exact h
  rw [ofInt_andNot, e]
  obtain ⟨n, rfl⟩ : ∃ n : Nat, m = (n : Int) := ⟨m.toNat, by omega⟩
  rw [BitVec.ofInt_natCast, BitVec.toNat_ofNat, Nat.mod_eq_of_lt (by omega)]
  exact IntWalk.i64_in _ (by omega)

/-! May of the single bits -/
theorem bits_split : ∀ t w : Fin 8, ((bits BinOp.and IntKind.i64 (t.val : Int) (bits BinOp.and IntKind.i64 (w.val : Int) 1) == bits BinOp.and IntKind.i64 (w.val : Int) 1) &&
    (bits BinOp.and IntKind.i64 (t.val : Int) (bits BinOp.and IntKind.i64 (w.val : Int) 2) == bits BinOp.and IntKind.i64 (w.val : Int) 2) &&
    (bits BinOp.and IntKind.i64 (t.val : Int) (bits BinOp.and IntKind.i64 (w.val : Int) 4) == bits BinOp.and IntKind.i64 (w.val : Int) 4)) = (bits BinOp.and IntKind.i64 (t.val : Int) (w.val : Int) == (w.val : Int)) := by decide +kernel
theorem want_small : ∀ w : Fin 8, inB 0 7 (bits BinOp.and IntKind.i64 (w.val : Int) 1) = true ∧ inB 0 7 (bits BinOp.and IntKind.i64 (w.val : Int) 2) = true ∧ inB 0 7 (bits BinOp.and IntKind.i64 (w.val : Int) 4) = true := by decide +kernel
theorem tri_range (u g m uid gid : Int) (h0 : 0 ≤ m) (h1 : m ≤ 511) : 0 ≤ tri u g m uid gid ∧ tri u g m uid gid ≤ 7 := by
  unfold tri
  split
  · omega
  · split <;> omega
theorem may_split (u g m uid gid want : Int) (h0 : 0 ≤ m) (h1 : m ≤ 511) (h2 : 0 ≤ want) (h3 : want ≤ 7) :
    (mayB u g m uid gid (bits BinOp.and IntKind.i64 want 1) && mayB u g m uid gid (bits BinOp.and IntKind.i64 want 2) && mayB u g m uid gid (bits BinOp.and IntKind.i64 want 4)) = mayB u g m uid gid want := by
  obtain ⟨t0, t1⟩ := tri_range u g m uid gid h0 h1
  have h := bits_split ⟨(tri u g m uid gid).toNat, by omega⟩ ⟨want.toNat, by omega⟩
  simp only [] at h
  rw [show (((tri u g m uid gid).toNat : Nat) : Int) = tri u g m uid gid by omega, show ((want.toNat : Nat) : Int) = want by omega] at h
  unfold mayB
  cases hu : (u == 0)
  · simp only [Bool.false_or]
    exact h
  · simp
theorem ask_bit {u g m uid gid want : Int} (h : askB u g m uid gid want = true) : (askB u g m uid gid (bits BinOp.and IntKind.i64 want 1) = true ∧ askB u g m uid gid (bits BinOp.and IntKind.i64 want 2) = true ∧ askB u g m uid gid (bits BinOp.and IntKind.i64 want 4) = true) ∧ 0 ≤ m ∧ m ≤ 511 ∧ 0 ≤ want ∧ want ≤ 7 := by
  rcases askB_cases u g m uid gid want with ⟨_, a1, a2, a3, a4, a5⟩ | ⟨a, _⟩
  · obtain ⟨m0, m1⟩ := inB_t a2
    obtain ⟨w0, w1⟩ := inB_t a5
    have hw := want_small ⟨want.toNat, by omega⟩
    simp only [] at hw
    rw [show ((want.toNat : Nat) : Int) = want by omega] at hw
    obtain ⟨b1, b2, b3⟩ := hw
    refine ⟨⟨?_, ?_, ?_⟩, m0, m1, w0, w1⟩
    all_goals simp [askB, *]
  · rw [a] at h
    cases h
end Go.Proofs.Ytkindoihmcojdaa
