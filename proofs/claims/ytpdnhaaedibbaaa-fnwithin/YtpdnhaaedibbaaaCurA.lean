/-
  Contracts of the model's cursor (spec.l1Cur): next and pick return numbers within their ranges, move the cursor on and turn nothing else.
  Conditions: a cursor in a block of its own, over a readable slice of bytes, at a place of at most 1000000000.
-/
import Derived.Test.YtpdnhaaedibbaaaBase
import Derived.BigQuiet
import Derived.Laws.IdiomStrings
namespace Go.Proofs.Ytpdnhaaedibbaaa
open Go.ChangeShapes Go.WideShapes Go.ChangeAt Go.RowKit Go.Joins
set_option linter.unusedVariables false

theorem eqFalse {a b : Int} (h : a ≠ b) : (a == b) = false := by simpa using h

/-- Block b holds a cursor at place a over the slice. -/
structure Cur (w : World) (b : Nat) (o : Option Addr) (n c a : Nat) : Prop where
  code : w.cell? ⟨b, 0, none⟩ = some (.slice o n c)
  here : w.cell? ⟨b, 1, none⟩ = some (.int .i64 (a : Int))
  seed : ∃ s : Int, w.cell? ⟨b, 2, none⟩ = some (.int .u64 s)
  free1 : w.frozen? ⟨b, 1, none⟩ = false
  free2 : w.frozen? ⟨b, 2, none⟩ = false
  old : b < w.heap.size

/-- The slice's first n cells are bytes, in a block below B. -/
def CodeAt (w : World) (B : Nat) (o : Option Addr) (n : Nat) : Prop := ∀ i, i < n → ∃ (ad : Addr) (v : Int), o = some ad ∧ ad.block < B ∧ w.cell? (ad.add i) = some (.int .u8 v) ∧ 0 ≤ v ∧ v ≤ 255

theorem add_block (a : Addr) (i : Nat) : (a.add i).block = a.block := by unfold Addr.add; split <;> rfl

theorem CodeAt.step {w w' : World} {B b : Nat} {o : Option Addr} {n : Nat} (h : CodeAt w B o n) (hB : B ≤ b) (hb : b < w.heap.size) (hg : w.grownBy w' (some b)) : CodeAt w' B o n := by
  intro i hi
  obtain ⟨ad, v, e, hlt, hc, h0, h1⟩ := h i hi
  refine ⟨ad, v, e, hlt, ?_, h0, h1⟩
  rw [World.cell?_of_block (hg.block _ (by rw [add_block]; omega) (by rw [add_block]; intro x; injection x; omega))]
  exact hc

theorem and255 (x : Int) : 0 ≤ bits BinOp.and IntKind.u64 x 255 ∧ bits BinOp.and IntKind.u64 x 255 ≤ 255 := by
  have h : ((BitVec.ofInt 64 x &&& BitVec.ofInt 64 255).toNat : Int) ≤ 255 := by
    have : (BitVec.ofInt 64 x &&& BitVec.ofInt 64 255).toNat ≤ 255 := by
      rw [BitVec.toNat_and]
      exact Nat.le_trans Nat.and_le_right (by decide)
    omega
  have e : bits BinOp.and IntKind.u64 x 255 = ((BitVec.ofInt 64 x &&& BitVec.ofInt 64 255).toNat : Int) := by
    show IntKind.u64.wrap ((BitVec.ofInt 64 x &&& BitVec.ofInt 64 255).toNat : Int) = _
    exact IntWalk.u64_in _ (by omega)
  rw [e]
  omega

/-- A store into the cursor's block. -/
theorem grown_set {w w1 : World} {b : Nat} (h : w.grownBy w1 (some b)) (k : Nat) (v : Value) : w.grownBy (w1.setCell ⟨b, k, none⟩ v) (some b) :=
  ⟨h.os, h.tape, h.output, by simpa [World.setCell] using h.size, fun i hi hne => (Below.heap_setCell w1 ⟨b, k, none⟩ v i (fun e => hne (by rw [e]))).trans (h.block i hi hne)⟩
theorem grown_self (w : World) (row : Option Nat) : w.grownBy w row := ⟨rfl, rfl, rfl, Nat.le_refl _, fun _ _ _ => rfl⟩
theorem grown_draw {w w1 : World} {row : Option Nat} (h : w.grownBy w1 row) (n : Nat) : w.grownBy (w1.drewN n) row := ⟨h.os, h.tape, h.output, h.size, h.block⟩
theorem grown_then {w w1 w2 : World} {b : Nat} (h : w.grownBy w1 (some b)) (k : w1.grownBy w2 (some b)) : w.grownBy w2 (some b) :=
  ⟨k.os.trans h.os, k.tape.trans h.tape, k.output.trans h.output, Nat.le_trans h.size k.size, fun i hi hne => (k.block i (Nat.lt_of_lt_of_le hi h.size) hne).trans (h.block i hi hne)⟩

theorem cur_drew {w : World} {b : Nat} {o : Option Addr} {n c a : Nat} (h : Cur w b o n c a) (k : Nat) : Cur (w.drewN k) b o n c a := ⟨h.code, h.here, h.seed, h.free1, h.free2, h.old⟩
theorem cur_moved {w : World} {b : Nat} {o : Option Addr} {n c a : Nat} (hC : Cur w b o n c a) (a' : Nat) (z : Int) (hz : z = (a' : Int)) (s' : Int) (k : Nat) : Cur (((w.setCell ⟨b, 1, none⟩ (.int .i64 z)).setCell ⟨b, 2, none⟩ (.int .u64 s')).drewN k) b o n c a' := by
  subst hz
  obtain ⟨h0, h1, ⟨s, h2⟩, f1, f2, hold⟩ := hC
  have d1 : (⟨b, 1, none⟩ : Addr) ≠ ⟨b, 0, none⟩ := by simp
  have d2 : (⟨b, 2, none⟩ : Addr) ≠ ⟨b, 0, none⟩ := by simp
  have d3 : (⟨b, 2, none⟩ : Addr) ≠ ⟨b, 1, none⟩ := by simp
  have d4 : (⟨b, 1, none⟩ : Addr) ≠ ⟨b, 2, none⟩ := by simp
  refine ⟨?_, ?_, ⟨s', ?_⟩, ?_, ?_, ?_⟩
  · show ((w.setCell _ _).setCell _ _).cell? _ = _
    rw [World.cell?_setCell_other _ _ _ _ d2, World.cell?_setCell_other _ _ _ _ d1]
    exact h0
  · show ((w.setCell _ _).setCell _ _).cell? _ = _
    rw [World.cell?_setCell_other _ _ _ _ d3]
    exact World.cell?_setCell_same _ _ _ h1
  · show ((w.setCell _ _).setCell _ _).cell? _ = _
    exact World.cell?_setCell_same _ _ _ (by rw [World.cell?_setCell_other _ _ _ _ d4]; exact h2)
  · show ((w.setCell _ _).setCell _ _).frozen? _ = _
    simpa using f1
  · show ((w.setCell _ _).setCell _ _).frozen? _ = _
    simpa using f2
  · simpa [World.setCell] using hold

/-- What next leaves. -/
def NextP (w : World) (b : Nat) (o : Option Addr) (n c a : Nat) (e : Ending) (w' : World) : Prop := ∃ v : Int, 0 ≤ v ∧ v ≤ 255 ∧ e = .returned (.int .i64 v) ∧ Cur w' b o n c (a + 1) ∧ w.grownBy w' (some b)

set_option maxRecDepth 100000 in
set_option maxHeartbeats 1000000 in
theorem next_in (w : World) (b : Nat) (o : Option Addr) (n c a B : Nat) (hC : Cur w b o n c a) (hD : CodeAt w B o n) (hB : B ≤ b) (ha : a ≤ 1000000000) (hlt : a < n) (hn : n ≤ 2000000) :
    Calls Try.prog 86 #[.pointer (some ⟨b, 0, none⟩)] w (NextP w b o n c a) := by
  obtain ⟨ad, v, rfl, hblk, hcell, hv0, hv1⟩ := hD a hlt
  have HC := Lib.hid hC
  obtain ⟨h0, h1, ⟨s, h2⟩, f1, f2, hold⟩ := hC
  clear hD
  go_enter Try.func86, Try.ntmps86
  go_wp2
  go_quiet (fail)
  go_wp2
  go_quiet (fail)
  go_wp2
  go_quiet (fail)
  go_wp2
  go_ret
  exact ⟨v, hv0, hv1, rfl, cur_moved (cur_drew HC.out _) (a + 1) _ (by omega) _ _, grown_draw (grown_set (grown_set (grown_draw (grown_self w _) _) 1 _) 2 _) _⟩

set_option maxRecDepth 100000 in
set_option maxHeartbeats 1000000 in
theorem next_past (w : World) (b : Nat) (o : Option Addr) (n c a : Nat) (hC : Cur w b o n c a) (ha : a ≤ 1000000000) (hge : ¬ a < n) (hn : n ≤ 2000000) :
    Calls Try.prog 86 #[.pointer (some ⟨b, 0, none⟩)] w (NextP w b o n c a) := by
  have HC := Lib.hid hC
  obtain ⟨h0, h1, ⟨s, h2⟩, f1, f2, hold⟩ := hC
  have hge2 : ¬ a + 1 ≤ n := by omega
  go_enter Try.func86, Try.ntmps86
  go_wp2
  go_quiet (fail)
  go_wp2
  go_quiet (fail)
  go_wp2
  go_ret
  have hr := and255 (IntKind.u64.wrap (IntKind.u64.wrap (IntKind.u64.wrap (s * 6364136223846793005)) + 1442695040888963407) / 1099511627776)
  refine ⟨_, ?_, ?_, rfl, cur_moved (cur_drew HC.out _) (a + 1) _ (by omega) _ _, grown_draw (grown_set (grown_set (grown_draw (grown_self w _) _) 1 _) 2 _) _⟩
  · rw [IntWalk.wrap64_in _ ⟨by omega, by omega⟩]
    exact hr.1
  · rw [IntWalk.wrap64_in _ ⟨by omega, by omega⟩]
    exact hr.2

theorem next_any (w : World) (b : Nat) (o : Option Addr) (n c a B : Nat) (hC : Cur w b o n c a) (hD : CodeAt w B o n) (hB : B ≤ b) (ha : a ≤ 1000000000) (hn : n ≤ 2000000) :
    Calls Try.prog 86 #[.pointer (some ⟨b, 0, none⟩)] w (NextP w b o n c a) := by
  by_cases h : a < n
  · exact next_in w b o n c a B hC hD hB ha h hn
  · exact next_past w b o n c a hC ha h hn

/-- What a call on the cursor leaves: a value of some kind, the cursor moved on by at most k places, nothing else turned. -/
def CurP (Q : Value → Prop) (k : Nat) (w : World) (b : Nat) (o : Option Addr) (n c a : Nat) (e : Ending) (w' : World) : Prop :=
  ∃ (v : Value) (a' : Nat), Q v ∧ a ≤ a' ∧ a' ≤ a + k ∧ e = .returned v ∧ Cur w' b o n c a' ∧ w.grownBy w' (some b)
def IntIn (lo hi : Int) (v : Value) : Prop := ∃ z : Int, v = .int .i64 z ∧ lo ≤ z ∧ z ≤ hi
def SomeInt (v : Value) : Prop := ∃ z : Int, v = .int .i64 z
def SomeBool (v : Value) : Prop := ∃ z : Bool, v = .bool z

set_option maxRecDepth 100000 in
set_option maxHeartbeats 1000000 in
theorem pick_any (m : Int) (w : World) (b : Nat) (o : Option Addr) (n c a B : Nat) (hC : Cur w b o n c a) (hD : CodeAt w B o n) (hB : B ≤ b) (ha : a ≤ 900000000) (hn : n ≤ 2000000) (hm0 : 1 ≤ m) (hm1 : m ≤ 1000000) :
    Calls Try.prog 61 #[.pointer (some ⟨b, 0, none⟩), .int .i64 m] w (CurP (IntIn 0 (m - 1)) 2 w b o n c a) := by
  by_cases h1 : m ≤ 1
  · go_enter Try.func61, Try.ntmps61
    go_wp2
    go_ret
    exact ⟨_, a, ⟨0, rfl, by omega, by omega⟩, by omega, by omega, rfl, hC, grown_self _ _⟩
  · have hold := hC.old
    by_cases h2 : 200 < m
    · have HC := Lib.hid hC
      have HD := Lib.hid hD
      clear hC hD
      go_enter Try.func61, Try.ntmps61
      go_wp2_with fail
      refine (next_any _ b o n c a B HC.out HD.out hB (by omega) hn).mono ?_
      rintro e w1 ⟨v, hv0, hv1, rfl, hC1, hg1⟩
      have HC1 := Lib.hid hC1
      have HG1 := Lib.hid hg1
      clear hC1 hg1
      go_wp2_with fail
      refine (next_any _ b o n c (a + 1) B HC1.out (HD.out.step hB hold HG1.out) hB (by omega) hn).mono ?_
      rintro e w2 ⟨u, hu0, hu1, rfl, hC2, hg2⟩
      have hz : (m == 0) = false := eqFalse (by omega)
      go_wp2
      go_ret
      refine ⟨_, a + 2, ⟨_, rfl, ?_, ?_⟩, by omega, by omega, rfl, hC2, grown_then HG1.out hg2⟩
      · exact Int.emod_nonneg _ (by omega)
      · have := Int.emod_lt_of_pos (v * 256 + u) (show 0 < m by omega)
        omega
    · have HC := Lib.hid hC
      have HD := Lib.hid hD
      clear hC hD
      go_enter Try.func61, Try.ntmps61
      go_wp2_with fail
      refine (next_any _ b o n c a B HC.out HD.out hB (by omega) hn).mono ?_
      rintro e w1 ⟨v, hv0, hv1, rfl, hC1, hg1⟩
      have hz : (m == 0) = false := eqFalse (by omega)
      go_wp2
      go_ret
      refine ⟨_, a + 1, ⟨_, rfl, ?_, ?_⟩, by omega, by omega, rfl, hC1, hg1⟩
      · exact Int.emod_nonneg _ (by omega)
      · have := Int.emod_lt_of_pos v (show 0 < m by omega)
        omega

set_option maxRecDepth 100000 in
set_option maxHeartbeats 1000000 in
theorem one_any (m : Int) (w : World) (b : Nat) (o : Option Addr) (n c a B : Nat) (hC : Cur w b o n c a) (hD : CodeAt w B o n) (hB : B ≤ b) (ha : a ≤ 900000000) (hn : n ≤ 2000000) (hm0 : 1 ≤ m) (hm1 : m ≤ 1000000) :
    Calls Try.prog 63 #[.pointer (some ⟨b, 0, none⟩), .int .i64 m] w (CurP SomeBool 2 w b o n c a) := by
  go_enter Try.func63, Try.ntmps63
  go_wp2_with fail
  refine (pick_any _ _ b o n c a B hC hD hB ha hn hm0 hm1).mono ?_
  rintro e w1 ⟨_, a', ⟨z, rfl, hz0, hz1⟩, h1, h2, rfl, hC1, hg1⟩
  go_wp2
  go_ret
  exact ⟨_, a', ⟨_, rfl⟩, h1, h2, rfl, hC1, hg1⟩
end Go.Proofs.Ytpdnhaaedibbaaa
