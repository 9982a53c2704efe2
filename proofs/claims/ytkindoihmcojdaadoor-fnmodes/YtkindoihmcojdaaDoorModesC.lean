/-
  What the law FnModes needs besides: the readers of modes by one symbolic answer each; that a change done twice is done once.
  Conditions: as each states.
-/
import Derived.Test.YtkindoihmcojdaaDoorCurT
import Derived.Test.YtkindoihmcojdaaDoorChgF
namespace Go.Proofs.YtkindoihmcojdaaDoor
open Go.ChangeShapes Go.WideShapes Go.ChangeAt Go.RowKit Go.Joins
set_option linter.unusedVariables false

noncomputable section
open Classical in
/-- The mode of which a text has the signs. -/
def readO (s : ByteArray) : Option Int := if h : ∃ m : Int, 0 ≤ m ∧ m ≤ 511 ∧ signs m = s then some h.choose else none
open Classical in
/-- The mode of which a text has the digits. -/
def readQ (s : ByteArray) : Option Int := if h : ∃ m : Int, 0 ≤ m ∧ m ≤ 511 ∧ oct m = s then some h.choose else none
end
def valO (o : Option Int) : Int := match o with
  | some n => n
  | none => 0
def isO (o : Option Int) : Bool := match o with
  | some _ => true
  | none => false

theorem implReadMode_sym (s : ByteArray) (w : World) (ht : Tab w) (hs : s.size ≤ maxLen) :
    Calls Tryd.prog 12 #[.string s] w fun e w' => e = .returned (.tuple #[.int .i64 (valO (readO s)), .bool (isO (readO s))]) ∧ w = w' := by
  unfold readO
  split
  · rename_i h
    obtain ⟨h0, h1, h2⟩ := h.choose_spec
    have := implReadMode_yes h.choose w ht h0 h1
    rw [h2] at this
    exact this
  · rename_i h
    exact implReadMode_no s w ht hs (fun m h0 h1 e => h ⟨m, h0, h1, e⟩)
theorem specReadMode_sym (s : ByteArray) (w : World) :
    Calls Tryd.prog 15 #[.string s] w fun e w' => e = .returned (.tuple #[.int .i64 (valO (readO s)), .bool (isO (readO s))]) ∧ w = w' := by
  unfold readO
  split
  · rename_i h
    obtain ⟨h0, h1, h2⟩ := h.choose_spec
    have := specReadMode_yes h.choose w h0 h1
    rw [h2] at this
    exact this
  · rename_i h
    exact specReadMode_no s w (fun m h0 h1 e => h ⟨m, h0, h1, e⟩)
theorem implReadOctal_sym (s : ByteArray) (w : World) (hs : s.size ≤ maxLen) :
    Calls Tryd.prog 13 #[.string s] w fun e w' => e = .returned (.tuple #[.int .i64 (valO (readQ s)), .bool (isO (readQ s))]) ∧ w = w' := by
  unfold readQ
  split
  · rename_i h
    obtain ⟨h0, h1, h2⟩ := h.choose_spec
    have := implRead_yes h.choose w h0 h1
    rw [h2] at this
    exact this
  · rename_i h
    exact implRead_no s w hs (fun m h0 h1 e => h ⟨m, h0, h1, e⟩)
theorem specReadOctal_sym (s : ByteArray) (w : World) :
    Calls Tryd.prog 17 #[.string s] w fun e w' => e = .returned (.tuple #[.int .i64 (valO (readQ s)), .bool (isO (readQ s))]) ∧ Below w.heap.size w w' := by
  unfold readQ
  split
  · rename_i h
    obtain ⟨h0, h1, h2⟩ := h.choose_spec
    have := specRead_yes h.choose w h0 h1
    rw [h2] at this
    exact this
  · rename_i h
    exact specRead_no s w (fun m h0 h1 e => h ⟨m, h0, h1, e⟩)

/-! a change done twice is done once -/
theorem wrap_ofInt (n : Int) : BitVec.ofInt 64 (IntKind.i64.wrap n) = BitVec.ofInt 64 n := by
  apply BitVec.eq_of_toInt_eq
  rw [BitVec.toInt_ofInt, BitVec.toInt_ofInt, IntKind.wrap_i64]
  simp only [Int.bmod]
  omega
theorem ofInt_toNat (x : BitVec 64) : BitVec.ofInt 64 (x.toNat : Int) = x := by
  rw [BitVec.ofInt_natCast]
  simp
theorem bv_or (a b : Int) : BitVec.ofInt 64 (bits BinOp.or IntKind.i64 a b) = BitVec.ofInt 64 a ||| BitVec.ofInt 64 b := by
  show BitVec.ofInt 64 (IntKind.i64.wrap ((BitVec.ofInt 64 a ||| BitVec.ofInt 64 b).toNat : Int)) = _
  rw [wrap_ofInt, ofInt_toNat]
theorem bv_and (a b : Int) : BitVec.ofInt 64 (bits BinOp.and IntKind.i64 a b) = BitVec.ofInt 64 a &&& BitVec.ofInt 64 b := by
  show BitVec.ofInt 64 (IntKind.i64.wrap ((BitVec.ofInt 64 a &&& BitVec.ofInt 64 b).toNat : Int)) = _
  rw [wrap_ofInt, ofInt_toNat]
theorem bv_andNot (a b : Int) : BitVec.ofInt 64 (bits BinOp.andNot IntKind.i64 a b) = BitVec.ofInt 64 a &&& ~~~BitVec.ofInt 64 b := by
  show BitVec.ofInt 64 (IntKind.i64.wrap ((BitVec.ofInt 64 a &&& ~~~BitVec.ofInt 64 b).toNat : Int)) = _
  rw [wrap_ofInt, ofInt_toNat]
theorem or_def (a b : Int) : bits BinOp.or IntKind.i64 a b = IntKind.i64.wrap ((BitVec.ofInt 64 a ||| BitVec.ofInt 64 b).toNat : Int) := rfl
theorem andNot_def (a b : Int) : bits BinOp.andNot IntKind.i64 a b = IntKind.i64.wrap ((BitVec.ofInt 64 a &&& ~~~BitVec.ofInt 64 b).toNat : Int) := rfl

theorem andNot_range (a b : Int) (ha0 : 0 ≤ a) (ha1 : a ≤ 511) : 0 ≤ bits BinOp.andNot IntKind.i64 a b ∧ bits BinOp.andNot IntKind.i64 a b ≤ 511 := by
  obtain ⟨n, rfl⟩ : ∃ n : Nat, a = (n : Int) := ⟨a.toNat, by omega⟩
  have h : (BitVec.ofInt 64 (n : Int) &&& ~~~BitVec.ofInt 64 b).toNat ≤ n := by
    rw [BitVec.toNat_and]
    refine Nat.le_trans Nat.and_le_left ?_
    rw [ofInt_small n (by omega)]
    exact Nat.le_refl _
  rw [andNot_def, IntWalk.i64_in _ (by omega)]
  omega
theorem and_range (a b : Int) (ha0 : 0 ≤ a) (ha1 : a ≤ 511) : 0 ≤ bits BinOp.and IntKind.i64 a b ∧ bits BinOp.and IntKind.i64 a b ≤ 511 := by
  obtain ⟨n, rfl⟩ : ∃ n : Nat, a = (n : Int) := ⟨a.toNat, by omega⟩
  have h : (BitVec.ofInt 64 (n : Int) &&& BitVec.ofInt 64 b).toNat ≤ n := by
    rw [BitVec.toNat_and]
    refine Nat.le_trans Nat.and_le_left ?_
    rw [ofInt_small n (by omega)]
    exact Nat.le_refl _
  show 0 ≤ IntKind.i64.wrap ((BitVec.ofInt 64 (n : Int) &&& BitVec.ofInt 64 b).toNat : Int) ∧ IntKind.i64.wrap ((BitVec.ofInt 64 (n : Int) &&& BitVec.ofInt 64 b).toNat : Int) ≤ 511
  rw [IntWalk.i64_in _ (by omega)]
  omega

theorem signed_range (m : Int) (x : UInt8) (a t : Int) (hm0 : 0 ≤ m) (hm1 : m ≤ 511) (ha0 : 0 ≤ a) (ha1 : a ≤ 511) : 0 ≤ signed m x a (bits BinOp.and IntKind.i64 a t) ∧ signed m x a (bits BinOp.and IntKind.i64 a t) ≤ 511 := by
  obtain ⟨b0, b1⟩ := and_range a t ha0 ha1
  obtain ⟨n0, n1⟩ := andNot_range m a hm0 hm1
  unfold signed
  split
  · exact or_range _ _ hm0 hm1 b0 b1
  · split
    · exact andNot_range _ _ hm0 hm1
    · exact or_range _ _ n0 n1 b0 b1

theorem signed_twice (m : Int) (x : UInt8) (a t : Int) : signed (signed m x a (bits BinOp.and IntKind.i64 a t)) x a (bits BinOp.and IntKind.i64 a t) = signed m x a (bits BinOp.and IntKind.i64 a t) := by
  unfold signed
  split
  · rw [or_def (bits BinOp.or IntKind.i64 m _), bv_or, or_def m, BitVec.or_assoc, BitVec.or_self]
  · split
    · rw [andNot_def (bits BinOp.andNot IntKind.i64 m _), bv_andNot, andNot_def m, BitVec.and_assoc, BitVec.and_self]
    · have hr := bv_or (bits BinOp.andNot IntKind.i64 m a) (bits BinOp.and IntKind.i64 a t)
      rw [bv_andNot, bv_and] at hr
      have e : BitVec.ofInt 64 (bits BinOp.andNot IntKind.i64 (bits BinOp.or IntKind.i64 (bits BinOp.andNot IntKind.i64 m a) (bits BinOp.and IntKind.i64 a t)) a) ||| BitVec.ofInt 64 (bits BinOp.and IntKind.i64 a t) =
          BitVec.ofInt 64 (bits BinOp.andNot IntKind.i64 m a) ||| BitVec.ofInt 64 (bits BinOp.and IntKind.i64 a t) := by
        rw [bv_andNot (bits BinOp.or IntKind.i64 (bits BinOp.andNot IntKind.i64 m a) (bits BinOp.and IntKind.i64 a t)) a, hr, bv_andNot m a, bv_and]
        generalize BitVec.ofInt 64 m = M
        generalize BitVec.ofInt 64 a = A
        generalize BitVec.ofInt 64 t = T
        ext i
        simp only [BitVec.getElem_or, BitVec.getElem_and, BitVec.getElem_not]
        cases M[i] <;> cases A[i] <;> cases T[i] <;> rfl
      exact congrArg (fun v : BitVec 64 => IntKind.i64.wrap (v.toNat : Int)) e

theorem chg_again {m z : Int} {l : List UInt8} (h : chgOf m l = some z) : chgOf z l = some z ∧ 0 ≤ z ∧ z ≤ 511 := by
  by_cases hc : inB 0 511 m = true ∧ 1 ≤ kOf l ∧ kOf l < l.length
  · obtain ⟨m0, m1⟩ := inB_t hc.1
    have hx : l[kOf l]? = some l[kOf l] := List.getElem?_eq_getElem hc.2.2
    cases ha : lettersOf whoB (l.take (kOf l)) with
    | none => rw [chg_who ha] at h; cases h
    | some a =>
      cases hb : lettersOf whatB (l.drop (kOf l + 1)) with
      | none => rw [chg_what hb] at h; cases h
      | some t =>
        rw [chg_some hc hx ha hb] at h
        obtain rfl := Option.some.inj h
        obtain ⟨a0, a1⟩ := letters_range whoB_range ha
        obtain ⟨z0, z1⟩ := signed_range m l[kOf l] a t m0 m1 a0 a1
        refine ⟨?_, z0, z1⟩
        rw [chg_some ⟨(inB_mk z0 z1).symm, hc.2.1, hc.2.2⟩ hx ha hb, signed_twice]
  · rw [chg_bad hc] at h
    cases h
end Go.Proofs.YtkindoihmcojdaaDoor
