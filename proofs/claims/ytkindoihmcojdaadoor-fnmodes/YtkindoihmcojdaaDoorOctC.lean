/-
  Contracts of spec.l1Num (one digit), spec.l1Octal, spec.OctalText and impl.OctalText, for every mode.
  Conditions: the ranges that each contract names.
-/
import Derived.Test.YtkindoihmcojdaaDoorModeC
import Derived.Laws.BytesString
import Derived.Laws.IdiomStrings
namespace Go.Proofs.YtkindoihmcojdaaDoor
open Go.ChangeShapes Go.WideShapes Go.ChangeAt Go.RowKit Go.Joins
set_option linter.unusedVariables false

/-- The text whose bytes are these numbers. -/
def strOf (l : List Int) : ByteArray := ⟨(l.map fun n => UInt8.ofNat n.toNat).toArray⟩
theorem strOf_add (a b : List Int) : strOf a ++ strOf b = strOf (a ++ b) := by
  apply ByteArray.ext
  simp [strOf]
theorem strOf_fold : ∀ (l : List Int) (r : ByteArray), l.foldl (fun r n => r.push (UInt8.ofNat n.toNat)) r = r ++ strOf l
  | [], r => by apply ByteArray.ext; simp [strOf]
  | n :: l, r => by
    rw [List.foldl_cons, strOf_fold l]
    apply ByteArray.ext
    simp [strOf, ByteArray.push]

theorem load_new {P : Program} (w : World) (l : List Int) (t : TypeId) :
    (loadCells ⟨w.heap.size, 0, none⟩ l.length).run P (w.alloc (.cells (l.map (Value.int .u8)).toArray t)) = .ok (l.map (Value.int .u8)).toArray (w.alloc (.cells (l.map (Value.int .u8)).toArray t)) := by
  have h := run_loadCells_list (P := P) (w.alloc (.cells (l.map (Value.int .u8)).toArray t)) ⟨w.heap.size, 0, none⟩ (l.map (Value.int .u8)) (fun j v hj => by
    have e : (⟨w.heap.size, 0, none⟩ : Addr).add j = ⟨w.heap.size, j, none⟩ := by
      unfold Addr.add
      split <;> simp_all
    rw [e, World.cell?_alloc_mark]
    simpa using hj)
  simpa using h

/-- string(b) of a new slice of bytes. -/
theorem str_new (w : World) (l : List Int) (cap : Nat) :
    (convert 22 9 (.slice (some ⟨w.heap.size, 0, none⟩) l.length cap)).run Tryd.prog (w.alloc (.cells (l.map (Value.int .u8)).toArray 5)) = .ok (.string (strOf l)) (w.alloc (.cells (l.map (Value.int .u8)).toArray 5)) := by
  rw [run_convert_bytes_string _ 22 9 5 _ _ _ Tryd.underlying22 Tryd.underlying5 Tryd.underlying9, run_bytesToString _ _ _ _ l (load_new w l 5), strOf_fold]
  congr 2
theorem str_new1 (w : World) (a : Int) : (convert 22 9 (.slice (some ⟨w.heap.size, 0, none⟩) 1 1)).run Tryd.prog (w.alloc (.cells #[.int .u8 a] 5)) = .ok (.string (strOf [a])) (w.alloc (.cells #[.int .u8 a] 5)) := str_new w [a] 1
theorem str_new3 (w : World) (a b c : Int) : (convert 22 9 (.slice (some ⟨w.heap.size, 0, none⟩) 3 3)).run Tryd.prog (w.alloc (.cells #[.int .u8 a, .int .u8 b, .int .u8 c] 5)) = .ok (.string (strOf [a, b, c])) (w.alloc (.cells #[.int .u8 a, .int .u8 b, .int .u8 c] 5)) := str_new w [a, b, c] 3

set_option maxHeartbeats 400000 in
theorem l1Num_digit (n : Int) (w : World) (h0 : 0 ≤ n) (h1 : n ≤ 7) :
    Calls Tryd.prog 41 #[.int .i64 n] w fun e w' => e = .returned (.string (strOf [48 + n])) ∧ Below w.heap.size w w' := by
  have hs := str_new1
  go_enter Tryd.func41, Tryd.ntmps41
  go_wp2
  go_ret
  exact ⟨rfl, by go_grown⟩

/-- The three digits of a mode. -/
def oct (m : Int) : ByteArray := strOf [48 + m / 64, 48 + m / 8 % 8, 48 + m % 8]

set_option maxHeartbeats 400000 in
theorem implOctal_yes (m : Int) (w : World) (h : inB 0 511 m = true) :
    Calls Tryd.prog 10 #[.int .i64 m] w fun e w' => e = .returned (.tuple #[.string (oct m), .bool true]) ∧ Below w.heap.size w w' := by
  obtain ⟨h0, h1⟩ := inB_t h
  have hs := str_new3
  go_enter Tryd.func10, Tryd.ntmps10
  go_wp2_with (first | (go_at_call 23; refine (isMode_any _ _).mono ?_; rintro e w' ⟨rfl, rfl⟩) | (go_at_call 24; refine (triples _ _ h0 h1).mono ?_; rintro e w' ⟨rfl, rfl⟩))
  go_ret2
  exact ⟨rfl, by go_grown⟩

set_option maxHeartbeats 400000 in
theorem implOctal_no (m : Int) (w : World) (h : inB 0 511 m = false) :
    Calls Tryd.prog 10 #[.int .i64 m] w fun e w' => e = .returned (.tuple #[.string ⟨#[]⟩, .bool false]) ∧ Below w.heap.size w w' := by
  go_enter Tryd.func10, Tryd.ntmps10
  go_wp2_with (go_at_call 23; refine (isMode_any _ _).mono ?_; rintro e w' ⟨rfl, rfl⟩)
  go_ret2
  exact ⟨rfl, by go_grown⟩

set_option maxHeartbeats 400000 in
theorem l1Octal_any (m : Int) (w : World) (h0 : 0 ≤ m) (h1 : m ≤ 511) :
    Calls Tryd.prog 27 #[.int .i64 m] w fun e w' => e = .returned (.string (oct m)) ∧ Below w.heap.size w w' := by
  go_enter Tryd.func27, Tryd.ntmps27
  go_wp2_with fail
  refine (l1Num_digit _ _ (by omega) (by omega)).mono ?_
  rintro e w1 ⟨rfl, hb1⟩
  go_wp2_with fail
  refine (l1Num_digit _ _ (by omega) (by omega)).mono ?_
  rintro e w2 ⟨rfl, hb2⟩
  go_wp2_with fail
  refine (l1Num_digit _ _ (by omega) (by omega)).mono ?_
  rintro e w3 ⟨rfl, hb3⟩
  go_wp2
  go_ret
  have hz1 := hb1.size
  have hz2 := hb2.size
  exact ⟨ret_str (by rw [strOf_add, strOf_add]; rfl), (hb1.trans (hb2.mono (by omega))).trans (hb3.mono (by omega))⟩

set_option maxHeartbeats 400000 in
theorem specOctal_yes (m : Int) (w : World) (h : inB 0 511 m = true) :
    Calls Tryd.prog 11 #[.int .i64 m] w fun e w' => e = .returned (.tuple #[.string (oct m), .bool true]) ∧ Below w.heap.size w w' := by
  obtain ⟨h0, h1⟩ := inB_t h
  go_enter Tryd.func11, Tryd.ntmps11
  go_wp2_with (first | (go_at_call 25; refine (l1Mode_any _ _).mono ?_; rintro e w' ⟨rfl, rfl⟩) | (go_at_call 27; refine (l1Octal_any _ _ h0 h1).mono ?_; rintro e w1 ⟨rfl, hb⟩))
  go_ret2
  exact ⟨rfl, hb⟩

set_option maxHeartbeats 400000 in
theorem specOctal_no (m : Int) (w : World) (h : inB 0 511 m = false) :
    Calls Tryd.prog 11 #[.int .i64 m] w fun e w' => e = .returned (.tuple #[.string ⟨#[]⟩, .bool false]) ∧ Below w.heap.size w w' := by
  go_enter Tryd.func11, Tryd.ntmps11
  go_wp2_with (go_at_call 25; refine (l1Mode_any _ _).mono ?_; rintro e w' ⟨rfl, rfl⟩)
  go_ret2
  exact ⟨rfl, by go_grown⟩
end Go.Proofs.YtkindoihmcojdaaDoor
