/-
  Contracts of impl.ChangeMode and spec.ChangeMode by their outcome: both tell chgOf.
  Conditions: the text has fewer than 4294967281 bytes.
-/
import Derived.Test.YtkindoihmcojdaaDoorChgE
namespace Go.Proofs.YtkindoihmcojdaaDoor
open Go.ChangeShapes Go.WideShapes Go.ChangeAt Go.RowKit Go.Joins

theorem spec_chg (m : Int) (s : ByteArray) : specEnd m s (kOf s.data.toList) = chgOf m s.data.toList := by
  have hl := Lib.size_eq s
  unfold specEnd chgOf
  rw [ext_take, ext_drop, hl]
  cases lettersOf whoB (s.data.toList.take (kOf s.data.toList)) <;> cases lettersOf whatB (s.data.toList.drop (kOf s.data.toList + 1)) <;> rfl

theorem specChange_some (m : Int) (s : ByteArray) (n : Int) (w : World) (hs : s.size < 4294967281) (h : chgOf m s.data.toList = some n) :
    Calls Tryd.prog 20 #[.int .i64 m, .string s] w fun e w' => e = .returned (.tuple #[.int .i64 n, .bool true]) ∧ Below w.heap.size w w' :=
  (specChange_at m s _ w hs (signAt s)).mono fun e w' k => ⟨by rw [k.1, spec_chg, h]; rfl, k.2⟩
theorem specChange_none (m : Int) (s : ByteArray) (w : World) (hs : s.size < 4294967281) (h : chgOf m s.data.toList = none) :
    Calls Tryd.prog 20 #[.int .i64 m, .string s] w fun e w' => e = .returned (.tuple #[.int .i64 0, .bool false]) ∧ Below w.heap.size w w' :=
  (specChange_at m s _ w hs (signAt s)).mono fun e w' k => ⟨by rw [k.1, spec_chg, h]; rfl, k.2⟩
theorem implChange_someR (m : Int) (s : ByteArray) (n : Int) (w : World) (hs : s.size < 4294967281) (h : chgOf m s.data.toList = some n) :
    Calls Tryd.prog 19 #[.int .i64 m, .string s] w fun e w' => e = .returned (.tuple #[.int .i64 n, .bool true]) ∧ Below w.heap.size w w' :=
  (implChange_any m s w hs).mono fun e w' k => ⟨by rw [k.1, h]; rfl, k.2⟩
theorem implChange_noneR (m : Int) (s : ByteArray) (w : World) (hs : s.size < 4294967281) (h : chgOf m s.data.toList = none) :
    Calls Tryd.prog 19 #[.int .i64 m, .string s] w fun e w' => e = .returned (.tuple #[.int .i64 0, .bool false]) ∧ Below w.heap.size w w' :=
  (implChange_any m s w hs).mono fun e w' k => ⟨by rw [k.1, h]; rfl, k.2⟩
end Go.Proofs.YtkindoihmcojdaaDoor
