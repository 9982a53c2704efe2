
/-
  Plain addresses; sizes of texts. No function of the program is named.
  Conditions: as each states.
-/
import Derived.Test.YthobfdcomcknoaaDoorRowC
import Derived.Test.YthobfdcomcknoaaDoorFsM
import Derived.Deep.SlicePairs
import Derived.BigQuiet
import Derived.Deep.QuietTactic
import Derived.Lib.QuietBelow
namespace Go.Proofs.YthobfdcomcknoaaDoor
open Go.ChangeShapes Go.WideShapes Go.ChangeAt Go.RowKit Go.Joins
set_option linter.unusedVariables false
set_option maxRecDepth 100000

def wf64L (n : Int) : Prop := (Lit.int .i64 n).wf = true
def EntWL (e : Ent) : Prop := wf64L e.node
theorem spot_of_cellL {w : World} {a : Addr} {v : Value} (h : w.cell? a = some v) : a.spot = none := by
  unfold World.cell? at h
  split at h
  · split at h
    · cases h
    · rename_i hs; cases hq : a.spot with
      | none => rfl
      | some y => rw [hq] at hs; exact absurd rfl hs
  · cases h
theorem add_plainL (g off i : Nat) : (⟨g, off, none⟩ : Addr).add i = ⟨g, off + i, none⟩ := by
  unfold Addr.add; split
  · rename_i h; subst h; rfl
  · rfl
/-- An address where cells lie, in plain words. -/
theorem addr_plainL {w : World} {a : Addr} {v : Value} (h : w.cell? a = some v) : a = ⟨a.block, a.off, none⟩ := by
  have := spot_of_cellL h
  cases a; simp_all

theorem dataLeL {s : ByteArray} {n : Nat} (h : s.size ≤ n) : s.data.toList.length ≤ n := by rw [Array.length_toList]; exact h

end Go.Proofs.YthobfdcomcknoaaDoor
