
/-
  CodeText of both: the words of the codes; the program's in a world that holds the table impl.codeTexts.
  Conditions: the table's cells.
-/
import Derived.Test.YthobfdcomcknoaaDoorInC
import Derived.Test.YthobfdcomcknoaaDoorPathM
import Derived.Lib.Hide
namespace Go.Proofs.YthobfdcomcknoaaDoor
open Go.ChangeShapes Go.WideShapes Go.ChangeAt Go.RowKit Go.Joins
set_option linter.unusedVariables false
set_option linter.unusedSimpArgs false

/-- The words of the codes. -/
def words4 : List (List UInt8) := [[111, 107], [112, 97, 116, 104], [110, 111, 110, 101], [110, 111, 100, 105, 114], [109, 97, 121], [108, 111, 111, 112], [116, 104, 101, 114, 101], [105, 115, 100, 105, 114], [102, 117, 108, 108], [98, 117, 115, 121], [102, 97, 117, 108, 116]]
def codeT (n : Int) : List UInt8 := if inB 0 10 n = true then words4.getD n.toNat [] else []
theorem cell_new11 (w : World) (cs : Array Value) (T : TypeId) (j : Nat) : (w.alloc (.cells cs T)).cell? ⟨w.heap.size, j, none⟩ = cs[j]? := by
  have h := heap_alloc_new w (.cells cs T)
  have h2 : ∀ {b : Nat} {W : World}, W.heap[b]? = some (.cells cs T) → W.cell? ⟨b, j, none⟩ = cs[j]? := fun h => by simp [World.cell?, h]
  exact h2 h
set_option maxHeartbeats 2000000 in
theorem l4Words_any (w : World) : Calls Tryd.prog 12 #[] w fun e w' => e = .returned (.slice (some ⟨w.heap.size, 0, none⟩) 11 11) ∧ (∀ i, i < 11 → w'.cell? ⟨w.heap.size, i, none⟩ = some (.string (bs (words4.getD i [])))) ∧ Below w.heap.size w w' := by
  go_enter Tryd.func12, Tryd.ntmps12
  go_wp2
  go_ret
  refine ⟨rfl, fun i hi => ?_, (Below.refl _ _).alloc (Nat.le_refl _) _⟩
  rcases (show i = 0 ∨ i = 1 ∨ i = 2 ∨ i = 3 ∨ i = 4 ∨ i = 5 ∨ i = 6 ∨ i = 7 ∨ i = 8 ∨ i = 9 ∨ i = 10 by omega) with rfl | rfl | rfl | rfl | rfl | rfl | rfl | rfl | rfl | rfl | rfl <;> exact cell_new11 w _ _ _
/-- The table's cells hold the eleven words. -/
def Tab4 (w : World) : Prop := 0 < w.heap.size ∧ ∀ i, i < 11 → w.cell? ⟨0, i, none⟩ = some (.string (bs (words4.getD i [])))
theorem Tab4.below {B : Nat} {w w' : World} (h : Tab4 w) (hb : Below B w w') (hB : 0 < B) : Tab4 w' :=
  ⟨Nat.lt_of_lt_of_le h.1 hb.size, fun i hi => by rw [hb.cell (p := ⟨0, i, none⟩) hB]; exact h.2 i hi⟩
set_option maxHeartbeats 2000000 in
theorem codeText_any (n : Int) (w : World) (ht : Tab4 w) : Calls Tryd.prog 21 #[.int .i64 n] w fun e w' => e = .returned (.tuple #[.string (bs (codeT n)), .bool (inB 0 10 n)]) ∧ w = w' := by
  by_cases h : inB 0 10 n = true
  · have HI := Lib.hid h
    obtain ⟨h0, h1⟩ := inB_t h
    obtain ⟨m, rfl⟩ : ∃ m : Nat, n = m := ⟨n.toNat, by omega⟩
    have HV : Hid (codeT (m : Int) = words4.getD m []) := Lib.hid (by unfold codeT; rw [if_pos h]; simp)
    have hm : m < 11 := by omega
    have d := ht.2 m hm
    rw [← HV.out] at d
    clear h ht
    go_enter Tryd.func21, Tryd.ntmps21
    go_wp2
    go_ret2
    exact ⟨by rw [HI.out]; rfl, rfl⟩
  · have HI : Hid (inB 0 10 n = false) := Lib.hid (by simpa using h)
    have HV : Hid (codeT n = []) := Lib.hid (by unfold codeT; rw [HI.out]; rfl)
    clear ht
    by_cases h0 : 0 ≤ n
    · have h1 : 10 < n := by
        rcases Int.lt_or_le 10 n with h1 | h1
        · exact h1
        · rw [← inB_mk h0 h1] at h; exact absurd rfl h
      clear h
      go_enter Tryd.func21, Tryd.ntmps21
      go_wp2
      go_ret2
      exact ⟨by rw [HI.out, HV.out]; rfl, rfl⟩
    · clear h
      go_enter Tryd.func21, Tryd.ntmps21
      go_wp2
      go_ret2
      exact ⟨by rw [HI.out, HV.out]; rfl, rfl⟩
end Go.Proofs.YthobfdcomcknoaaDoor
