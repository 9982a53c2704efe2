
/-
  A block of cells as a function of the place: how it reads, how a store turns it, what leaves it alone. No function of the program is named.
  Conditions: as each states.
-/
import Derived.Test.YthobfdcomcknoaaDoorBase
import Derived.Laws.OwnMore
import Derived.OwnWalk
namespace Go.Proofs.YthobfdcomcknoaaDoor
open Go.ChangeShapes Go.WideShapes Go.ChangeAt Go.RowKit Go.Joins
set_option linter.unusedVariables false

/-- The first n cells of block G (of elements of type T, none frozen) are F. -/
def RowAt (w : World) (G n : Nat) (T : TypeId) (F : Nat → Value) : Prop := ∃ cur, w.heap[G]? = some (.cells cur T (0, 0)) ∧ n ≤ cur.size ∧ ∀ j, j < n → cur[j]? = some (F j)

section
variable {w w' : World} {G n : Nat} {T : TypeId} {F : Nat → Value}
theorem RowAt.lt (h : RowAt w G n T F) : G < w.heap.size := by
  obtain ⟨cur, hg, _⟩ := h
  exact (Array.getElem?_eq_some_iff.1 hg).1
theorem RowAt.cell (h : RowAt w G n T F) {j : Nat} (hj : j < n) : w.cell? ⟨G, j, none⟩ = some (F j) := by
  obtain ⟨cur, hg, _, hF⟩ := h
  simp [World.cell?, hg, hF j hj]
theorem RowAt.frozen (h : RowAt w G n T F) (j : Nat) : w.frozen? ⟨G, j, none⟩ = false := by
  obtain ⟨cur, hg, _⟩ := h
  exact frozen_of_row w G j cur T hg
theorem RowAt.congr (h : RowAt w G n T F) {F' : Nat → Value} (e : ∀ j, j < n → F j = F' j) : RowAt w G n T F' := by
  obtain ⟨cur, hg, hs, hF⟩ := h
  exact ⟨cur, hg, hs, fun j hj => by rw [hF j hj, e j hj]⟩
theorem RowAt.of_block (h : RowAt w G n T F) (hb : w'.heap[G]? = w.heap[G]?) : RowAt w' G n T F := by
  obtain ⟨cur, hg, hs, hF⟩ := h
  exact ⟨cur, hb.trans hg, hs, hF⟩
theorem RowAt.below (h : RowAt w G n T F) {B : Nat} (hb : Below B w w') (hB : G < B) : RowAt w' G n T F := h.of_block (hb.block G hB)
theorem RowAt.alloc (h : RowAt w G n T F) (o : Obj) : RowAt (w.alloc o) G n T F := h.of_block (Below.heap_alloc w o G h.lt)
theorem RowAt.set (h : RowAt w G n T F) (j : Nat) (u : Value) : RowAt (w.setCell ⟨G, j, none⟩ u) G n T (fun i => if i = j then u else F i) := by
  obtain ⟨cur, hg, hs, hF⟩ := h
  refine ⟨cur.setIfInBounds j u, heap_setCell_same w G j cur T u hg, by simpa using hs, fun i hi => ?_⟩
  by_cases e : i = j
  · subst e
    simp only [if_true]
    rw [Array.getElem?_setIfInBounds_self_of_lt (by omega)]
  · simp only [if_neg e]
    rw [Array.getElem?_setIfInBounds_ne (fun x => e x.symm), hF i hi]
theorem RowAt.other (h : RowAt w G n T F) {p : Addr} (hp : p.block ≠ G) (u : Value) : RowAt (w.setCell p u) G n T F := h.of_block (Below.heap_setCell w p u G (fun e => hp e.symm))
theorem RowAt.less (h : RowAt w G n T F) {m : Nat} (hm : m ≤ n) : RowAt w G m T F := by
  obtain ⟨cur, hg, hs, hF⟩ := h
  exact ⟨cur, hg, by omega, fun j hj => hF j (by omega)⟩
/-- A row that make has laid. -/
theorem RowAt.made {size k B : Nat} {xs : List Value} (h : w.ownsRow B T size (.slice (some ⟨G, 0, none⟩) k k) k xs) (hF : ∀ j, j < k * size → xs[j]? = some (F j)) : RowAt w G (k * size) T F := by
  rcases h.2 with ⟨e, _⟩ | ⟨g, cap, cur, e, _, hg, _, _, hs, ht⟩
  · cases e
  · simp only [Value.slice.injEq, Option.some.injEq, Addr.mk.injEq, and_true, true_and] at e
    obtain ⟨rfl, rfl⟩ := e
    refine ⟨cur, hg, by omega, fun j hj => ?_⟩
    have h1 := hF j hj
    rw [← ht, List.getElem?_take, if_pos hj, Array.getElem?_toList] at h1
    exact h1
end
end Go.Proofs.YthobfdcomcknoaaDoor
