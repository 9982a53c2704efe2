
/-
  File systems as plain data: entries, nodes, a list of nodes; how they read in memory.
  Conditions: as each states.
-/
import Derived.Test.YthobfdcomcknoaaDoorBase
import Derived.Test.YthobfdcomcknoaaDoorPathM
import Derived.Laws.OwnMore
namespace Go.Proofs.YthobfdcomcknoaaDoor
open Go.ChangeShapes Go.WideShapes Go.ChangeAt Go.RowKit Go.Joins
set_option linter.unusedVariables false

structure Ent where
  name : List UInt8
  node : Int
structure Nod where
  kind : Int
  mode : Int
  uid : Int
  gid : Int
  time : Int
  data : List UInt8
  list : List Ent
structure FsD where
  nodes : List Nod
  room : Int

theorem addBlock (a : Addr) (i : Nat) : (a.add i).block = a.block := by unfold Addr.add; split <;> rfl

/-- The value reads as a list of entries, wherever it lies. -/
def EntsA (w : World) (v : Value) (es : List Ent) : Prop :=
  ∃ o c, v = .slice o es.length c ∧ es.length ≤ maxLen ∧ ∀ i (h : i < es.length), ∃ g off, o = some ⟨g, off, none⟩ ∧ g < w.heap.size ∧ w.cell? ⟨g, off + i * 2, none⟩ = some (.string (bs es[i].name)) ∧ w.cell? ⟨g, off + i * 2 + 1, none⟩ = some (.int .i64 es[i].node) ∧ es[i].name.length ≤ maxLen

theorem EntsA.below {w w' : World} {v : Value} {es : List Ent} (h : EntsA w v es) (hb : Below w.heap.size w w') : EntsA w' v es := by
  obtain ⟨o, c, rfl, hm, hH⟩ := h
  refine ⟨o, c, rfl, hm, fun i hi => ?_⟩
  obtain ⟨g, off, e, hg, h1, h2, h3⟩ := hH i hi
  exact ⟨g, off, e, Nat.lt_of_lt_of_le hg hb.size, (hb.cell (p := ⟨g, off + i * 2, none⟩) hg).trans h1, (hb.cell (p := ⟨g, off + i * 2 + 1, none⟩) hg).trans h2, h3⟩

def lensE (es : List Ent) : Nat := (es.map fun e => e.name.length).sum
theorem lensE_take {es : List Ent} {k : Nat} (h : k < es.length) : lensE (es.take (k + 1)) = lensE (es.take k) + es[k].name.length := by
  unfold lensE; rw [List.take_succ_eq_append_getElem h]; simp only [List.map_append, List.sum_append, List.map_cons, List.map_nil, List.sum_cons, List.sum_nil, Nat.add_zero]
theorem lensE_pre (es : List Ent) (k : Nat) : lensE (es.take k) ≤ lensE es := by
  conv => rhs; rw [← List.take_append_drop k es]
  unfold lensE; rw [List.map_append, List.sum_append]; omega

/-- left without n, -1 where that is too much. -/
def lessR (n : Nat) (left : Int) : Int := if (n : Int) ≤ left then left - n else -1

end Go.Proofs.YthobfdcomcknoaaDoor
