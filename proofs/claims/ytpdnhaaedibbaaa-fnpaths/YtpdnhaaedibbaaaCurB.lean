/-
  How a cursor, its bytes and new blocks are kept.
  Conditions: as each states.
-/
import Derived.Test.YtpdnhaaedibbaaaCurA
namespace Go.Proofs.Ytpdnhaaedibbaaa
open Go.ChangeShapes Go.WideShapes Go.ChangeAt Go.RowKit Go.Joins
set_option linter.unusedVariables false

theorem Cur.alloc {w : World} {b : Nat} {o : Option Addr} {n c a : Nat} (h : Cur w b o n c a) (x : Obj) : Cur (w.alloc x) b o n c a := by
  have hb : (w.alloc x).heap[b]? = w.heap[b]? := Below.heap_alloc w x b h.old
  have hc : ∀ k, (w.alloc x).cell? ⟨b, k, none⟩ = w.cell? ⟨b, k, none⟩ := fun k => World.cell?_of_block (a := ⟨b, k, none⟩) hb
  have hf : ∀ k, (w.alloc x).frozen? ⟨b, k, none⟩ = w.frozen? ⟨b, k, none⟩ := fun k => World.frozen?_of_block (a := ⟨b, k, none⟩) hb
  obtain ⟨s, hs⟩ := h.seed
  exact ⟨(hc 0).trans h.code, (hc 1).trans h.here, ⟨s, (hc 2).trans hs⟩, (hf 1).trans h.free1, (hf 2).trans h.free2, by have := h.old; simp; omega⟩
theorem CodeAt.alloc {w : World} {B : Nat} {o : Option Addr} {n : Nat} (h : CodeAt w B o n) (hB : B ≤ w.heap.size) (x : Obj) : CodeAt (w.alloc x) B o n := by
  intro i hi
  obtain ⟨ad, v, e, hlt, hc, h0, h1⟩ := h i hi
  refine ⟨ad, v, e, hlt, ?_, h0, h1⟩
  rw [World.cell?_of_block (a := ad.add i) (Below.heap_alloc w x _ (by rw [add_block]; omega))]
  exact hc
theorem kept {w w' : World} {b : Nat} (hg : w.grownBy w' (some b)) (k o : Nat) (h : k < w.heap.size) (hne : k ≠ b) : w'.cell? ⟨k, o, none⟩ = w.cell? ⟨k, o, none⟩ ∧ w'.frozen? ⟨k, o, none⟩ = w.frozen? ⟨k, o, none⟩ :=
  ⟨World.cell?_of_block (a := ⟨k, o, none⟩) (hg.block k h (fun e => hne (by injection e))), World.frozen?_of_block (a := ⟨k, o, none⟩) (hg.block k h (fun e => hne (by injection e)))⟩
theorem grown_alloc {w w1 : World} {row : Option Nat} (h : w.grownBy w1 row) (x : Obj) : w.grownBy (w1.alloc x) row :=
  ⟨h.os, h.tape, h.output, Nat.le_trans h.size (by simp), fun i hi hne => (Below.heap_alloc w1 x i (Nat.lt_of_lt_of_le hi h.size)).trans (h.block i hi hne)⟩
theorem grown_set_new {w w1 : World} {b : Nat} (h : w.grownBy w1 (some b)) {p : Addr} (hp : w.heap.size ≤ p.block) (v : Value) : w.grownBy (w1.setCell p v) (some b) :=
  ⟨h.os, h.tape, h.output, by simpa [World.setCell] using h.size, fun i hi hne => (Below.heap_setCell w1 p v i (by omega)).trans (h.block i hi hne)⟩
theorem Cur.set {w : World} {b : Nat} {o : Option Addr} {n c a : Nat} (h : Cur w b o n c a) {p : Addr} (hp : p.block ≠ b) (v : Value) : Cur (w.setCell p v) b o n c a := by
  have hb : (w.setCell p v).heap[b]? = w.heap[b]? := Below.heap_setCell w p v b (fun e => hp e.symm)
  have hc : ∀ k, (w.setCell p v).cell? ⟨b, k, none⟩ = w.cell? ⟨b, k, none⟩ := fun k => World.cell?_of_block (a := ⟨b, k, none⟩) hb
  have hf : ∀ k, (w.setCell p v).frozen? ⟨b, k, none⟩ = w.frozen? ⟨b, k, none⟩ := fun k => World.frozen?_of_block (a := ⟨b, k, none⟩) hb
  obtain ⟨s, hs⟩ := h.seed
  exact ⟨(hc 0).trans h.code, (hc 1).trans h.here, ⟨s, (hc 2).trans hs⟩, (hf 1).trans h.free1, (hf 2).trans h.free2, by have := h.old; simpa [World.setCell] using this⟩

theorem Cur.made (w : World) (o : Option Addr) (n c : Nat) (t : TypeId) : Cur (w.alloc (.cells #[.slice o n c, .int .i64 0, .int .u64 0] t)) w.heap.size o n c 0 :=
  ⟨by rw [World.cell?_alloc_mark]; rfl, by rw [World.cell?_alloc_mark]; rfl, ⟨0, by rw [World.cell?_alloc_mark]; rfl⟩, by rw [World.frozen?_alloc_mark]; rfl, by rw [World.frozen?_alloc_mark]; rfl, by simp⟩
theorem below_of_grown {w w1 w' : World} {b : Nat} (h : Below w.heap.size w w1) (hg : w1.grownBy w' (some b)) (hb : w.heap.size ≤ b) : Below w.heap.size w w' :=
  h.grown hg h.size (fun k hk => by injection hk; omega)
end Go.Proofs.Ytpdnhaaedibbaaa
