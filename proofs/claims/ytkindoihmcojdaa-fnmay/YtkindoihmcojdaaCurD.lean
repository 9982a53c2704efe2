/-
  The contract of the model's cursor's cred: some cred, the cursor moved on, nothing else turned.
  Conditions: a readable slice of at most 2000000 bytes.
-/
import Derived.Test.YtkindoihmcojdaaCurM
namespace Go.Proofs.Ytkindoihmcojdaa
open Go.ChangeShapes Go.WideShapes Go.ChangeAt Go.RowKit Go.Joins
set_option linter.unusedVariables false

def SomeCred (v : Value) : Prop := ∃ u g : Int, v = .agg #[.int .i64 u, .int .i64 g]

/-- Block g holds two cells, free to be written. -/
structure TwoAt (w : World) (g : Nat) (x y : Value) : Prop where
  fst : w.cell? ⟨g, 0, none⟩ = some x
  snd : w.cell? ⟨g, 1, none⟩ = some y
  free0 : w.frozen? ⟨g, 0, none⟩ = false
  free1 : w.frozen? ⟨g, 1, none⟩ = false
  old : g < w.heap.size
theorem TwoAt.of_block {w w' : World} {g : Nat} {x y : Value} (h : TwoAt w g x y) (hb : w'.heap[g]? = w.heap[g]?) (hs : w.heap.size ≤ w'.heap.size) : TwoAt w' g x y :=
  ⟨(World.cell?_of_block (a := ⟨g, 0, none⟩) hb).trans h.fst, (World.cell?_of_block (a := ⟨g, 1, none⟩) hb).trans h.snd, (World.frozen?_of_block (a := ⟨g, 0, none⟩) hb).trans h.free0, (World.frozen?_of_block (a := ⟨g, 1, none⟩) hb).trans h.free1, Nat.lt_of_lt_of_le h.old hs⟩
theorem TwoAt.alloc {w : World} {g : Nat} {x y : Value} (h : TwoAt w g x y) (o : Obj) : TwoAt (w.alloc o) g x y := h.of_block (Below.heap_alloc w o g h.old) (by simp)
theorem TwoAt.step {w w' : World} {g b : Nat} {x y : Value} (h : TwoAt w g x y) (hg : w.grownBy w' (some b)) (hne : g ≠ b) : TwoAt w' g x y := h.of_block (hg.block g h.old (fun e => hne (by injection e))) hg.size
theorem TwoAt.made (w : World) (x y : Value) (t : TypeId) : TwoAt (w.alloc (.cells #[x, y] t)) w.heap.size x y :=
  ⟨by rw [World.cell?_alloc_mark]; rfl, by rw [World.cell?_alloc_mark]; rfl, by rw [World.frozen?_alloc_mark]; rfl, by rw [World.frozen?_alloc_mark]; rfl, by simp⟩

set_option maxRecDepth 100000 in
set_option maxHeartbeats 2000000 in
theorem cred_any (w : World) (b : Nat) (o : Option Addr) (n c a B : Nat) (hC : Cur w b o n c a) (hD : CodeAt w B o n) (hB : B ≤ b) (ha : a ≤ 800000000) (hn : n ≤ 2000000) :
    Calls Try.prog 27 #[.pointer (some ⟨b, 0, none⟩)] w (CurP SomeCred 10 w b o n c a) := by
  have hold := hC.old
  have HC := Lib.hid hC
  have HD := Lib.hid hD
  clear hC hD
  go_enter Try.func27, Try.ntmps27
  go_wp2_with fail
  refine (among_any (-1) 100 _ 4 _ b o n c a B ((HC.out.alloc _).alloc _) ((HD.out.alloc (by omega) _).alloc (by simp; omega) _) hB (by omega) hn (by omega) (by omega) (by simpa using ints_new (w.alloc _) [0, 1, 2, 1] _ (-1) 100 (by decide)) (by simp) (by simp; omega)).mono ?_
  rintro e w1 ⟨_, a1, ⟨u, rfl, _, _⟩, l1, l2, rfl, hC1, hg1⟩
  have hz1 : w.heap.size + 2 ≤ w1.heap.size := by have := hg1.size; simpa using this
  have HR1 := Lib.hid (((TwoAt.made w (.int .i64 0) (.int .i64 0) 25).alloc (.cells #[.int .i64 0, .int .i64 1, .int .i64 2, .int .i64 1] 3)).step hg1 (show w.heap.size ≠ b by omega))
  have HC1 := Lib.hid hC1
  have HD1 := Lib.hid (((HD.out.alloc (by omega) (.cells #[.int .i64 0, .int .i64 0] 25)).alloc (by simp; omega) (.cells #[.int .i64 0, .int .i64 1, .int .i64 2, .int .i64 1] 3)).step hB (by simp; omega) hg1)
  have HG1 := Lib.hid (show w.grownBy w1 (some b) from grown_then (grown_alloc (grown_alloc (grown_self w _) _) _) hg1)
  clear hC1 hg1
  go_wp2_with fail
  refine (among_any (-1) 100 _ 3 _ b o n c a1 B (HC1.out.alloc _) (HD1.out.alloc (by omega) _) hB (by omega) hn (by omega) (by omega) (ints_new w1 [0, 1, 2] _ (-1) 100 (by decide)) (by simp) (by omega)).mono ?_
  rintro e w2 ⟨_, a2, ⟨g, rfl, _, _⟩, l3, l4, rfl, hC2, hg2⟩
  have hz2 : w1.heap.size + 1 ≤ w2.heap.size := by have := hg2.size; simpa using this
  have HR2 := Lib.hid ((HR1.out.alloc _).step hg2 (show w.heap.size ≠ b by omega))
  have HC2 := Lib.hid hC2
  have HD2 := Lib.hid ((HD1.out.alloc (by omega) _).step hB (by simp; omega) hg2)
  have HG2 := Lib.hid (show w.grownBy w2 (some b) from grown_then (grown_alloc HG1.out _) hg2)
  clear hC2 hg2
  go_wp2_with fail
  refine (one_any _ _ b o n c a2 B (HC2.out.alloc _) (HD2.out.alloc (by omega) _) hB (by omega) hn (by omega) (by omega)).mono ?_
  rintro e w3 ⟨_, a3, ⟨z, rfl⟩, l5, l6, rfl, hC3, hg3⟩
  have hz3 : w2.heap.size + 1 ≤ w3.heap.size := by have := hg3.size; simpa using this
  have hX := (TwoAt.made w2 (.int .i64 u) (.int .i64 g) 25).step hg3 (show w2.heap.size ≠ b by omega)
  have HX := Lib.hid hX
  have HR3 := Lib.hid ((HR2.out.alloc _).step hg3 (show w.heap.size ≠ b by omega))
  have HC3 := Lib.hid hC3
  have HD3 := Lib.hid ((HD2.out.alloc (by omega) _).step hB (by simp; omega) hg3)
  have HG3 := Lib.hid (show w.grownBy w3 (some b) from grown_then (grown_alloc HG2.out _) hg3)
  clear hC3 hg3 hX
  cases z
  · obtain ⟨x0, x1, x2, x3, x4⟩ := HX.out
    obtain ⟨r0, r1, r2, r3, r4⟩ := HR3.out
    have hne : w2.heap.size ≠ w.heap.size := by omega
    go_wp2
    refine bodyPost_ret (v := .agg #[.int .i64 u, .int .i64 g]) (by simp [results, Try.results27, go_sem, r0, r1]) rfl ?_
    exact ⟨_, a3, ⟨u, g, rfl⟩, by omega, by omega, rfl, (HC3.out.set (show w.heap.size ≠ b by omega) _).set (show w.heap.size ≠ b by omega) _, grown_set_new (grown_set_new HG3.out (Nat.le_refl _) _) (Nat.le_refl _) _⟩
  · go_wp2_with fail
    refine (among_any (-1) 100 _ 3 _ b o n c a3 B (HC3.out.alloc _) (HD3.out.alloc (by omega) _) hB (by omega) hn (by omega) (by omega) (ints_new w3 [-1, 99, 100] _ (-1) 100 (by decide)) (by simp) (by omega)).mono ?_
    rintro e w4 ⟨_, a4, ⟨q, rfl, _, _⟩, l7, l8, rfl, hC4, hg4⟩
    have hz4 : w3.heap.size + 1 ≤ w4.heap.size := by have := hg4.size; simpa using this
    have HX4 := Lib.hid ((HX.out.alloc _).step hg4 (show w2.heap.size ≠ b by omega))
    have HR4 := Lib.hid ((HR3.out.alloc _).step hg4 (show w.heap.size ≠ b by omega))
    have HC4 := Lib.hid hC4
    have HG4 := Lib.hid (show w.grownBy w4 (some b) from grown_then (grown_alloc HG3.out _) hg4)
    clear hC4 hg4
    obtain ⟨x0, x1, x2, x3, x4⟩ := HX4.out
    obtain ⟨r0, r1, r2, r3, r4⟩ := HR4.out
    have hne : w2.heap.size ≠ w.heap.size := by omega
    have hne2 : w.heap.size ≠ w2.heap.size := by omega
    go_wp2
    refine bodyPost_ret (v := .agg #[.int .i64 q, .int .i64 g]) (by simp [results, Try.results27, go_sem, r0, r1]) rfl ?_
    exact ⟨_, a4, ⟨q, g, rfl⟩, by omega, by omega, rfl, ((HC4.out.set (show w2.heap.size ≠ b by omega) _).set (show w.heap.size ≠ b by omega) _).set (show w.heap.size ≠ b by omega) _, grown_set_new (grown_set_new (grown_set_new HG4.out (show w.heap.size ≤ w2.heap.size by omega) _) (Nat.le_refl _) _) (Nat.le_refl _) _⟩
end Go.Proofs.Ytkindoihmcojdaa
