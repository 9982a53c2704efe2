
/-
  Contracts around NewFs: the marks are found again; markFs, heldFs; NewFs of the model and of the program.
  Conditions: as each states.
-/
import Derived.Test.YtdjpngdgbijedaaNewA
namespace Go.Proofs.Ytdjpngdgbijedaa
open Go.ChangeShapes Go.WideShapes Go.ChangeAt Go.RowKit Go.Joins
set_option linter.unusedVariables false
set_option linter.unusedSimpArgs false

set_option maxHeartbeats 4000000 in
theorem heldNodeS_one (G : Nat) (w : World) (hr : RowAt w G 7 47 oneF) : Calls Try.prog 36 #[.slice (some ⟨G, 0, none⟩) 1 1, .int .i64 1] w fun e w' => e = .returned (.int .i64 7) ∧ Below w.heap.size w w' := by
  have b0 : w.cell? ⟨G, 0, none⟩ = some (.int .i64 1) := hr.cell (j := 0) (by omega)
  have b1 : w.cell? ⟨G, 1, none⟩ = some (.int .i64 2) := hr.cell (j := 1) (by omega)
  have b2 : w.cell? ⟨G, 2, none⟩ = some (.int .i64 3) := hr.cell (j := 2) (by omega)
  have b3 : w.cell? ⟨G, 3, none⟩ = some (.int .i64 4) := hr.cell (j := 3) (by omega)
  have b4 : w.cell? ⟨G, 4, none⟩ = some (.int .i64 5) := hr.cell (j := 4) (by omega)
  have b5 : w.cell? ⟨G, 5, none⟩ = some (.string (mt 6)) := hr.cell (j := 5) (by omega)
  have b6 : w.cell? ⟨G, 6, none⟩ = some (.slice none 0 0) := hr.cell (j := 6) (by omega)
  have hG := hr.lt
  clear hr
  go_enter Try.func36, Try.ntmps36
  go_wp2
  go_loopw [1, 5] (fun t i wr => (t = .int .i64 1 ∧ i = .int .i64 0 ∧ wr = w) ∨ (t = .int .i64 7 ∧ i = .int .i64 1 ∧ Below w.heap.size w wr)) (fun _ i _ => 1 - (intOf i).toNat)
  case atStart => exact .inl ⟨rfl, rfl, rfl⟩
  case round =>
    rcases hrel with ⟨rfl, rfl, rfl⟩ | ⟨rfl, rfl, hB2⟩
    · go_wp2
      have z5 := fun d os => cell_regrown (w := wr) b5 d os
      refine wp_region_quiet_below (by kernel_rfl) (by kernel_rfl) ?_
      repeat (first | go_big_quiet_step ((go_at_call 59; exact Calls.regrown_of (markText_any 6 _ (by omega) (by omega)))) | quiet_step ((go_at_call 59; exact Calls.regrown_of (markText_any 6 _ (by omega) (by omega)))))
      refine wpQuiet_nil ?_
      intro w5 hwq
      have hb5 : Below wr.heap.size wr w5 := by
        obtain ⟨pp, rfl⟩ := hwq
        exact below_regrown _ _ _
      have d6 := (hb5.cell (p := ⟨G, 6, none⟩) hG).trans b6
      clear hwq z5
      go_wp2_with fail
      refine (heldEntryS_nil _ _).mono ?_
      rintro e w8 ⟨rfl, rfl⟩
      go_wp2
      go_roundw
      case rel => exact .inr ⟨rfl, rfl, hb5⟩
      case measure => simp [intOf]
    · go_wp2
      go_ret
      exact ⟨rfl, hB2⟩

set_option maxHeartbeats 1000000 in
theorem markFs_one (G B : Nat) (r : Int) (F : Nat → Value) (w : World) (hr : RowAt w G 7 47 F) (h6 : F 6 = .slice none 0 0) (hB : B ≤ G) (hBw : B ≤ w.heap.size) : Calls Try.prog 14 #[.agg #[.slice (some ⟨G, 0, none⟩) 1 1, .int .i64 r], .int .i64 1] w fun e w' => e = .returned (.int .i64 7) ∧ RowAt w' G 7 47 oneF ∧ Below B w w' ∧ OnlyB w w' G := by
  have HR := Lib.hid hr
  have H6 := Lib.hid h6
  have HW : Hid (∀ o, Below B w (w.alloc o)) := Lib.hid (fun o => (Below.refl _ _).alloc hBw o)
  clear hr h6
  go_enter Try.func14, Try.ntmps14
  go_wp2_with fail
  refine (markNodeS_one G B F _ (HR.out.alloc _) H6.out hB (by simp; omega)).mono ?_
  rintro e w1 ⟨rfl, hr1, hb1, ho1⟩
  have HR1 := Lib.hid hr1
  have HB1 := Lib.hid ((HW.out _).trans hb1)
  have HO1 := Lib.hid ((OnlyB.below G ((Below.refl w.heap.size w).alloc (Nat.le_refl _) _)).trans ho1)
  clear hr1 hb1 ho1
  go_wp2
  go_ret
  exact ⟨rfl, HR1.out, HB1.out, HO1.out⟩
set_option maxHeartbeats 1000000 in
theorem heldFs_one (G : Nat) (r : Int) (w : World) (hr : RowAt w G 7 47 oneF) : Calls Try.prog 15 #[.agg #[.slice (some ⟨G, 0, none⟩) 1 1, .int .i64 r], .int .i64 1] w fun e w' => e = .returned (.int .i64 7) ∧ Below w.heap.size w w' := by
  have HR := Lib.hid hr
  have HW : Hid (∀ o, Below w.heap.size w (w.alloc o)) := Lib.hid (fun o => (Below.refl _ _).alloc (Nat.le_refl _) o)
  clear hr
  go_enter Try.func15, Try.ntmps15
  go_wp2_with fail
  refine (heldNodeS_one G _ (HR.out.alloc _)).mono ?_
  rintro e w1 ⟨rfl, hb1⟩
  have HB1 := Lib.hid ((HW.out _).trans (hb1.mono (HW.out _).size))
  clear hb1
  go_wp2
  go_ret
  exact ⟨rfl, HB1.out⟩
set_option maxHeartbeats 1000000 in
theorem markFs_nil (r : Int) (w : World) : Calls Try.prog 14 #[.agg #[.slice none 0 0, .int .i64 r], .int .i64 1] w fun e w' => e = .returned (.int .i64 1) ∧ Below w.heap.size w w' := by
  have HW : Hid (∀ o, Below w.heap.size w (w.alloc o)) := Lib.hid (fun o => (Below.refl _ _).alloc (Nat.le_refl _) o)
  go_enter Try.func14, Try.ntmps14
  go_wp2_with fail
  refine (markNodeS_nil _ _).mono ?_
  rintro e w1 ⟨rfl, rfl⟩
  go_wp2
  go_ret
  exact ⟨rfl, HW.out _⟩
set_option maxHeartbeats 1000000 in
theorem heldFs_nil (r : Int) (w : World) : Calls Try.prog 15 #[.agg #[.slice none 0 0, .int .i64 r], .int .i64 1] w fun e w' => e = .returned (.int .i64 1) ∧ Below w.heap.size w w' := by
  have HW : Hid (∀ o, Below w.heap.size w (w.alloc o)) := Lib.hid (fun o => (Below.refl _ _).alloc (Nat.le_refl _) o)
  go_enter Try.func15, Try.ntmps15
  go_wp2_with fail
  refine (heldNodeS_nil _ _).mono ?_
  rintro e w1 ⟨rfl, rfl⟩
  go_wp2
  go_ret
  exact ⟨rfl, HW.out _⟩

/-- The node of a new file system. -/
def newN : Nod := ⟨2, 493, 0, 0, 0, [], []⟩
def newF (j : Nat) : Value := nodCell newN (.slice none 0 0) j
theorem new_fs {w : World} {G : Nat} {r : Int} (hr : RowAt w G 7 47 newF) : FsA w (.agg #[.slice (some ⟨G, 0, none⟩) 1 1, .int .i64 r]) ⟨[newN], r⟩ := by
  refine ⟨_, rfl, _, _, rfl, by unfold maxLen; simp, fun i hi => ?_⟩
  obtain rfl : i = 0 := by simp at hi; omega
  refine ⟨G, 0, .slice none 0 0, rfl, hr.lt, ⟨hr.cell (j := 0) (by omega), hr.cell (j := 1) (by omega), hr.cell (j := 2) (by omega), hr.cell (j := 3) (by omega), hr.cell (j := 4) (by omega), hr.cell (j := 5) (by omega), hr.cell (j := 6) (by omega)⟩, ⟨none, 0, rfl, Nat.zero_le _, fun i hi => absurd hi (by simp [newN])⟩, by simp [newN]⟩
theorem nil_fs (w : World) : FsA w (.agg #[.slice none 0 0, .int .i64 0]) ⟨[], 0⟩ := ⟨_, rfl, none, 0, rfl, Nat.zero_le _, fun i hi => absurd hi (by simp)⟩
theorem new_row {w : World} {G : Nat} (h : w.heap[G]? = some (.cells #[.int .i64 2, .int .i64 493, .int .i64 0, .int .i64 0, .int .i64 0, .string ⟨#[]⟩, .slice none 0 0] 47 (0, 0))) : RowAt w G 7 47 newF := by
  refine ⟨_, h, by simp, fun j hj => ?_⟩
  rcases (show j = 0 ∨ j = 1 ∨ j = 2 ∨ j = 3 ∨ j = 4 ∨ j = 5 ∨ j = 6 by omega) with rfl | rfl | rfl | rfl | rfl | rfl | rfl <;> rfl

theorem new2 (w : World) (a b : Obj) : ((w.alloc a).alloc b).heap[w.heap.size + 1]? = some b := by
  have h := heap_alloc_new (w.alloc a) b
  rw [World.size_alloc] at h
  exact h
set_option maxHeartbeats 1000000 in
theorem newFs_yes (room : Int) (w : World) (h : inB 0 1000 room = true) : Calls Try.prog 12 #[.int .i64 room] w fun e w' => ∃ G, e = .returned (.tuple #[.agg #[.slice (some ⟨G, 0, none⟩) 1 1, .int .i64 room], .bool true]) ∧ w.heap.size ≤ G ∧ RowAt w' G 7 47 newF ∧ Below w.heap.size w w' := by
  have HI := Lib.hid h
  clear h
  go_enter Try.func12, Try.ntmps12
  go_wp2_with (go_at_call 33; refine (isRoom_any _ _).mono ?_; rintro e w' ⟨rfl, rfl⟩; rw [HI.out])
  exact bodyPost_ret (v := .tuple #[.agg #[.slice (some ⟨w.heap.size + 1, 0, none⟩) 1 1, .int .i64 room], .bool true]) (by simp [results, Try.results12, go_sem]) rfl ⟨_, rfl, by omega, new_row (new2 w _ _), ((Below.refl _ _).alloc (Nat.le_refl _) _).alloc (by simp) _⟩
set_option maxHeartbeats 1000000 in
theorem newFs_no (room : Int) (w : World) (h : inB 0 1000 room = false) : Calls Try.prog 12 #[.int .i64 room] w fun e w' => e = .returned (.tuple #[.agg #[.slice none 0 0, .int .i64 0], .bool false]) ∧ Below w.heap.size w w' := by
  have HI := Lib.hid h
  clear h
  go_enter Try.func12, Try.ntmps12
  go_wp2_with (go_at_call 33; refine (isRoom_any _ _).mono ?_; rintro e w' ⟨rfl, rfl⟩; rw [HI.out])
  exact bodyPost_ret (v := .tuple #[.agg #[.slice none 0 0, .int .i64 0], .bool false]) (by simp [results, Try.results12, go_sem]) rfl ⟨rfl, (Below.refl _ _).alloc (Nat.le_refl _) _⟩
set_option maxHeartbeats 1000000 in
theorem specNewFs_yes (room : Int) (w : World) (h : inB 0 1000 room = true) : Calls Try.prog 11 #[.int .i64 room] w fun e w' => ∃ G, e = .returned (.tuple #[.agg #[.slice (some ⟨G, 0, none⟩) 1 1, .int .i64 room], .bool true]) ∧ w.heap.size ≤ G ∧ RowAt w' G 7 47 newF ∧ Below w.heap.size w w' := by
  have HI := Lib.hid h
  clear h
  go_enter Try.func11, Try.ntmps11
  go_wp2_with (go_at_call 32; refine (l1In_any _ _ _ _).mono ?_; rintro e w' ⟨rfl, rfl⟩; rw [HI.out])
  exact bodyPost_ret (v := .tuple #[.agg #[.slice (some ⟨w.heap.size + 1, 0, none⟩) 1 1, .int .i64 room], .bool true]) (by simp [results, Try.results11, go_sem]) rfl ⟨_, rfl, by omega, new_row (new2 w _ _), ((Below.refl _ _).alloc (Nat.le_refl _) _).alloc (by simp) _⟩
set_option maxHeartbeats 1000000 in
theorem specNewFs_no (room : Int) (w : World) (h : inB 0 1000 room = false) : Calls Try.prog 11 #[.int .i64 room] w fun e w' => e = .returned (.tuple #[.agg #[.slice none 0 0, .int .i64 0], .bool false]) ∧ Below w.heap.size w w' := by
  have HI := Lib.hid h
  clear h
  go_enter Try.func11, Try.ntmps11
  go_wp2_with (go_at_call 32; refine (l1In_any _ _ _ _).mono ?_; rintro e w' ⟨rfl, rfl⟩; rw [HI.out])
  exact bodyPost_ret (v := .tuple #[.agg #[.slice none 0 0, .int .i64 0], .bool false]) (by simp [results, Try.results11, go_sem]) rfl ⟨rfl, (Below.refl _ _).alloc (Nat.le_refl _) _⟩
end Go.Proofs.Ytdjpngdgbijedaa
