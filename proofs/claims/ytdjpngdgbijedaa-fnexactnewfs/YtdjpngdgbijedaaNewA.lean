
/-
  Contracts around NewFs: markText's users on a file system of one node without entries, and on one without nodes; NewFs of the model and of the program.
  Conditions: as each states.
-/
import Derived.Test.YtdjpngdgbijedaaInoA
import Derived.Test.YtdjpngdgbijedaaMarkC
namespace Go.Proofs.Ytdjpngdgbijedaa
open Go.ChangeShapes Go.WideShapes Go.ChangeAt Go.RowKit Go.Joins
set_option linter.unusedVariables false
set_option linter.unusedSimpArgs false

set_option maxHeartbeats 400000 in
theorem markEntryS_nil (k : Int) (w : World) : Calls Try.prog 60 #[.slice none 0 0, .int .i64 k] w fun e w' => e = .returned (.int .i64 k) ∧ w = w' := by
  go_enter Try.func60, Try.ntmps60
  go_wp2
  go_rounds 1
  go_ret
  exact ⟨rfl, rfl⟩
set_option maxHeartbeats 400000 in
theorem heldEntryS_nil (k : Int) (w : World) : Calls Try.prog 61 #[.slice none 0 0, .int .i64 k] w fun e w' => e = .returned (.int .i64 k) ∧ w = w' := by
  go_enter Try.func61, Try.ntmps61
  go_wp2
  go_rounds 1
  go_ret
  exact ⟨rfl, rfl⟩
set_option maxHeartbeats 400000 in
theorem markNodeS_nil (k : Int) (w : World) : Calls Try.prog 35 #[.slice none 0 0, .int .i64 k] w fun e w' => e = .returned (.int .i64 k) ∧ w = w' := by
  go_enter Try.func35, Try.ntmps35
  go_wp2
  go_rounds 1
  go_ret
  exact ⟨rfl, rfl⟩
set_option maxHeartbeats 400000 in
theorem heldNodeS_nil (k : Int) (w : World) : Calls Try.prog 36 #[.slice none 0 0, .int .i64 k] w fun e w' => e = .returned (.int .i64 k) ∧ w = w' := by
  go_enter Try.func36, Try.ntmps36
  go_wp2
  go_rounds 1
  go_ret
  exact ⟨rfl, rfl⟩

/-- The cells of one node that bears the marks from 1 on, without entries. -/
def oneF (j : Nat) : Value := nodCell ⟨1, 2, 3, 4, 5, 109 :: digs 6 [], []⟩ (.slice none 0 0) j
theorem mt6 : bs (109 :: digs 6 []) = mt 6 := rfl

/-- No block but G has turned. -/
def OnlyB (w w' : World) (G : Nat) : Prop := w.heap.size ≤ w'.heap.size ∧ ∀ b, b < w.heap.size → b ≠ G → w'.heap[b]? = w.heap[b]?
theorem OnlyB.refl (w : World) (G : Nat) : OnlyB w w G := ⟨Nat.le_refl _, fun _ _ _ => rfl⟩
theorem OnlyB.trans {a b c : World} {G : Nat} (h : OnlyB a b G) (k : OnlyB b c G) : OnlyB a c G := ⟨Nat.le_trans h.1 k.1, fun i hi hn => (k.2 i (Nat.lt_of_lt_of_le hi h.1) hn).trans (h.2 i hi hn)⟩
theorem OnlyB.below {a b : World} (G : Nat) (h : Below a.heap.size a b) : OnlyB a b G := ⟨h.size, fun i hi _ => h.block i hi⟩
theorem OnlyB.set {a b : World} {G : Nat} (h : OnlyB a b G) (j : Nat) (u : Value) : OnlyB a (b.setCell ⟨G, j, none⟩ u) G := ⟨by simpa using h.1, fun i hi hn => (Below.heap_setCell b ⟨G, j, none⟩ u i hn).trans (h.2 i hi hn)⟩

set_option maxHeartbeats 4000000 in
theorem markNodeS_one (G B : Nat) (F : Nat → Value) (w : World) (hr : RowAt w G 7 47 F) (h6 : F 6 = .slice none 0 0) (hB : B ≤ G) (hBw : B ≤ w.heap.size) : Calls Try.prog 35 #[.slice (some ⟨G, 0, none⟩) 1 1, .int .i64 1] w fun e w' => e = .returned (.int .i64 7) ∧ RowAt w' G 7 47 oneF ∧ Below B w w' ∧ OnlyB w w' G := by
  have b0 := hr.cell (j := 0) (by omega)
  have b1 := hr.cell (j := 1) (by omega)
  have b2 := hr.cell (j := 2) (by omega)
  have b3 := hr.cell (j := 3) (by omega)
  have b4 := hr.cell (j := 4) (by omega)
  have bf := hr.frozen
  have HR := Lib.hid hr
  have hG := hr.lt
  have HW : Hid (∀ W, W = ((((w.setCell ⟨G, 0, none⟩ (.int .i64 1)).setCell ⟨G, 1, none⟩ (.int .i64 2)).setCell ⟨G, 2, none⟩ (.int .i64 3)).setCell ⟨G, 3, none⟩ (.int .i64 4)).setCell ⟨G, 4, none⟩ (.int .i64 5) →
      RowAt W G 7 47 (fun i => if i = 4 then .int .i64 5 else if i = 3 then .int .i64 4 else if i = 2 then .int .i64 3 else if i = 1 then .int .i64 2 else if i = 0 then .int .i64 1 else F i) ∧ Below B w W ∧ OnlyB w W G) := Lib.hid (by
    rintro W rfl
    refine ⟨((((hr.set 0 _).set 1 _).set 2 _).set 3 _).set 4 _, ?_, (((((OnlyB.refl w G).set 0 _).set 1 _).set 2 _).set 3 _).set 4 _⟩
    iterate 5 refine Below.setCell ?_ (by simpa using hB) _
    exact Below.refl _ _)
  have HF6 := Lib.hid h6
  clear hr h6
  go_enter Try.func35, Try.ntmps35
  go_wp2
  go_loopw [1, 5] (fun t i wr => (t = .int .i64 1 ∧ i = .int .i64 0 ∧ wr = w) ∨ (t = .int .i64 7 ∧ i = .int .i64 1 ∧ RowAt wr G 7 47 oneF ∧ Below B w wr ∧ OnlyB w wr G)) (fun _ i _ => 1 - (intOf i).toNat)
  case atStart => exact .inl ⟨rfl, rfl, rfl⟩
  case round =>
    rcases hrel with ⟨rfl, rfl, rfl⟩ | ⟨rfl, rfl, hr2, hB2, hO2⟩
    · go_wp2_with fail
      obtain ⟨hr5, hb5, ho5⟩ := HW.out _ rfl
      obtain ⟨W5, hW5⟩ : ∃ W5, ((((wr.setCell ⟨G, 0, none⟩ (.int .i64 1)).setCell ⟨G, 1, none⟩ (.int .i64 2)).setCell ⟨G, 2, none⟩ (.int .i64 3)).setCell ⟨G, 3, none⟩ (.int .i64 4)).setCell ⟨G, 4, none⟩ (.int .i64 5) = W5 := ⟨_, rfl⟩
      rw [hW5] at hr5 hb5 ho5 ⊢
      clear hW5
      refine (markText_any 6 _ (by omega) (by omega)).mono ?_
      rintro e w6 ⟨rfl, hb6⟩
      have hr6 := hr5.below hb6 hr5.lt
      have hB6 := hb5.trans (hb6.mono (Nat.le_trans hBw hb5.size))
      have c5 := hr6.cell (j := 5) (by omega)
      have c6 := hr6.cell (j := 6) (by omega)
      have cf := hr6.frozen
      simp only [show ((6 : Nat) = 4) = False by simp, show ((6 : Nat) = 3) = False by simp, show ((6 : Nat) = 2) = False by simp, show ((6 : Nat) = 1) = False by simp, show ((6 : Nat) = 0) = False by simp, if_false, HF6.out] at c6
      have HR7 : Hid (RowAt (w6.setCell ⟨G, 5, none⟩ (.string (mt 6))) G 7 47 oneF) := Lib.hid ((hr6.set 5 (.string (mt 6))).congr (fun j hj => by
        rcases (show j = 0 ∨ j = 1 ∨ j = 2 ∨ j = 3 ∨ j = 4 ∨ j = 5 ∨ j = 6 by omega) with rfl | rfl | rfl | rfl | rfl | rfl | rfl <;> first | rfl | (simp [HF6.out, oneF, nodCell])))
      have HB7 : Hid (Below B wr (w6.setCell ⟨G, 5, none⟩ (.string (mt 6)))) := Lib.hid (hB6.setCell (p := ⟨G, 5, none⟩) hB _)
      have HO7 : Hid (OnlyB wr (w6.setCell ⟨G, 5, none⟩ (.string (mt 6))) G) := Lib.hid ((ho5.trans (OnlyB.below G hb6)).set 5 _)
      have e6 := HR7.out.cell (j := 6) (by omega)
      have e6' : (w6.setCell ⟨G, 5, none⟩ (.string (mt 6))).cell? ⟨G, 6, none⟩ = some (.slice none 0 0) := e6
      clear hr5 hb5 ho5 hr6 hb6 hB6 e6
      go_wp2_with fail
      refine (markEntryS_nil _ _).mono ?_
      rintro e w8 ⟨rfl, rfl⟩
      go_wp2
      go_roundw
      case rel => exact .inr ⟨rfl, rfl, HR7.out, HB7.out, HO7.out⟩
      case measure => simp [intOf]
    · go_wp2
      go_ret
      exact ⟨rfl, hr2, hB2, hO2⟩
end Go.Proofs.Ytdjpngdgbijedaa
