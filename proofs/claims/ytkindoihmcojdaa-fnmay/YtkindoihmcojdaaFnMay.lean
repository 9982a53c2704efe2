/-
  For every two slices of bytes the law FnMay returns true and its arguments read as before.
  Conditions: none beyond the row's own form.
-/
import Derived.Test.YtkindoihmcojdaaFnMayC
import Derived.Lib.QuietBelow
namespace Go.Proofs.Ytkindoihmcojdaa.fnMay
open Go.ChangeShapes Go.WideShapes Go.ChangeAt Go.RowKit Go.Joins
set_option linter.unusedVariables false

theorem CodeAt.below {w w' : World} {B : Nat} {o : Option Addr} {n : Nat} (h : CodeAt w B o n) (hb : Below B w w') : CodeAt w' B o n := by
  intro i hi
  obtain ⟨ad, v, e, hlt, hc, h0, h1⟩ := h i hi
  exact ⟨ad, v, e, hlt, (hb.cell (p := ad.add i) (by rw [add_block]; exact hlt)).trans hc, h0, h1⟩
theorem CodeAt.more {w : World} {B B' : Nat} {o : Option Addr} {n : Nat} (h : CodeAt w B o n) (hB : B ≤ B') : CodeAt w B' o n := by
  intro i hi
  obtain ⟨ad, v, e, hlt, hc, h0, h1⟩ := h i hi
  exact ⟨ad, v, e, by omega, hc, h0, h1⟩
theorem TwoAt.below {w w' : World} {g B : Nat} {x y : Value} (h : TwoAt w g x y) (hb : Below B w w') (hg : g < B) : TwoAt w' g x y := h.of_block (hb.block g hg) hb.size

/-- Block b holds the three bits. -/
structure Three (w : World) (b : Nat) : Prop where
  c0 : w.cell? ⟨b, 0, none⟩ = some (.int .i64 1)
  c1 : w.cell? ⟨b, 1, none⟩ = some (.int .i64 2)
  c2 : w.cell? ⟨b, 2, none⟩ = some (.int .i64 4)
theorem three_made (w : World) (t : TypeId) : Three (w.alloc (.cells #[.int .i64 1, .int .i64 2, .int .i64 4] t)) w.heap.size :=
  ⟨by rw [World.cell?_alloc_mark]; rfl, by rw [World.cell?_alloc_mark]; rfl, by rw [World.cell?_alloc_mark]; rfl⟩
theorem three_more {w w' : World} {b B : Nat} (h : Three w b) (hb : Below B w w') (hlt : b < B) : Three w' b :=
  ⟨(hb.cell (p := ⟨b, 0, none⟩) hlt).trans h.c0, (hb.cell (p := ⟨b, 1, none⟩) hlt).trans h.c1, (hb.cell (p := ⟨b, 2, none⟩) hlt).trans h.c2⟩

/-- What the loop over the bits has joined. -/
def preM (u g m uid gid want : Int) (j : Nat) : Bool := match j with
  | 0 => true
  | 1 => mayB u g m uid gid (bits BinOp.and IntKind.i64 want 1)
  | 2 => mayB u g m uid gid (bits BinOp.and IntKind.i64 want 1) && mayB u g m uid gid (bits BinOp.and IntKind.i64 want 2)
  | _ => mayB u g m uid gid (bits BinOp.and IntKind.i64 want 1) && mayB u g m uid gid (bits BinOp.and IntKind.i64 want 2) && mayB u g m uid gid (bits BinOp.and IntKind.i64 want 4)
theorem preM_succ0 (u g m uid gid want : Int) : preM u g m uid gid want 1 = (preM u g m uid gid want 0 && mayB u g m uid gid (bits BinOp.and IntKind.i64 want 1)) := by simp [preM]
theorem preM_succ1 (u g m uid gid want : Int) : preM u g m uid gid want 2 = (preM u g m uid gid want 1 && mayB u g m uid gid (bits BinOp.and IntKind.i64 want 2)) := rfl
theorem preM_succ2 (u g m uid gid want : Int) : preM u g m uid gid want 3 = (preM u g m uid gid want 2 && mayB u g m uid gid (bits BinOp.and IntKind.i64 want 4)) := rfl

set_option maxRecDepth 100000 in
set_option maxHeartbeats 4000000 in
theorem walk_no (o o' : Option Addr) (n c n' c' : Nat) (w : World) (hD : CodeAt w w.heap.size o n) (hD' : CodeAt w w.heap.size o' n') (hb : bigB n n' = false) (hn : n ≤ 1048576) (hn' : n' ≤ 1048576) :
    Calls Try.prog 3 #[.slice o n c, .slice o' n' c'] w fun e w' => e = .returned (.bool true) ∧ Below w.heap.size w w' := by
  have HD := Lib.hid hD
  have HD' := Lib.hid hD'
  clear hD hD'
  go_enter Try.func3, Try.ntmps3
  go_wp2_with fail
  refine (big_any _ _ _ _ _ _ _ (by omega) (by omega)).mono ?_
  rintro e w' ⟨rfl, rfl⟩
  go_wp2_with fail
  refine (drawMay_any w o n c HD.out (by omega)).mono ?_
  rintro e w1 ⟨u, g, m, uid, gid, want, rfl, hb1⟩
  have hz1 := hb1.size
  have HB1 := Lib.hid hb1
  clear hb1
  by_cases hask : askB u g m uid gid want = true
  · go_wp2_with fail
    refine (implMay_yes _ _ _ _ _ _ _ hask).mono ?_
    rintro e w2 ⟨rfl, hb2⟩
    have hz2 : w1.heap.size + 1 ≤ w2.heap.size := by have := hb2.size; simpa using this
    have HT2 := Lib.hid (TwoAt.below (TwoAt.made w1 (.int .i64 u) (.int .i64 g) 25) hb2 (by simp))
    have HB2 := Lib.hid (show Below w.heap.size w w2 from (HB1.out.alloc hz1 _).trans (hb2.mono (by simp; omega)))
    clear hb2
    obtain ⟨x0, x1, x2, x3, x4⟩ := HT2.out
    go_wp2_with fail
    refine (specMay_yes _ _ _ _ _ _ _ hask).mono ?_
    rintro e w3 ⟨rfl, hb3⟩
    have hz3 := hb3.size
    have HT3 := Lib.hid (TwoAt.below HT2.out hb3 (by omega))
    have HB3 := Lib.hid (show Below w.heap.size w w3 from HB2.out.trans (hb3.mono (by omega)))
    clear hb3 x0 x1 x2 x3 x4
    go_wp2_with fail
    have z0 := fun d os => cell_regrown (w := w3) HT3.out.fst d os
    have z1 := fun d os => cell_regrown (w := w3) HT3.out.snd d os
    refine wp_region_quiet_below (by kernel_rfl) (by kernel_rfl) ?_
    repeat (first | go_big_quiet_step ((first | (go_at_call 14; exact Calls.regrown_of (goodCred_any _ _ _)) | (go_at_call 15; exact Calls.regrown_of (specGood_any _ _ _)))) | quiet_step ((first | (go_at_call 14; exact Calls.regrown_of (goodCred_any _ _ _)) | (go_at_call 15; exact Calls.regrown_of (specGood_any _ _ _)))))
    refine wpQuiet_nil ?_
    intro w5 hwq
    have hb5 : Below (w3).heap.size (w3) w5 := by
      obtain ⟨pp, rfl⟩ := hwq
      exact below_regrown _ _ _
    clear hwq z0 z1
    have hz5 := hb5.size
    have HT5 := Lib.hid (TwoAt.below HT3.out hb5 (by omega))
    have HB5 := Lib.hid (show Below w.heap.size w w5 from HB3.out.trans (hb5.mono (by omega)))
    clear hb5
    obtain ⟨⟨k1, k2, k4⟩, m0, m1, v0, v1⟩ := ask_bit hask
    have HS := Lib.hid (may_split u g m uid gid want m0 m1 v0 v1)
    obtain ⟨x0, x1, x2, x3, x4⟩ := HT5.out
    go_wp2
    go_loopw [14, 73] (fun v i wr => ∃ j : Nat, j ≤ 3 ∧ i = .int .i64 (j : Int) ∧ v = .bool (preM u g m uid gid want j) ∧ TwoAt wr w1.heap.size (.int .i64 u) (.int .i64 g) ∧ Three wr w5.heap.size ∧ Below w.heap.size w wr ∧ w5.heap.size < wr.heap.size) (fun _ i _ => 3 - (intOf i).toNat)
    case atStart => exact ⟨0, by omega, rfl, rfl, HT5.out.alloc _, three_made _ _, HB5.out.alloc (by omega) _, by simp⟩
    case round =>
      obtain ⟨j, hj, rfl, rfl, hT, hTh, hBw, hsz⟩ := hrel
      have HT := Lib.hid hT
      have HH := Lib.hid hTh
      have HW := Lib.hid hBw
      clear hT hTh hBw x0 x1 x2 x3 x4
      obtain ⟨x0, x1, x2, x3, x4⟩ := HT.out
      obtain ⟨c0, c1, c2⟩ := HH.out
      rcases (show j = 0 ∨ j = 1 ∨ j = 2 ∨ j = 3 by omega) with rfl | rfl | rfl | rfl
      · go_wp2_with fail
        refine (implMay_yes _ _ _ _ _ _ _ k1).mono ?_
        rintro e w6 ⟨rfl, hb6⟩
        have hz6 := hb6.size
        have HT6 := Lib.hid (TwoAt.below HT.out hb6 (by omega))
        have HC6 := Lib.hid (three_more HH.out hb6 (by omega))
        have HB6 := Lib.hid (show Below w.heap.size w w6 from HW.out.trans (hb6.mono (by omega)))
        clear hb6
        cases hp : preM u g m uid gid want 0
        all_goals
          have HP := Lib.hid hp
          go_wp2
          go_roundw
          case rel => exact ⟨1, by omega, rfl, by rw [preM_succ0, HP.out]; rfl, HT6.out, HC6.out, HB6.out, by omega⟩
          case measure => simp [intOf]
      · go_wp2_with fail
        refine (implMay_yes _ _ _ _ _ _ _ k2).mono ?_
        rintro e w6 ⟨rfl, hb6⟩
        have hz6 := hb6.size
        have HT6 := Lib.hid (TwoAt.below HT.out hb6 (by omega))
        have HC6 := Lib.hid (three_more HH.out hb6 (by omega))
        have HB6 := Lib.hid (show Below w.heap.size w w6 from HW.out.trans (hb6.mono (by omega)))
        clear hb6
        cases hp : preM u g m uid gid want 1
        all_goals
          have HP := Lib.hid hp
          go_wp2
          go_roundw
          case rel => exact ⟨2, by omega, rfl, by rw [preM_succ1, HP.out]; rfl, HT6.out, HC6.out, HB6.out, by omega⟩
          case measure => simp [intOf]
      · go_wp2_with fail
        refine (implMay_yes _ _ _ _ _ _ _ k4).mono ?_
        rintro e w6 ⟨rfl, hb6⟩
        have hz6 := hb6.size
        have HT6 := Lib.hid (TwoAt.below HT.out hb6 (by omega))
        have HC6 := Lib.hid (three_more HH.out hb6 (by omega))
        have HB6 := Lib.hid (show Below w.heap.size w w6 from HW.out.trans (hb6.mono (by omega)))
        clear hb6
        cases hp : preM u g m uid gid want 2
        all_goals
          have HP := Lib.hid hp
          go_wp2
          go_roundw
          case rel => exact ⟨3, by omega, rfl, by rw [preM_succ2, HP.out]; rfl, HT6.out, HC6.out, HB6.out, by omega⟩
          case measure => simp [intOf]
      · have hfin : preM u g m uid gid want 3 = mayB u g m uid gid want := HS.out
        by_cases hu : u = 0
        · have hu1 : (u == 0) = true := by simpa using hu
          have hmay := mayB_zero (g := g) (m := m) (uid := uid) (gid := gid) (want := want) hu
          have HU := Lib.hid hu
          clear hu
          go_wp2_with fail
          refine (drawWithMask_any wr o' n' c' (CodeAt.more (CodeAt.below HD'.out HW.out) (HW.out.size)) (by omega)).mono ?_
          rintro e w7 ⟨a, b, rfl, hb7⟩
          have hz7 := hb7.size
          have hzw := HW.out.size
          have HB7 := Lib.hid (show Below w.heap.size w w7 from HW.out.trans (hb7.mono hzw))
          clear hb7
          by_cases hmask : maskB a b = true
          · obtain ⟨q1, q2⟩ := maskB_t hmask
            obtain ⟨q3, q4⟩ := inB_t q1
            have g1 := mask_gone a b
            have g2 := mask_within a b q3 q4
            go_wp2_with fail
            refine (implMask_yes _ _ _ hmask).mono ?_
            rintro e w8 ⟨rfl, rfl⟩
            go_wp2_with fail
            refine (specMask_yes _ _ _ hmask).mono ?_
            rintro e w8 ⟨rfl, rfl⟩
            go_wp2_with fail
            refine (drawGoodCred_any w7 o' n' c' (CodeAt.more (CodeAt.below HD'.out HB7.out) (HB7.out.size)) (by omega)).mono ?_
            rintro e w8 ⟨p, q, rfl, hb8⟩
            have hz8 := hb8.size
            have HB8 := Lib.hid (show Below w.heap.size w w8 from HB7.out.trans (hb8.mono (by omega)))
            clear hb8
            have HY := Lib.hid (TwoAt.made w8 (.int .i64 p) (.int .i64 q) 25)
            go_wp2_with fail
            have z0 := fun d os => cell_regrown (w := w8.alloc (.cells #[.int .i64 p, .int .i64 q] 25)) HY.out.fst d os
            have z1 := fun d os => cell_regrown (w := w8.alloc (.cells #[.int .i64 p, .int .i64 q] 25)) HY.out.snd d os
            refine wp_region_quiet_below (by kernel_rfl) (by kernel_rfl) ?_
            repeat (first | go_big_quiet_step ((first | (go_at_call 14; exact Calls.regrown_of (goodCred_any _ _ _)) | (go_at_call 15; exact Calls.regrown_of (specGood_any _ _ _)))) | quiet_step ((first | (go_at_call 14; exact Calls.regrown_of (goodCred_any _ _ _)) | (go_at_call 15; exact Calls.regrown_of (specGood_any _ _ _)))))
            refine wpQuiet_nil ?_
            intro w9 hwq
            have hb9 : Below (w8.alloc (.cells #[.int .i64 p, .int .i64 q] 25)).heap.size (w8.alloc (.cells #[.int .i64 p, .int .i64 q] 25)) w9 := by
              obtain ⟨pp, rfl⟩ := hwq
              exact below_regrown _ _ _
            clear hwq z0 z1
            go_wp2
            go_ret
            exact ⟨rfl, (HB8.out.alloc (by omega) _).trans (hb9.mono (by simp; omega))⟩
          · have hmask' : maskB a b = false := by simpa using hmask
            clear hmask
            go_wp2_with fail
            refine (implMask_no _ _ _ hmask').mono ?_
            rintro e w8 ⟨rfl, rfl⟩
            go_wp2_with fail
            refine (specMask_no _ _ _ hmask').mono ?_
            rintro e w8 ⟨rfl, rfl⟩
            go_wp2_with fail
            refine (drawGoodCred_any w7 o' n' c' (CodeAt.more (CodeAt.below HD'.out HB7.out) (HB7.out.size)) (by omega)).mono ?_
            rintro e w8 ⟨p, q, rfl, hb8⟩
            have hz8 := hb8.size
            have HB8 := Lib.hid (show Below w.heap.size w w8 from HB7.out.trans (hb8.mono (by omega)))
            clear hb8
            have HY := Lib.hid (TwoAt.made w8 (.int .i64 p) (.int .i64 q) 25)
            go_wp2_with fail
            have z0 := fun d os => cell_regrown (w := w8.alloc (.cells #[.int .i64 p, .int .i64 q] 25)) HY.out.fst d os
            have z1 := fun d os => cell_regrown (w := w8.alloc (.cells #[.int .i64 p, .int .i64 q] 25)) HY.out.snd d os
            refine wp_region_quiet_below (by kernel_rfl) (by kernel_rfl) ?_
            repeat (first | go_big_quiet_step ((first | (go_at_call 14; exact Calls.regrown_of (goodCred_any _ _ _)) | (go_at_call 15; exact Calls.regrown_of (specGood_any _ _ _)))) | quiet_step ((first | (go_at_call 14; exact Calls.regrown_of (goodCred_any _ _ _)) | (go_at_call 15; exact Calls.regrown_of (specGood_any _ _ _)))))
            refine wpQuiet_nil ?_
            intro w9 hwq
            have hb9 : Below (w8.alloc (.cells #[.int .i64 p, .int .i64 q] 25)).heap.size (w8.alloc (.cells #[.int .i64 p, .int .i64 q] 25)) w9 := by
              obtain ⟨pp, rfl⟩ := hwq
              exact below_regrown _ _ _
            clear hwq z0 z1
            go_wp2
            go_ret
            exact ⟨rfl, (HB8.out.alloc (by omega) _).trans (hb9.mono (by simp; omega))⟩
        · have hu1 : (u == 0) = false := by simpa using hu
          clear hu
          go_wp2_with fail
          refine (drawWithMask_any wr o' n' c' (CodeAt.more (CodeAt.below HD'.out HW.out) (HW.out.size)) (by omega)).mono ?_
          rintro e w7 ⟨a, b, rfl, hb7⟩
          have hz7 := hb7.size
          have hzw := HW.out.size
          have HB7 := Lib.hid (show Below w.heap.size w w7 from HW.out.trans (hb7.mono hzw))
          clear hb7
          by_cases hmask : maskB a b = true
          · obtain ⟨q1, q2⟩ := maskB_t hmask
            obtain ⟨q3, q4⟩ := inB_t q1
            have g1 := mask_gone a b
            have g2 := mask_within a b q3 q4
            go_wp2_with fail
            refine (implMask_yes _ _ _ hmask).mono ?_
            rintro e w8 ⟨rfl, rfl⟩
            go_wp2_with fail
            refine (specMask_yes _ _ _ hmask).mono ?_
            rintro e w8 ⟨rfl, rfl⟩
            go_wp2_with fail
            refine (drawGoodCred_any w7 o' n' c' (CodeAt.more (CodeAt.below HD'.out HB7.out) (HB7.out.size)) (by omega)).mono ?_
            rintro e w8 ⟨p, q, rfl, hb8⟩
            have hz8 := hb8.size
            have HB8 := Lib.hid (show Below w.heap.size w w8 from HB7.out.trans (hb8.mono (by omega)))
            clear hb8
            have HY := Lib.hid (TwoAt.made w8 (.int .i64 p) (.int .i64 q) 25)
            go_wp2_with fail
            have z0 := fun d os => cell_regrown (w := w8.alloc (.cells #[.int .i64 p, .int .i64 q] 25)) HY.out.fst d os
            have z1 := fun d os => cell_regrown (w := w8.alloc (.cells #[.int .i64 p, .int .i64 q] 25)) HY.out.snd d os
            refine wp_region_quiet_below (by kernel_rfl) (by kernel_rfl) ?_
            repeat (first | go_big_quiet_step ((first | (go_at_call 14; exact Calls.regrown_of (goodCred_any _ _ _)) | (go_at_call 15; exact Calls.regrown_of (specGood_any _ _ _)))) | quiet_step ((first | (go_at_call 14; exact Calls.regrown_of (goodCred_any _ _ _)) | (go_at_call 15; exact Calls.regrown_of (specGood_any _ _ _)))))
            refine wpQuiet_nil ?_
            intro w9 hwq
            have hb9 : Below (w8.alloc (.cells #[.int .i64 p, .int .i64 q] 25)).heap.size (w8.alloc (.cells #[.int .i64 p, .int .i64 q] 25)) w9 := by
              obtain ⟨pp, rfl⟩ := hwq
              exact below_regrown _ _ _
            clear hwq z0 z1
            go_wp2
            go_ret
            exact ⟨rfl, (HB8.out.alloc (by omega) _).trans (hb9.mono (by simp; omega))⟩
          · have hmask' : maskB a b = false := by simpa using hmask
            clear hmask
            go_wp2_with fail
            refine (implMask_no _ _ _ hmask').mono ?_
            rintro e w8 ⟨rfl, rfl⟩
            go_wp2_with fail
            refine (specMask_no _ _ _ hmask').mono ?_
            rintro e w8 ⟨rfl, rfl⟩
            go_wp2_with fail
            refine (drawGoodCred_any w7 o' n' c' (CodeAt.more (CodeAt.below HD'.out HB7.out) (HB7.out.size)) (by omega)).mono ?_
            rintro e w8 ⟨p, q, rfl, hb8⟩
            have hz8 := hb8.size
            have HB8 := Lib.hid (show Below w.heap.size w w8 from HB7.out.trans (hb8.mono (by omega)))
            clear hb8
            have HY := Lib.hid (TwoAt.made w8 (.int .i64 p) (.int .i64 q) 25)
            go_wp2_with fail
            have z0 := fun d os => cell_regrown (w := w8.alloc (.cells #[.int .i64 p, .int .i64 q] 25)) HY.out.fst d os
            have z1 := fun d os => cell_regrown (w := w8.alloc (.cells #[.int .i64 p, .int .i64 q] 25)) HY.out.snd d os
            refine wp_region_quiet_below (by kernel_rfl) (by kernel_rfl) ?_
            repeat (first | go_big_quiet_step ((first | (go_at_call 14; exact Calls.regrown_of (goodCred_any _ _ _)) | (go_at_call 15; exact Calls.regrown_of (specGood_any _ _ _)))) | quiet_step ((first | (go_at_call 14; exact Calls.regrown_of (goodCred_any _ _ _)) | (go_at_call 15; exact Calls.regrown_of (specGood_any _ _ _)))))
            refine wpQuiet_nil ?_
            intro w9 hwq
            have hb9 : Below (w8.alloc (.cells #[.int .i64 p, .int .i64 q] 25)).heap.size (w8.alloc (.cells #[.int .i64 p, .int .i64 q] 25)) w9 := by
              obtain ⟨pp, rfl⟩ := hwq
              exact below_regrown _ _ _
            clear hwq z0 z1
            go_wp2
            go_ret
            exact ⟨rfl, (HB8.out.alloc (by omega) _).trans (hb9.mono (by simp; omega))⟩
  · have hask' : askB u g m uid gid want = false := by simpa using hask
    clear hask
    go_wp2_with fail
    refine (implMay_no _ _ _ _ _ _ _ hask').mono ?_
    rintro e w2 ⟨rfl, hb2⟩
    have hz2 : w1.heap.size + 1 ≤ w2.heap.size := by have := hb2.size; simpa using this
    have HT2 := Lib.hid (TwoAt.below (TwoAt.made w1 (.int .i64 u) (.int .i64 g) 25) hb2 (by simp))
    have HB2 := Lib.hid (show Below w.heap.size w w2 from (HB1.out.alloc hz1 _).trans (hb2.mono (by simp; omega)))
    clear hb2
    obtain ⟨x0, x1, x2, x3, x4⟩ := HT2.out
    go_wp2_with fail
    refine (specMay_no _ _ _ _ _ _ _ hask').mono ?_
    rintro e w3 ⟨rfl, hb3⟩
    have hz3 := hb3.size
    have HT3 := Lib.hid (TwoAt.below HT2.out hb3 (by omega))
    have HB3 := Lib.hid (show Below w.heap.size w w3 from HB2.out.trans (hb3.mono (by omega)))
    clear hb3 x0 x1 x2 x3 x4
    go_wp2_with fail
    have z0 := fun d os => cell_regrown (w := w3) HT3.out.fst d os
    have z1 := fun d os => cell_regrown (w := w3) HT3.out.snd d os
    refine wp_region_quiet_below (by kernel_rfl) (by kernel_rfl) ?_
    repeat (first | go_big_quiet_step ((first | (go_at_call 14; exact Calls.regrown_of (goodCred_any _ _ _)) | (go_at_call 15; exact Calls.regrown_of (specGood_any _ _ _)))) | quiet_step ((first | (go_at_call 14; exact Calls.regrown_of (goodCred_any _ _ _)) | (go_at_call 15; exact Calls.regrown_of (specGood_any _ _ _)))))
    refine wpQuiet_nil ?_
    intro w5 hwq
    have hb5 : Below (w3).heap.size (w3) w5 := by
      obtain ⟨pp, rfl⟩ := hwq
      exact below_regrown _ _ _
    clear hwq z0 z1
    have hz5 := hb5.size
    have HT5 := Lib.hid (TwoAt.below HT3.out hb5 (by omega))
    have HB5 := Lib.hid (show Below w.heap.size w w5 from HB3.out.trans (hb5.mono (by omega)))
    clear hb5
    go_wp2_with fail
    refine (drawWithMask_any w5 o' n' c' (CodeAt.more (CodeAt.below HD'.out HB5.out) (HB5.out.size)) (by omega)).mono ?_
    rintro e w7 ⟨a, b, rfl, hb7⟩
    have hz7 := hb7.size
    have hzw := HB5.out.size
    have HB7 := Lib.hid (show Below w.heap.size w w7 from HB5.out.trans (hb7.mono hzw))
    clear hb7
    by_cases hmask : maskB a b = true
    · obtain ⟨q1, q2⟩ := maskB_t hmask
      obtain ⟨q3, q4⟩ := inB_t q1
      have g1 := mask_gone a b
      have g2 := mask_within a b q3 q4
      go_wp2_with fail
      refine (implMask_yes _ _ _ hmask).mono ?_
      rintro e w8 ⟨rfl, rfl⟩
      go_wp2_with fail
      refine (specMask_yes _ _ _ hmask).mono ?_
      rintro e w8 ⟨rfl, rfl⟩
      go_wp2_with fail
      refine (drawGoodCred_any w7 o' n' c' (CodeAt.more (CodeAt.below HD'.out HB7.out) (HB7.out.size)) (by omega)).mono ?_
      rintro e w8 ⟨p, q, rfl, hb8⟩
      have hz8 := hb8.size
      have HB8 := Lib.hid (show Below w.heap.size w w8 from HB7.out.trans (hb8.mono (by omega)))
      clear hb8
      have HY := Lib.hid (TwoAt.made w8 (.int .i64 p) (.int .i64 q) 25)
      go_wp2_with fail
      have z0 := fun d os => cell_regrown (w := w8.alloc (.cells #[.int .i64 p, .int .i64 q] 25)) HY.out.fst d os
      have z1 := fun d os => cell_regrown (w := w8.alloc (.cells #[.int .i64 p, .int .i64 q] 25)) HY.out.snd d os
      refine wp_region_quiet_below (by kernel_rfl) (by kernel_rfl) ?_
      repeat (first | go_big_quiet_step ((first | (go_at_call 14; exact Calls.regrown_of (goodCred_any _ _ _)) | (go_at_call 15; exact Calls.regrown_of (specGood_any _ _ _)))) | quiet_step ((first | (go_at_call 14; exact Calls.regrown_of (goodCred_any _ _ _)) | (go_at_call 15; exact Calls.regrown_of (specGood_any _ _ _)))))
      refine wpQuiet_nil ?_
      intro w9 hwq
      have hb9 : Below (w8.alloc (.cells #[.int .i64 p, .int .i64 q] 25)).heap.size (w8.alloc (.cells #[.int .i64 p, .int .i64 q] 25)) w9 := by
        obtain ⟨pp, rfl⟩ := hwq
        exact below_regrown _ _ _
      clear hwq z0 z1
      go_wp2
      go_ret
      exact ⟨rfl, (HB8.out.alloc (by omega) _).trans (hb9.mono (by simp; omega))⟩
    · have hmask' : maskB a b = false := by simpa using hmask
      clear hmask
      go_wp2_with fail
      refine (implMask_no _ _ _ hmask').mono ?_
      rintro e w8 ⟨rfl, rfl⟩
      go_wp2_with fail
      refine (specMask_no _ _ _ hmask').mono ?_
      rintro e w8 ⟨rfl, rfl⟩
      go_wp2_with fail
      refine (drawGoodCred_any w7 o' n' c' (CodeAt.more (CodeAt.below HD'.out HB7.out) (HB7.out.size)) (by omega)).mono ?_
      rintro e w8 ⟨p, q, rfl, hb8⟩
      have hz8 := hb8.size
      have HB8 := Lib.hid (show Below w.heap.size w w8 from HB7.out.trans (hb8.mono (by omega)))
      clear hb8
      have HY := Lib.hid (TwoAt.made w8 (.int .i64 p) (.int .i64 q) 25)
      go_wp2_with fail
      have z0 := fun d os => cell_regrown (w := w8.alloc (.cells #[.int .i64 p, .int .i64 q] 25)) HY.out.fst d os
      have z1 := fun d os => cell_regrown (w := w8.alloc (.cells #[.int .i64 p, .int .i64 q] 25)) HY.out.snd d os
      refine wp_region_quiet_below (by kernel_rfl) (by kernel_rfl) ?_
      repeat (first | go_big_quiet_step ((first | (go_at_call 14; exact Calls.regrown_of (goodCred_any _ _ _)) | (go_at_call 15; exact Calls.regrown_of (specGood_any _ _ _)))) | quiet_step ((first | (go_at_call 14; exact Calls.regrown_of (goodCred_any _ _ _)) | (go_at_call 15; exact Calls.regrown_of (specGood_any _ _ _)))))
      refine wpQuiet_nil ?_
      intro w9 hwq
      have hb9 : Below (w8.alloc (.cells #[.int .i64 p, .int .i64 q] 25)).heap.size (w8.alloc (.cells #[.int .i64 p, .int .i64 q] 25)) w9 := by
        obtain ⟨pp, rfl⟩ := hwq
        exact below_regrown _ _ _
      clear hwq z0 z1
      go_wp2
      go_ret
      exact ⟨rfl, (HB8.out.alloc (by omega) _).trans (hb9.mono (by simp; omega))⟩

set_option maxHeartbeats 400000 in
theorem walk_big (o o' : Option Addr) (n c n' c' : Nat) (w : World) (hb : bigB n n' = true) (hn : n ≤ 9223372036854775807) (hn' : n' ≤ 9223372036854775807) :
    Calls Try.prog 3 #[.slice o n c, .slice o' n' c'] w fun e w' => e = .returned (.bool true) ∧ Below w.heap.size w w' := by
  go_enter Try.func3, Try.ntmps3
  go_wp2_with fail
  refine (big_any _ _ _ _ _ _ _ hn hn').mono ?_
  rintro e w' ⟨rfl, rfl⟩
  go_wp2
  go_ret
  exact ⟨rfl, Below.refl _ _⟩
end Go.Proofs.Ytkindoihmcojdaa.fnMay
