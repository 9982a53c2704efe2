
/-
  For every room the law FnExactNewFs returns true (impl.NewFs answers as its model, in memory of its own) and its argument reads as before.
  Conditions: none beyond the row's own form.
-/
import Derived.Test.YtdjpngdgbijedaaNewB
import Derived.ChangeMaps5
namespace Go.Proofs.Ytdjpngdgbijedaa.fnExactNewFs
open Go.ChangeShapes Go.WideShapes Go.ChangeAt Go.RowKit Go.Joins
set_option linter.unusedVariables false

set_option maxHeartbeats 4000000 in
theorem walk (room : Int) (w : World) : Calls Try.prog 3 #[.int .i64 room] w fun e w' => e = .returned (.bool true) ∧ Below w.heap.size w w' := by
  by_cases h : inB 0 1000 room = true
  · have HI := Lib.hid h
    clear h
    go_enter Try.func3, Try.ntmps3
    go_wp2_with fail
    refine (specNewFs_yes room _ HI.out).mono ?_
    rintro e w1 ⟨G1, rfl, hg1, hr1, hb1⟩
    have hs1 := hb1.size
    have hb1x : Below w1.heap.size w1 (w1.alloc (.cells #[.slice (some ⟨G1, 0, none⟩) 1 1, .int .i64 room] 24)) := (Below.refl _ _).alloc (Nat.le_refl _) _
    have HR1 := Lib.hid (hr1.below hb1x hr1.lt)
    have KW1 := Lib.hid (heap_alloc_new w1 (.cells #[.slice (some ⟨G1, 0, none⟩) 1 1, .int .i64 room] 24))
    have HB1 := Lib.hid (hb1.trans (hb1x.mono hs1))
    clear hr1 hb1 hb1x
    go_wp2_with fail
    refine (newFs_yes room _ HI.out).mono ?_
    rintro e w2 ⟨G2, rfl, hg2, hr2, hb2⟩
    have hb2x : Below w2.heap.size w2 (w2.alloc (.cells #[.slice (some ⟨G2, 0, none⟩) 1 1, .int .i64 room] 24)) := (Below.refl _ _).alloc (Nat.le_refl _) _
    have hs2 := hb2.size
    have hg2l := hr2.lt
    have HR1b := Lib.hid ((HR1.out.below hb2 HR1.out.lt).below hb2x (HR1.out.below hb2 HR1.out.lt).lt)
    have HR2 := Lib.hid (hr2.below hb2x hr2.lt)
    have KW2 := Lib.hid ((hb2x.block w1.heap.size (Nat.lt_of_lt_of_le (lt_of_heap KW1.out) hs2)).trans ((hb2.block w1.heap.size (lt_of_heap KW1.out)).trans KW1.out))
    have KX2 := Lib.hid (heap_alloc_new w2 (.cells #[.slice (some ⟨G2, 0, none⟩) 1 1, .int .i64 room] 24))
    have HB2 := Lib.hid (HB1.out.trans ((hb2.mono HB1.out.size).trans (hb2x.mono (Nat.le_trans HB1.out.size hs2))))
    have hg12 : G1 < (w1.alloc (.cells #[.slice (some ⟨G1, 0, none⟩) 1 1, .int .i64 room] 24)).heap.size := HR1.out.lt
    have hk12 := lt_of_heap KW1.out
    obtain ⟨B, hB⟩ : ∃ B, B = (w1.alloc (.cells #[.slice (some ⟨G1, 0, none⟩) 1 1, .int .i64 room] 24)).heap.size := ⟨_, rfl⟩
    rw [← hB] at hg2 hg12 hk12 hs2
    have hBw := HB1.out.size
    rw [← hB] at hBw
    clear hr2 hb2 hb2x hB
    have a0 := (cell_blk KW2.out 0).trans rfl
    have a1 := (cell_blk KW2.out 1).trans rfl
    go_wp2_with fail
    obtain ⟨W2, hW2⟩ : ∃ W2, w2.alloc (.cells #[.slice (some ⟨G2, 0, none⟩) 1 1, .int .i64 room] 24) = W2 := ⟨_, rfl⟩
    have hsz2 : w2.heap.size < W2.heap.size := by rw [← hW2]; simp
    rw [hW2] at HR1b HR2 KW2 KX2 HB2 ⊢
    clear hW2 a0 a1
    refine (eqFs_same ⟨[newN], room⟩ _ _ _ (new_fs HR2.out) (new_fs HR1b.out)).mono ?_
    rintro e w3 ⟨rfl, hb3⟩
    have HR3a := Lib.hid (HR1b.out.below hb3 HR1b.out.lt)
    have HR3 := Lib.hid (HR2.out.below hb3 HR2.out.lt)
    have KW3 := Lib.hid ((hb3.block w1.heap.size (lt_of_heap KW2.out)).trans KW2.out)
    have KX3 := Lib.hid ((hb3.block w2.heap.size (lt_of_heap KX2.out)).trans KX2.out)
    have HB3 := Lib.hid (HB2.out.trans (hb3.mono HB2.out.size))
    have d0 := (cell_blk KX3.out 0).trans rfl
    have d1 := (cell_blk KX3.out 1).trans rfl
    have hs3 := hb3.size
    clear hb3
    go_wp2_with fail
    refine (markFs_one G2 B room newF _ HR3.out rfl hg2 (by omega)).mono ?_
    rintro e w4 ⟨rfl, hr4, hb4, ho4⟩
    have HR4a := Lib.hid (HR3a.out.below hb4 hg12)
    have HR4 := Lib.hid hr4
    have KW4 := Lib.hid ((hb4.block w1.heap.size hk12).trans KW3.out)
    have HB4 := Lib.hid (HB3.out.trans (hb4.mono hBw))
    have KX4 := Lib.hid ((ho4.2 w2.heap.size (lt_of_heap KX3.out) (by omega)).trans KX3.out)
    have hs4 := ho4.1
    have e0 := (cell_blk KX4.out 0).trans rfl
    have e1 := (cell_blk KX4.out 1).trans rfl
    clear hr4 hb4 ho4
    go_wp2_with fail
    refine (heldFs_one G2 room _ HR4.out).mono ?_
    rintro e w5 ⟨rfl, hb5⟩
    have HR5a := Lib.hid (HR4a.out.below hb5 HR4a.out.lt)
    have HR5 := Lib.hid (HR4.out.below hb5 HR4.out.lt)
    have KW5 := Lib.hid ((hb5.block w1.heap.size (lt_of_heap KW4.out)).trans KW4.out)
    have KX5 := Lib.hid ((hb5.block w2.heap.size (lt_of_heap KX4.out)).trans KX4.out)
    have HB5 := Lib.hid (HB4.out.trans (hb5.mono HB4.out.size))
    have hs5 := hb5.size
    clear hb5
    go_wp2_with fail
    refine (newFs_yes room _ HI.out).mono ?_
    rintro e w6 ⟨G6, rfl, hg6, hr6, hb6⟩
    have hb6x : Below w6.heap.size w6 (w6.alloc (.cells #[.slice (some ⟨G6, 0, none⟩) 1 1, .int .i64 room] 24)) := (Below.refl _ _).alloc (Nat.le_refl _) _
    have hs6 := hb6.size
    have hb66 := hb6.trans (hb6x.mono hs6)
    have HR6a := Lib.hid (HR5a.out.below hb66 HR5a.out.lt)
    have HR6 := Lib.hid (HR5.out.below hb66 HR5.out.lt)
    have HR6h := Lib.hid (hr6.below hb6x hr6.lt)
    have KW6 := Lib.hid ((hb66.block w1.heap.size (lt_of_heap KW5.out)).trans KW5.out)
    have KX6 := Lib.hid ((hb66.block w2.heap.size (lt_of_heap KX5.out)).trans KX5.out)
    have KH6 := Lib.hid (heap_alloc_new w6 (.cells #[.slice (some ⟨G6, 0, none⟩) 1 1, .int .i64 room] 24))
    have HB6 := Lib.hid (HB5.out.trans (hb66.mono HB5.out.size))
    clear hr6 hb6 hb6x hb66
    have f0 := (cell_blk KW6.out 0).trans rfl
    have f1 := (cell_blk KW6.out 1).trans rfl
    go_wp2_with fail
    obtain ⟨W6, hW6⟩ : ∃ W6, w6.alloc (.cells #[.slice (some ⟨G6, 0, none⟩) 1 1, .int .i64 room] 24) = W6 := ⟨_, rfl⟩
    rw [hW6] at HR6a HR6 HR6h KW6 KX6 KH6 HB6 ⊢
    clear hW6 f0 f1
    refine (eqFs_same ⟨[newN], room⟩ _ _ _ (new_fs HR6h.out) (new_fs HR6a.out)).mono ?_
    rintro e w7 ⟨rfl, hb7⟩
    have HR7 := Lib.hid (HR6.out.below hb7 HR6.out.lt)
    have KX7 := Lib.hid ((hb7.block w2.heap.size (lt_of_heap KX6.out)).trans KX6.out)
    have HB7 := Lib.hid (HB6.out.trans (hb7.mono HB6.out.size))
    have m0 := (cell_blk KX7.out 0).trans rfl
    have m1 := (cell_blk KX7.out 1).trans rfl
    clear hb7
    go_wp2_with fail
    refine (heldFs_one G2 room _ HR7.out).mono ?_
    rintro e w8 ⟨rfl, hb8⟩
    have HB8 := Lib.hid (HB7.out.trans (hb8.mono HB7.out.size))
    clear hb8
    go_wp2
    go_ret
    exact ⟨rfl, HB8.out⟩
  · have HI : Hid (inB 0 1000 room = false) := Lib.hid (by simpa using h)
    clear h
    go_enter Try.func3, Try.ntmps3
    go_wp2_with fail
    refine (specNewFs_no room _ HI.out).mono ?_
    rintro e w1 ⟨rfl, hb1⟩
    have hb1x : Below w1.heap.size w1 (w1.alloc (.cells #[.slice none 0 0, .int .i64 0] 24)) := (Below.refl _ _).alloc (Nat.le_refl _) _
    have KW1 := Lib.hid (heap_alloc_new w1 (.cells #[.slice none 0 0, .int .i64 0] 24))
    have HB1 := Lib.hid (hb1.trans (hb1x.mono hb1.size))
    clear hb1 hb1x
    go_wp2_with fail
    refine (newFs_no room _ HI.out).mono ?_
    rintro e w2 ⟨rfl, hb2⟩
    have hb2x : Below w2.heap.size w2 (w2.alloc (.cells #[.slice none 0 0, .int .i64 0] 24)) := (Below.refl _ _).alloc (Nat.le_refl _) _
    have hb22 := hb2.trans (hb2x.mono hb2.size)
    have KW2 := Lib.hid ((hb22.block w1.heap.size (lt_of_heap KW1.out)).trans KW1.out)
    have KX2 := Lib.hid (heap_alloc_new w2 (.cells #[.slice none 0 0, .int .i64 0] 24))
    have HB2 := Lib.hid (HB1.out.trans (hb22.mono HB1.out.size))
    clear hb2 hb2x hb22
    have a0 := (cell_blk KW2.out 0).trans rfl
    have a1 := (cell_blk KW2.out 1).trans rfl
    go_wp2_with fail
    obtain ⟨W2, hW2⟩ : ∃ W2, w2.alloc (.cells #[.slice none 0 0, .int .i64 0] 24) = W2 := ⟨_, rfl⟩
    rw [hW2] at KW2 KX2 HB2 ⊢
    clear hW2 a0 a1
    refine (eqFs_same ⟨[], 0⟩ _ _ _ (nil_fs _) (nil_fs _)).mono ?_
    rintro e w3 ⟨rfl, hb3⟩
    have KW3 := Lib.hid ((hb3.block w1.heap.size (lt_of_heap KW2.out)).trans KW2.out)
    have KX3 := Lib.hid ((hb3.block w2.heap.size (lt_of_heap KX2.out)).trans KX2.out)
    have HB3 := Lib.hid (HB2.out.trans (hb3.mono HB2.out.size))
    have d0 := (cell_blk KX3.out 0).trans rfl
    have d1 := (cell_blk KX3.out 1).trans rfl
    clear hb3
    go_wp2_with fail
    refine (markFs_nil 0 _).mono ?_
    rintro e w4 ⟨rfl, hb4⟩
    have KW4 := Lib.hid ((hb4.block w1.heap.size (lt_of_heap KW3.out)).trans KW3.out)
    have KX4 := Lib.hid ((hb4.block w2.heap.size (lt_of_heap KX3.out)).trans KX3.out)
    have HB4 := Lib.hid (HB3.out.trans (hb4.mono HB3.out.size))
    have e0 := (cell_blk KX4.out 0).trans rfl
    have e1 := (cell_blk KX4.out 1).trans rfl
    clear hb4
    go_wp2_with fail
    refine (heldFs_nil 0 _).mono ?_
    rintro e w5 ⟨rfl, hb5⟩
    have KW5 := Lib.hid ((hb5.block w1.heap.size (lt_of_heap KW4.out)).trans KW4.out)
    have KX5 := Lib.hid ((hb5.block w2.heap.size (lt_of_heap KX4.out)).trans KX4.out)
    have HB5 := Lib.hid (HB4.out.trans (hb5.mono HB4.out.size))
    clear hb5
    go_wp2_with fail
    refine (newFs_no room _ HI.out).mono ?_
    rintro e w6 ⟨rfl, hb6⟩
    have hb6x : Below w6.heap.size w6 (w6.alloc (.cells #[.slice none 0 0, .int .i64 0] 24)) := (Below.refl _ _).alloc (Nat.le_refl _) _
    have hb66 := hb6.trans (hb6x.mono hb6.size)
    have KW6 := Lib.hid ((hb66.block w1.heap.size (lt_of_heap KW5.out)).trans KW5.out)
    have KX6 := Lib.hid ((hb66.block w2.heap.size (lt_of_heap KX5.out)).trans KX5.out)
    have KH6 := Lib.hid (heap_alloc_new w6 (.cells #[.slice none 0 0, .int .i64 0] 24))
    have HB6 := Lib.hid (HB5.out.trans (hb66.mono HB5.out.size))
    clear hb6 hb6x hb66
    have f0 := (cell_blk KW6.out 0).trans rfl
    have f1 := (cell_blk KW6.out 1).trans rfl
    go_wp2_with fail
    obtain ⟨W6, hW6⟩ : ∃ W6, w6.alloc (.cells #[.slice none 0 0, .int .i64 0] 24) = W6 := ⟨_, rfl⟩
    rw [hW6] at KW6 KX6 KH6 HB6 ⊢
    clear hW6 f0 f1
    refine (eqFs_same ⟨[], 0⟩ _ _ _ (nil_fs _) (nil_fs _)).mono ?_
    rintro e w7 ⟨rfl, hb7⟩
    have KX7 := Lib.hid ((hb7.block w2.heap.size (lt_of_heap KX6.out)).trans KX6.out)
    have HB7 := Lib.hid (HB6.out.trans (hb7.mono HB6.out.size))
    have m0 := (cell_blk KX7.out 0).trans rfl
    have m1 := (cell_blk KX7.out 1).trans rfl
    clear hb7
    go_wp2_with fail
    refine (heldFs_nil 0 _).mono ?_
    rintro e w8 ⟨rfl, hb8⟩
    have HB8 := Lib.hid (HB7.out.trans (hb8.mono HB7.out.size))
    clear hb8
    go_wp2
    go_ret
    exact ⟨rfl, HB8.out⟩

theorem own : ownKnob Try.prog.godebug = none := by kernel_rfl
theorem laidOut : laidOutB Try.prog = true := by kernel_rfl

set_option maxRecDepth 100000 in
theorem lifted (os : Os) (started : os.Started) (H : Type) (enc : TypeId × Value → H) :
    ReturnsInHanded {} Try.checked os 3 .any (Rows.fnExactNewFsSpec.pre6 enc Try.prog Try.f3 Rows.fnExactNewFsRow.domain false) (Rows.fnExactNewFsSpec.post enc Try.prog Try.f3 false true false false) := by
  refine returnsInHanded_of_change (C := Try.checked) own started (by kernel_rfl) Try.func3
    (ChangeSpec.witness6 (enc := enc) (C := Try.checked) false ⟨#[], #[.int .i64 0], []⟩ 8 (by kernel_rfl) (by kernel_rfl) (by kernel_rfl) (by kernel_rfl)) ?_
  intro W base args ds gs before hval0 hW hcnd _
  have hval : ∀ (j : Nat) t v, Try.f3.params[j]? = some t → args[j]? = some v → Value.okWide Try.prog W .any base t v := hval0
  have hW' := hW
  obtain ⟨p, q, hA0, hV, rfl, hfz, hnd⟩ := hW
  have hA : DataW.TrodAll enc Try.prog W 0 (fun _ => true) true Try.f3.params.toList args.toList ds p := hA0
  rw [Try.params3] at hA hval
  obtain ⟨v0, vs0, d0, ds0, p0, q0, hargs, rfl, rfl, h0, r0⟩ := trodAll_cons hA
  obtain ⟨rfl, rfl, rfl⟩ := trodAll_nil r0
  obtain rfl : args = #[v0] := by cases args; simp_all
  obtain ⟨rfl, rfl⟩ := trodVars_none hV
  obtain ⟨a0, rfl, rfl, rfl, w0⟩ := open_int Try.underlying3 (hval 0 3 v0 rfl rfl) h0
  refine (walk a0 W).mono fun e W' ⟨he, hb⟩ => ?_
  subst he
  exact ⟨_, rfl, law_post laidOut (by kernel_rfl) (by kernel_rfl) (by kernel_rfl) Try.underlying4 hW' rfl hb⟩

theorem over : Rows.fnExactNewFsRow.holds Try.pinned (OpenSpec.ofChange Rows.fnExactNewFsSpec) :=
  OpenClaim.holds_of_wide 3 Try.f3 rfl rfl rfl rfl rfl rfl rfl ⟨rfl, rfl, rfl, rfl, rfl⟩ rfl rfl rfl rfl rfl (by kernel_rfl) Try.func3 (by kernel_rfl)
    (of_decide_eq_true (by kernel_rfl)) (by unfold Func.isWrapper; first | (rw [if_pos (by decide +kernel)]; kernel_rfl) | (rw [if_neg (by decide +kernel)]; exact ⟨rfl, rfl⟩))
    (fun os started H enc _ => lifted os started H enc)

theorem proved : Rows.FnExactNewFsSaid :=
  over
#print axioms proved
end Go.Proofs.Ytdjpngdgbijedaa.fnExactNewFs
