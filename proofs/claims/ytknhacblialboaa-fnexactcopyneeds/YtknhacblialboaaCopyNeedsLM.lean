import Derived.ChangeMaps5
import Derived.Deep.RegionHeld3
import Derived.Test.YtknhacblialboaaLib1
import Derived.Test.YtknhacblialboaaLib6

/-
  For every file system and node number the law FnExactCopyNeeds returns true (impl.CopyNeeds answers as its model, and writes into no argument) and its arguments read as before.
  Conditions: none beyond the row's own form.
-/
namespace Go.Proofs.Ytknhacblialboaa.fnExactCopyNeeds
open Go.ChangeShapes Go.WideShapes Go.ChangeAt Go.RowKit Go.Joins
set_option linter.unusedVariables false

set_option maxHeartbeats 2000000 in
theorem walk (f : FsD) (v : Value) (node : Int) (w : World) (hR : FsA w v f) : Calls Try.prog 4 #[v, .int .i64 node] w fun e w' => e = .returned (.bool true) ∧ Below w.heap.size w w' := by
  have HR := Lib.hid hR
  obtain ⟨nv, rfl, hN⟩ := hR
  have HFIT := Lib.hid hN.fit
  obtain ⟨o, c, rfl, -, -⟩ := hN
  have hb0 : Below w.heap.size w (w.alloc (.cells #[.slice o f.nodes.length c, .int .i64 f.room] 24)) := (Below.refl _ _).alloc (Nat.le_refl _) _
  have HB0 := Lib.hid hb0
  have HK0 := Lib.hid (heap_alloc_new w (.cells #[.slice o f.nodes.length c, .int .i64 f.room] 24))
  clear hb0
  by_cases hs : ((szF f : Nat) : Int) ≤ 1048576
  · have HQ := Lib.hid (less_yes hs)
    have h4 : 0 ≤ (1048576 : Int) - ((szF f : Nat) : Int) := by omega
    have hsz : szF f ≤ 1048576 := by omega
    go_enter Try.func4, Try.ntmps4
    go_wp2_with fail
    refine (szFs_any f _ _ 1048576 (HR.out.below HB0.out) (by omega) (by omega)).mono ?_
    rintro e w1 ⟨rfl, hb1⟩
    rw [HQ.out]
    have HB1 := Lib.hid (HB0.out.trans (hb1.mono HB0.out.size))
    have HK1 := Lib.hid ((hb1.block w.heap.size (lt_of_heap HK0.out)).trans HK0.out)
    have x1 := (cell_blk HK1.out 0).trans rfl
    have y1 := (cell_blk HK1.out 1).trans rfl
    clear hb1
    go_wp2_with fail
    refine (toFs_any f _ _ (HR.out.below HB1.out) hsz).mono ?_
    rintro e w2 ⟨u2, rfl, hO2, hb2⟩
    have HB2 := Lib.hid (HB1.out.trans (hb2.mono HB1.out.size))
    have HK2 := Lib.hid ((hb2.block w.heap.size (lt_of_heap HK1.out)).trans HK1.out)
    have HA2 := Lib.hid (hO2.read HFIT.out)
    obtain ⟨nv2, rfl, hN2⟩ := hO2
    obtain ⟨G2, c2, ps2, rfl, -⟩ := hN2
    clear hb2
    go_wp2_with fail
    refine (specCopyNeeds_any f node _ _ HA2.out hsz).mono ?_
    rintro e w3 ⟨rfl, hb3⟩
    have HB3 := Lib.hid (HB2.out.trans (hb3.mono HB2.out.size))
    have HK3 := Lib.hid ((hb3.block w.heap.size (lt_of_heap HK2.out)).trans HK2.out)
    have x3 := (cell_blk HK3.out 0).trans rfl
    have y3 := (cell_blk HK3.out 1).trans rfl
    clear hb3
    go_wp2_with fail
    refine (toFs_any f _ _ (HR.out.below HB3.out) hsz).mono ?_
    rintro e w4 ⟨u4, rfl, hO4, hb4⟩
    have HB4 := Lib.hid (HB3.out.trans (hb4.mono HB3.out.size))
    have HK4 := Lib.hid ((hb4.block w.heap.size (lt_of_heap HK3.out)).trans HK3.out)
    have HA4 := Lib.hid (hO4.read HFIT.out)
    obtain ⟨nv4, rfl, hN4⟩ := hO4
    obtain ⟨G4, c4, ps4, rfl, -⟩ := hN4
    have HW4 : Hid (Below w4.heap.size w4 (w4.alloc (.cells #[.slice (some ⟨G4, 0, none⟩) f.nodes.length c4, .int .i64 f.room] 31))) := Lib.hid ((Below.refl _ _).alloc (Nat.le_refl _) _)
    have HX4 := Lib.hid (heap_alloc_new w4 (.cells #[.slice (some ⟨G4, 0, none⟩) f.nodes.length c4, .int .i64 f.room] 31))
    have hs4 := HB4.out.size
    clear hb4
    go_wp2_with fail
    refine (copyNeeds_any f node _ _ (HA4.out.below HW4.out) hsz).mono ?_
    rintro e w5 ⟨rfl, hb5⟩
    have HB5 := Lib.hid (HB4.out.trans ((HW4.out.mono hs4).trans (hb5.mono (Nat.le_trans hs4 HW4.out.size))))
    have HK5 := Lib.hid ((hb5.block w.heap.size (Nat.lt_of_lt_of_le (lt_of_heap HK4.out) HW4.out.size)).trans ((HW4.out.block w.heap.size (lt_of_heap HK4.out)).trans HK4.out))
    have HX5 := Lib.hid ((hb5.block w4.heap.size (lt_of_heap HX4.out)).trans HX4.out)
    have HA5 := Lib.hid ((HA4.out.below HW4.out).below hb5)
    have x5 := (cell_blk HK5.out 0).trans rfl
    have y5 := (cell_blk HK5.out 1).trans rfl
    have p5 := (cell_blk HX5.out 0).trans rfl
    have q5 := (cell_blk HX5.out 1).trans rfl
    have HA5d := Lib.hid (HA5.out.below (Below.refl _ w5).drew)
    have HB5d := Lib.hid HB5.out.drew
    have HK5d : Hid (w5.drew.heap[w.heap.size]? = _) := Lib.hid HK5.out
    have HX5d : Hid (w5.drew.heap[w4.heap.size]? = _) := Lib.hid HX5.out
    clear hb5
    go_wp2
    go_region_held3 (fun w' => w'.cell? ⟨w.heap.size, 0, none⟩ = some (.slice o f.nodes.length c) ∧ w'.cell? ⟨w.heap.size, 1, none⟩ = some (.int .i64 f.room) ∧ w'.cell? ⟨w4.heap.size, 0, none⟩ = some (.slice (some ⟨G4, 0, none⟩) f.nodes.length c4) ∧ w'.cell? ⟨w4.heap.size, 1, none⟩ = some (.int .i64 f.room)) (first | exact ⟨x5, y5, p5, q5⟩ | exact ⟨x6, y6, p6, q6⟩ | exact ⟨x7, y7, p7, q7⟩)
      (first
        | (go_at_call 9; refine (toFs_any f _ _ (HR.out.below HB5d.out) hsz).mono ?_; rintro e w6 ⟨u6, rfl, hO6, hb6⟩; have HA6 := Lib.hid (hO6.read HFIT.out); have HC6 := Lib.hid (HA5d.out.below hb6); have HB6 := Lib.hid (HB5d.out.trans (hb6.mono HB5d.out.size)); have HK6 := Lib.hid ((hb6.block w.heap.size (lt_of_heap HK5d.out)).trans HK5d.out); have HX6 := Lib.hid ((hb6.block w4.heap.size (lt_of_heap HX5d.out)).trans HX5d.out); have x6 := (cell_blk HK6.out 0).trans rfl; have y6 := (cell_blk HK6.out 1).trans rfl; have p6 := (cell_blk HX6.out 0).trans rfl; have q6 := (cell_blk HX6.out 1).trans rfl; clear hO6 hb6)
        | (go_at_call 12; refine (eqFs_same f _ _ _ HC6.out HA6.out).mono ?_; rintro e w7 ⟨rfl, hb7⟩; have HB7 := Lib.hid (HB6.out.trans (hb7.mono HB6.out.size)); have HK7 := Lib.hid ((hb7.block w.heap.size (lt_of_heap HK6.out)).trans HK6.out); have HX7 := Lib.hid ((hb7.block w4.heap.size (lt_of_heap HX6.out)).trans HX6.out); have x7 := (cell_blk HK7.out 0).trans rfl; have y7 := (cell_blk HK7.out 1).trans rfl; have p7 := (cell_blk HX7.out 0).trans rfl; have q7 := (cell_blk HX7.out 1).trans rfl; clear hb7))
    all_goals
      go_wp2
      go_ret
      exact ⟨rfl, HB7.out⟩
  · have HQ := Lib.hid (less_no hs)
    go_enter Try.func4, Try.ntmps4
    go_wp2_with fail
    refine (szFs_any f _ _ 1048576 (HR.out.below HB0.out) (by omega) (by omega)).mono ?_
    rintro e w1 ⟨rfl, hb1⟩
    rw [HQ.out]
    have HB1 := Lib.hid (HB0.out.trans (hb1.mono HB0.out.size))
    clear hb1
    go_wp2
    go_ret
    exact ⟨rfl, HB1.out⟩

theorem own : ownKnob Try.prog.godebug = none := by kernel_rfl
theorem laidOut : laidOutB Try.prog = true := by kernel_rfl

set_option maxRecDepth 100000 in
theorem lifted (os : Os) (started : os.Started) (H : Type) (enc : TypeId × Value → H) :
    ReturnsInHanded {} Try.checked os 4 .any (Rows.fnExactCopyNeedsSpec.pre6 enc Try.prog Try.f4 Rows.fnExactCopyNeedsRow.domain false) (Rows.fnExactCopyNeedsSpec.post enc Try.prog Try.f4 false true false false) := by
  refine returnsInHanded_of_change (C := Try.checked) own started (by kernel_rfl) Try.func4
    (ChangeSpec.witness6 (enc := enc) (C := Try.checked) false ⟨#[], #[.agg #[.slice none 0 0, .int .i64 0], .int .i64 0], []⟩ 8 (by kernel_rfl) (by kernel_rfl) (by kernel_rfl) (by kernel_rfl)) ?_
  intro W base args ds gs before hval0 hW hcnd _
  have hval : ∀ (j : Nat) t v, Try.f4.params[j]? = some t → args[j]? = some v → Value.okWide Try.prog W .any base t v := hval0
  have hW' := hW
  obtain ⟨p, q, hA0, hV, rfl, hfz, hnd⟩ := hW
  have hA : DataW.TrodAll enc Try.prog W 0 (fun _ => true) true Try.f4.params.toList args.toList ds p := hA0
  rw [Try.params4] at hA hval
  obtain ⟨v0, vs0, d0, ds0, p0, q0, hargs, rfl, rfl, h0, r0⟩ := trodAll_cons hA
  obtain ⟨v1, vs1, d1, ds1, p1, q1, rfl, rfl, rfl, h1, r1⟩ := trodAll_cons r0
  obtain ⟨rfl, rfl, rfl⟩ := trodAll_nil r1
  obtain rfl : args = #[v0, v1] := by cases args; simp_all
  obtain ⟨rfl, rfl⟩ := trodVars_none hV
  obtain ⟨f0, hR0, hF0⟩ := open_fsA (hval 0 24 v0 rfl rfl) h0
  obtain ⟨a1, rfl, rfl, rfl, w1⟩ := open_int Try.underlying3 (hval 1 3 v1 rfl rfl) h1
  refine (walk f0 v0 a1 W hR0).mono fun e W' ⟨he, hb⟩ => ?_
  subst he
  exact ⟨_, rfl, law_post laidOut (by kernel_rfl) (by kernel_rfl) (by kernel_rfl) Try.underlying4 hW' rfl hb⟩

theorem over : Rows.fnExactCopyNeedsRow.holds Try.pinned (OpenSpec.ofChange Rows.fnExactCopyNeedsSpec) :=
  OpenClaim.holds_of_wide 4 Try.f4 rfl rfl rfl rfl rfl rfl rfl ⟨rfl, rfl, rfl, rfl, rfl⟩ rfl rfl rfl rfl rfl (by kernel_rfl) Try.func4 (by kernel_rfl)
    (of_decide_eq_true (by kernel_rfl)) (by unfold Func.isWrapper; first | (rw [if_pos (by decide +kernel)]; kernel_rfl) | (rw [if_neg (by decide +kernel)]; exact ⟨rfl, rfl⟩))
    (fun os started H enc _ => lifted os started H enc)

theorem proved : Rows.FnExactCopyNeedsSaid :=
  over
#print axioms proved
end Go.Proofs.Ytknhacblialboaa.fnExactCopyNeeds
