
/-
  For every two file systems the law FnExactSameFs returns true (impl.SameFs answers as its model, and writes into no argument) and its arguments read as before.
  Conditions: none beyond the row's own form.
-/
import Derived.Test.YtdjpngdgbijedaaSamC
import Derived.ChangeMaps5
import Derived.Deep.RegionHeld3
namespace Go.Proofs.Ytdjpngdgbijedaa.fnExactSameFs
open Go.ChangeShapes Go.WideShapes Go.ChangeAt Go.RowKit Go.Joins
set_option linter.unusedVariables false

set_option maxRecDepth 100000 in
set_option maxHeartbeats 4000000 in
theorem walk (f : FsD) (v : Value) (g : FsD) (v2 : Value) (w : World) (hR : FsA w v f) (hR2 : FsA w v2 g) : Calls Try.prog 10 #[v, v2] w fun e w' => e = .returned (.bool true) ∧ Below w.heap.size w w' := by
  have HR := Lib.hid hR
  have HR2 := Lib.hid hR2
  obtain ⟨nv, rfl, hN⟩ := hR
  obtain ⟨nv2, rfl, hN2⟩ := hR2
  have HFIT := Lib.hid hN.fit
  have HFIT2 := Lib.hid hN2.fit
  obtain ⟨o1, c1, rfl, -, -⟩ := hN
  obtain ⟨o2, c2, rfl, -, -⟩ := hN2
  have HB0 : Hid (Below w.heap.size w ((w.alloc (.cells #[.slice o1 f.nodes.length c1, .int .i64 f.room] 32)).alloc (.cells #[.slice o2 g.nodes.length c2, .int .i64 g.room] 32))) := Lib.hid (((Below.refl _ _).alloc (Nat.le_refl _) _).alloc (by simp) _)
  have KA0 := Lib.hid (alloc2_fst w (.cells #[.slice o1 f.nodes.length c1, .int .i64 f.room] 32) (.cells #[.slice o2 g.nodes.length c2, .int .i64 g.room] 32))
  have KB0 := Lib.hid (alloc2_snd w (.cells #[.slice o1 f.nodes.length c1, .int .i64 f.room] 32) (.cells #[.slice o2 g.nodes.length c2, .int .i64 g.room] 32))
  by_cases hs : ((szF f : Nat) : Int) ≤ 1048576
  case neg =>
    have HQ := Lib.hid (less_no hs)
    go_enter Try.func10, Try.ntmps10
    go_wp2_with fail
    refine (szFs_any f _ _ 1048576 (HR.out.below HB0.out) (by omega) (by omega)).mono ?_
    rintro e w1 ⟨rfl, hb1⟩
    rw [HQ.out]
    have HB1 := Lib.hid (HB0.out.trans (hb1.mono HB0.out.size))
    clear hb1
    go_wp2
    go_ret
    exact ⟨rfl, HB1.out⟩
  have HQ := Lib.hid (less_yes hs)
  have h4 : 0 ≤ (1048576 : Int) - ((szF f : Nat) : Int) := by omega
  have hsz : szF f ≤ 1048576 := by omega
  by_cases hs2 : ((szF g : Nat) : Int) ≤ 1048576 - ((szF f : Nat) : Int)
  case neg =>
    have HQ2 := Lib.hid (less_no hs2)
    go_enter Try.func10, Try.ntmps10
    go_wp2_with fail
    refine (szFs_any f _ _ 1048576 (HR.out.below HB0.out) (by omega) (by omega)).mono ?_
    rintro e w1 ⟨rfl, hb1⟩
    rw [HQ.out]
    have HB1 := Lib.hid (HB0.out.trans (hb1.mono HB0.out.size))
    have KA1 := Lib.hid ((hb1.block w.heap.size (lt_of_heap KA0.out)).trans KA0.out)
    have KB1 := Lib.hid ((hb1.block (w.heap.size + 1) (lt_of_heap KB0.out)).trans KB0.out)
    have KA1c0 := (cell_blk KA1.out 0).trans rfl
    have KA1c1 := (cell_blk KA1.out 1).trans rfl
    have KB1c0 := (cell_blk KB1.out 0).trans rfl
    have KB1c1 := (cell_blk KB1.out 1).trans rfl
    clear hb1
    go_wp2_with fail
    refine (szFs_any g _ _ _ (HR2.out.below HB1.out) (by omega) (by omega)).mono ?_
    rintro e w2 ⟨rfl, hb2⟩
    rw [HQ2.out]
    have HB2 := Lib.hid (HB1.out.trans (hb2.mono HB1.out.size))
    clear hb2
    go_wp2
    go_ret
    exact ⟨rfl, HB2.out⟩
  have HQ2 := Lib.hid (less_yes hs2)
  have h5 : 0 ≤ (1048576 : Int) - ((szF f : Nat) : Int) - ((szF g : Nat) : Int) := by omega
  have hsz2 : szF g ≤ 1048576 := by omega
  go_enter Try.func10, Try.ntmps10
  go_wp2_with fail
  refine (szFs_any f _ _ 1048576 (HR.out.below HB0.out) (by omega) (by omega)).mono ?_
  rintro e w1 ⟨rfl, hb1⟩
  rw [HQ.out]
  have HB1 := Lib.hid (HB0.out.trans (hb1.mono HB0.out.size))
  have KA1 := Lib.hid ((hb1.block w.heap.size (lt_of_heap KA0.out)).trans KA0.out)
  have KB1 := Lib.hid ((hb1.block (w.heap.size + 1) (lt_of_heap KB0.out)).trans KB0.out)
  have KA1c0 := (cell_blk KA1.out 0).trans rfl
  have KA1c1 := (cell_blk KA1.out 1).trans rfl
  have KB1c0 := (cell_blk KB1.out 0).trans rfl
  have KB1c1 := (cell_blk KB1.out 1).trans rfl
  clear hb1
  go_wp2_with fail
  refine (szFs_any g _ _ _ (HR2.out.below HB1.out) (by omega) (by omega)).mono ?_
  rintro e w2 ⟨rfl, hb2⟩
  rw [HQ2.out]
  have HB2 := Lib.hid (HB1.out.trans (hb2.mono HB1.out.size))
  have KA2 := Lib.hid ((hb2.block w.heap.size (lt_of_heap KA1.out)).trans KA1.out)
  have KB2 := Lib.hid ((hb2.block (w.heap.size + 1) (lt_of_heap KB1.out)).trans KB1.out)
  have KA2c0 := (cell_blk KA2.out 0).trans rfl
  have KA2c1 := (cell_blk KA2.out 1).trans rfl
  have KB2c0 := (cell_blk KB2.out 0).trans rfl
  have KB2c1 := (cell_blk KB2.out 1).trans rfl
  have HB2d := Lib.hid HB2.out.drew
  have KA2d : Hid (w2.drew.heap[w.heap.size]? = _) := Lib.hid KA2.out
  have KB2d : Hid (w2.drew.heap[w.heap.size + 1]? = _) := Lib.hid KB2.out
  clear hb2
  go_wp2
  go_region_held3 (fun w' => w'.cell? ⟨w.heap.size, 0, none⟩ = some (.slice o1 f.nodes.length c1) ∧ w'.cell? ⟨w.heap.size, 1, none⟩ = some (.int .i64 f.room) ∧ w'.cell? ⟨w.heap.size + 1, 0, none⟩ = some (.slice o2 g.nodes.length c2) ∧ w'.cell? ⟨w.heap.size + 1, 1, none⟩ = some (.int .i64 g.room)) (first | exact ⟨KA2c0, KA2c1, KB2c0, KB2c1⟩ | exact ⟨KAac0, KAac1, KBac0, KBac1⟩ | exact ⟨KAbc0, KAbc1, KBbc0, KBbc1⟩ | exact ⟨KAcc0, KAcc1, KBcc0, KBcc1⟩)
    (first
      | (go_at_call_of 18 (Value.agg #[Value.slice o1 f.nodes.length c1, Value.int IntKind.i64 f.room]); refine (toFs_any f _ _ (HR.out.below HB2d.out) hsz).mono ?_; rintro e wa ⟨ua, rfl, hOa, hba⟩; have HAa := Lib.hid (hOa.read HFIT.out); have HBa := Lib.hid (HB2d.out.trans (hba.mono HB2d.out.size)); have KAa := Lib.hid ((hba.block w.heap.size (lt_of_heap KA2d.out)).trans KA2d.out); have KBa := Lib.hid ((hba.block (w.heap.size + 1) (lt_of_heap KB2d.out)).trans KB2d.out); have KAac0 := (cell_blk KAa.out 0).trans rfl; have KAac1 := (cell_blk KAa.out 1).trans rfl; have KBac0 := (cell_blk KBa.out 0).trans rfl; have KBac1 := (cell_blk KBa.out 1).trans rfl; obtain ⟨nva, rfl, hNa⟩ := hOa; obtain ⟨Ga, ca, psa, rfl, -⟩ := hNa; clear hba)
      | (go_at_call_of 18 (Value.agg #[Value.slice o2 g.nodes.length c2, Value.int IntKind.i64 g.room]); refine (toFs_any g _ _ (HR2.out.below HBa.out) hsz2).mono ?_; rintro e wb ⟨ub, rfl, hOb, hbb⟩; have HAb := Lib.hid (hOb.read HFIT2.out); have HAa2 := Lib.hid (HAa.out.below hbb); have HBb := Lib.hid (HBa.out.trans (hbb.mono HBa.out.size)); have KAb := Lib.hid ((hbb.block w.heap.size (lt_of_heap KAa.out)).trans KAa.out); have KBb := Lib.hid ((hbb.block (w.heap.size + 1) (lt_of_heap KBa.out)).trans KBa.out); have KAbc0 := (cell_blk KAb.out 0).trans rfl; have KAbc1 := (cell_blk KAb.out 1).trans rfl; have KBbc0 := (cell_blk KBb.out 0).trans rfl; have KBbc1 := (cell_blk KBb.out 1).trans rfl; obtain ⟨nvb, rfl, hNb⟩ := hOb; obtain ⟨Gb, cb, psb, rfl, -⟩ := hNb; clear hbb)
      | (go_at_call 30; refine (specSameFs_any f g _ _ _ HAa2.out HAb.out hsz).mono ?_; rintro e wc ⟨rfl, hbc⟩; have HBc := Lib.hid (HBb.out.trans (hbc.mono HBb.out.size)); have KAc := Lib.hid ((hbc.block w.heap.size (lt_of_heap KAb.out)).trans KAb.out); have KBc := Lib.hid ((hbc.block (w.heap.size + 1) (lt_of_heap KBb.out)).trans KBb.out); have KAcc0 := (cell_blk KAc.out 0).trans rfl; have KAcc1 := (cell_blk KAc.out 1).trans rfl; have KBcc0 := (cell_blk KBc.out 0).trans rfl; have KBcc1 := (cell_blk KBc.out 1).trans rfl; clear hbc))
  go_wp2_with fail
  refine (toFs_any f _ _ (HR.out.below HBc.out) hsz).mono ?_
  rintro e w4 ⟨u4, rfl, hO4, hb4⟩
  have HB4 := Lib.hid (HBc.out.trans (hb4.mono HBc.out.size))
  have KA4 := Lib.hid ((hb4.block w.heap.size (lt_of_heap KAc.out)).trans KAc.out)
  have KB4 := Lib.hid ((hb4.block (w.heap.size + 1) (lt_of_heap KBc.out)).trans KBc.out)
  have HA4 := Lib.hid (hO4.read HFIT.out)
  obtain ⟨nv4, rfl, hN4⟩ := hO4
  obtain ⟨G4, c4, ps4, rfl, -⟩ := hN4
  have hb4x : Below w4.heap.size w4 (w4.alloc (.cells #[.slice (some ⟨G4, 0, none⟩) f.nodes.length c4, .int .i64 f.room] 24)) := (Below.refl _ _).alloc (Nat.le_refl _) _
  have hs4 := HB4.out.size
  have HB4x := Lib.hid (HB4.out.trans (hb4x.mono hs4))
  have KA4x := Lib.hid ((hb4x.block w.heap.size (lt_of_heap KA4.out)).trans KA4.out)
  have KB4x := Lib.hid ((hb4x.block (w.heap.size + 1) (lt_of_heap KB4.out)).trans KB4.out)
  have KX4x := Lib.hid (heap_alloc_new w4 (.cells #[.slice (some ⟨G4, 0, none⟩) f.nodes.length c4, .int .i64 f.room] 24))
  have HA4x := Lib.hid (HA4.out.below hb4x)
  have KA4xc0 := (cell_blk KA4x.out 0).trans rfl
  have KA4xc1 := (cell_blk KA4x.out 1).trans rfl
  have KB4xc0 := (cell_blk KB4x.out 0).trans rfl
  have KB4xc1 := (cell_blk KB4x.out 1).trans rfl
  have KX4xc0 := (cell_blk KX4x.out 0).trans rfl
  have KX4xc1 := (cell_blk KX4x.out 1).trans rfl
  clear hb4 hb4x
  go_wp2_with fail
  refine (toFs_any g _ _ (HR2.out.below HB4x.out) hsz2).mono ?_
  rintro e w5 ⟨u5, rfl, hO5, hb5⟩
  have HB5 := Lib.hid (HB4x.out.trans (hb5.mono HB4x.out.size))
  have KA5 := Lib.hid ((hb5.block w.heap.size (lt_of_heap KA4x.out)).trans KA4x.out)
  have KB5 := Lib.hid ((hb5.block (w.heap.size + 1) (lt_of_heap KB4x.out)).trans KB4x.out)
  have KX5 := Lib.hid ((hb5.block w4.heap.size (lt_of_heap KX4x.out)).trans KX4x.out)
  have HA5 := Lib.hid (HA4x.out.below hb5)
  have HC5 := Lib.hid (hO5.read HFIT2.out)
  obtain ⟨nv5, rfl, hN5⟩ := hO5
  obtain ⟨G5, c5, ps5, rfl, -⟩ := hN5
  have hb5x : Below w5.heap.size w5 (w5.alloc (.cells #[.slice (some ⟨G5, 0, none⟩) g.nodes.length c5, .int .i64 g.room] 24)) := (Below.refl _ _).alloc (Nat.le_refl _) _
  have hs5 := HB5.out.size
  have HB5x := Lib.hid (HB5.out.trans (hb5x.mono hs5))
  have KA5x := Lib.hid ((hb5x.block w.heap.size (lt_of_heap KA5.out)).trans KA5.out)
  have KB5x := Lib.hid ((hb5x.block (w.heap.size + 1) (lt_of_heap KB5.out)).trans KB5.out)
  have KX5x := Lib.hid ((hb5x.block w4.heap.size (lt_of_heap KX5.out)).trans KX5.out)
  have KY5x := Lib.hid (heap_alloc_new w5 (.cells #[.slice (some ⟨G5, 0, none⟩) g.nodes.length c5, .int .i64 g.room] 24))
  have HA5x := Lib.hid (HA5.out.below hb5x)
  have HC5x := Lib.hid (HC5.out.below hb5x)
  have KA5xc0 := (cell_blk KA5x.out 0).trans rfl
  have KA5xc1 := (cell_blk KA5x.out 1).trans rfl
  have KB5xc0 := (cell_blk KB5x.out 0).trans rfl
  have KB5xc1 := (cell_blk KB5x.out 1).trans rfl
  have KX5xc0 := (cell_blk KX5x.out 0).trans rfl
  have KX5xc1 := (cell_blk KX5x.out 1).trans rfl
  have KY5xc0 := (cell_blk KY5x.out 0).trans rfl
  have KY5xc1 := (cell_blk KY5x.out 1).trans rfl
  clear hb5 hb5x
  go_wp2_with fail
  refine (sameFs_any f g _ _ _ HA5x.out HC5x.out hsz).mono ?_
  rintro e w6 ⟨rfl, hb6⟩
  have HB6 := Lib.hid (HB5x.out.trans (hb6.mono HB5x.out.size))
  have KA6 := Lib.hid ((hb6.block w.heap.size (lt_of_heap KA5x.out)).trans KA5x.out)
  have KB6 := Lib.hid ((hb6.block (w.heap.size + 1) (lt_of_heap KB5x.out)).trans KB5x.out)
  have KX6 := Lib.hid ((hb6.block w4.heap.size (lt_of_heap KX5x.out)).trans KX5x.out)
  have KY6 := Lib.hid ((hb6.block w5.heap.size (lt_of_heap KY5x.out)).trans KY5x.out)
  have KA6c0 := (cell_blk KA6.out 0).trans rfl
  have KA6c1 := (cell_blk KA6.out 1).trans rfl
  have KB6c0 := (cell_blk KB6.out 0).trans rfl
  have KB6c1 := (cell_blk KB6.out 1).trans rfl
  have KX6c0 := (cell_blk KX6.out 0).trans rfl
  have KX6c1 := (cell_blk KX6.out 1).trans rfl
  have KY6c0 := (cell_blk KY6.out 0).trans rfl
  have KY6c1 := (cell_blk KY6.out 1).trans rfl
  have HA6 := Lib.hid (HA5x.out.below hb6)
  have HC6 := Lib.hid (HC5x.out.below hb6)
  have HA6d := Lib.hid (HA6.out.below (Below.refl _ w6).drew)
  have HC6d := Lib.hid (HC6.out.below (Below.refl _ w6).drew)
  have HB6d := Lib.hid HB6.out.drew
  have KA6d : Hid (w6.drew.heap[w.heap.size]? = _) := Lib.hid KA6.out
  have KB6d : Hid (w6.drew.heap[(w.heap.size + 1)]? = _) := Lib.hid KB6.out
  have KX6d : Hid (w6.drew.heap[w4.heap.size]? = _) := Lib.hid KX6.out
  have KY6d : Hid (w6.drew.heap[w5.heap.size]? = _) := Lib.hid KY6.out
  clear hb6
  go_wp2
  go_region_held3 (fun w' => w'.cell? ⟨w.heap.size, 0, none⟩ = some (.slice o1 f.nodes.length c1) ∧ w'.cell? ⟨w.heap.size, 1, none⟩ = some (.int .i64 f.room) ∧ w'.cell? ⟨w.heap.size + 1, 0, none⟩ = some (.slice o2 g.nodes.length c2) ∧ w'.cell? ⟨w.heap.size + 1, 1, none⟩ = some (.int .i64 g.room) ∧ w'.cell? ⟨w4.heap.size, 0, none⟩ = some (.slice (some ⟨G4, 0, none⟩) f.nodes.length c4) ∧ w'.cell? ⟨w4.heap.size, 1, none⟩ = some (.int .i64 f.room) ∧ w'.cell? ⟨w5.heap.size, 0, none⟩ = some (.slice (some ⟨G5, 0, none⟩) g.nodes.length c5) ∧ w'.cell? ⟨w5.heap.size, 1, none⟩ = some (.int .i64 g.room)) (first | exact ⟨KA6c0, KA6c1, KB6c0, KB6c1, KX6c0, KX6c1, KY6c0, KY6c1⟩ | exact ⟨KA7c0, KA7c1, KB7c0, KB7c1, KX7c0, KX7c1, KY7c0, KY7c1⟩ | exact ⟨KA8c0, KA8c1, KB8c0, KB8c1, KX8c0, KX8c1, KY8c0, KY8c1⟩)
    (first
      | (go_at_call 18; refine (toFs_any f _ _ (HR.out.below HB6d.out) hsz).mono ?_; rintro e w7 ⟨u7, rfl, hO7, hb7⟩; have HD7 := Lib.hid (hO7.read HFIT.out); have HA7 := Lib.hid (HA6d.out.below hb7); have HC7 := Lib.hid (HC6d.out.below hb7); have HB7 := Lib.hid (HB6d.out.trans (hb7.mono HB6d.out.size)); have KA7 := Lib.hid ((hb7.block w.heap.size (lt_of_heap KA6d.out)).trans KA6d.out); have KB7 := Lib.hid ((hb7.block (w.heap.size + 1) (lt_of_heap KB6d.out)).trans KB6d.out); have KX7 := Lib.hid ((hb7.block w4.heap.size (lt_of_heap KX6d.out)).trans KX6d.out); have KY7 := Lib.hid ((hb7.block w5.heap.size (lt_of_heap KY6d.out)).trans KY6d.out); have KA7c0 := (cell_blk KA7.out 0).trans rfl; have KA7c1 := (cell_blk KA7.out 1).trans rfl; have KB7c0 := (cell_blk KB7.out 0).trans rfl; have KB7c1 := (cell_blk KB7.out 1).trans rfl; have KX7c0 := (cell_blk KX7.out 0).trans rfl; have KX7c1 := (cell_blk KX7.out 1).trans rfl; have KY7c0 := (cell_blk KY7.out 0).trans rfl; have KY7c1 := (cell_blk KY7.out 1).trans rfl; clear hO7 hb7)
      | (go_at_call 13; refine (eqFs_same f _ _ _ HA7.out HD7.out).mono ?_; rintro e w8 ⟨rfl, hb8⟩; have HC8 := Lib.hid (HC7.out.below hb8); have HB8 := Lib.hid (HB7.out.trans (hb8.mono HB7.out.size)); have KA8 := Lib.hid ((hb8.block w.heap.size (lt_of_heap KA7.out)).trans KA7.out); have KB8 := Lib.hid ((hb8.block (w.heap.size + 1) (lt_of_heap KB7.out)).trans KB7.out); have KX8 := Lib.hid ((hb8.block w4.heap.size (lt_of_heap KX7.out)).trans KX7.out); have KY8 := Lib.hid ((hb8.block w5.heap.size (lt_of_heap KY7.out)).trans KY7.out); have KA8c0 := (cell_blk KA8.out 0).trans rfl; have KA8c1 := (cell_blk KA8.out 1).trans rfl; have KB8c0 := (cell_blk KB8.out 0).trans rfl; have KB8c1 := (cell_blk KB8.out 1).trans rfl; have KX8c0 := (cell_blk KX8.out 0).trans rfl; have KX8c1 := (cell_blk KX8.out 1).trans rfl; have KY8c0 := (cell_blk KY8.out 0).trans rfl; have KY8c1 := (cell_blk KY8.out 1).trans rfl; clear hb8))
  have HC8d := Lib.hid (HC8.out.below (Below.refl _ w8).drew)
  have HB8d := Lib.hid HB8.out.drew
  have KA8d : Hid (w8.drew.heap[w.heap.size]? = _) := Lib.hid KA8.out
  have KB8d : Hid (w8.drew.heap[(w.heap.size + 1)]? = _) := Lib.hid KB8.out
  have KX8d : Hid (w8.drew.heap[w4.heap.size]? = _) := Lib.hid KX8.out
  have KY8d : Hid (w8.drew.heap[w5.heap.size]? = _) := Lib.hid KY8.out
  go_wp2
  go_region_held3 (fun w' => w'.cell? ⟨w.heap.size, 0, none⟩ = some (.slice o1 f.nodes.length c1) ∧ w'.cell? ⟨w.heap.size, 1, none⟩ = some (.int .i64 f.room) ∧ w'.cell? ⟨w.heap.size + 1, 0, none⟩ = some (.slice o2 g.nodes.length c2) ∧ w'.cell? ⟨w.heap.size + 1, 1, none⟩ = some (.int .i64 g.room) ∧ w'.cell? ⟨w4.heap.size, 0, none⟩ = some (.slice (some ⟨G4, 0, none⟩) f.nodes.length c4) ∧ w'.cell? ⟨w4.heap.size, 1, none⟩ = some (.int .i64 f.room) ∧ w'.cell? ⟨w5.heap.size, 0, none⟩ = some (.slice (some ⟨G5, 0, none⟩) g.nodes.length c5) ∧ w'.cell? ⟨w5.heap.size, 1, none⟩ = some (.int .i64 g.room)) (first | exact ⟨KA8c0, KA8c1, KB8c0, KB8c1, KX8c0, KX8c1, KY8c0, KY8c1⟩ | exact ⟨KA9c0, KA9c1, KB9c0, KB9c1, KX9c0, KX9c1, KY9c0, KY9c1⟩ | exact ⟨KA10c0, KA10c1, KB10c0, KB10c1, KX10c0, KX10c1, KY10c0, KY10c1⟩)
    (first
      | (go_at_call 18; refine (toFs_any g _ _ (HR2.out.below HB8d.out) hsz2).mono ?_; rintro e w9 ⟨u9, rfl, hO9, hb9⟩; have HD9 := Lib.hid (hO9.read HFIT2.out); have HC9 := Lib.hid (HC8d.out.below hb9); have HB9 := Lib.hid (HB8d.out.trans (hb9.mono HB8d.out.size)); have KA9 := Lib.hid ((hb9.block w.heap.size (lt_of_heap KA8d.out)).trans KA8d.out); have KB9 := Lib.hid ((hb9.block (w.heap.size + 1) (lt_of_heap KB8d.out)).trans KB8d.out); have KX9 := Lib.hid ((hb9.block w4.heap.size (lt_of_heap KX8d.out)).trans KX8d.out); have KY9 := Lib.hid ((hb9.block w5.heap.size (lt_of_heap KY8d.out)).trans KY8d.out); have KA9c0 := (cell_blk KA9.out 0).trans rfl; have KA9c1 := (cell_blk KA9.out 1).trans rfl; have KB9c0 := (cell_blk KB9.out 0).trans rfl; have KB9c1 := (cell_blk KB9.out 1).trans rfl; have KX9c0 := (cell_blk KX9.out 0).trans rfl; have KX9c1 := (cell_blk KX9.out 1).trans rfl; have KY9c0 := (cell_blk KY9.out 0).trans rfl; have KY9c1 := (cell_blk KY9.out 1).trans rfl; clear hO9 hb9)
      | (go_at_call 13; refine (eqFs_same g _ _ _ HC9.out HD9.out).mono ?_; rintro e w10 ⟨rfl, hb10⟩; have HB10 := Lib.hid (HB9.out.trans (hb10.mono HB9.out.size)); have KA10 := Lib.hid ((hb10.block w.heap.size (lt_of_heap KA9.out)).trans KA9.out); have KB10 := Lib.hid ((hb10.block (w.heap.size + 1) (lt_of_heap KB9.out)).trans KB9.out); have KX10 := Lib.hid ((hb10.block w4.heap.size (lt_of_heap KX9.out)).trans KX9.out); have KY10 := Lib.hid ((hb10.block w5.heap.size (lt_of_heap KY9.out)).trans KY9.out); have KA10c0 := (cell_blk KA10.out 0).trans rfl; have KA10c1 := (cell_blk KA10.out 1).trans rfl; have KB10c0 := (cell_blk KB10.out 0).trans rfl; have KB10c1 := (cell_blk KB10.out 1).trans rfl; have KX10c0 := (cell_blk KX10.out 0).trans rfl; have KX10c1 := (cell_blk KX10.out 1).trans rfl; have KY10c0 := (cell_blk KY10.out 0).trans rfl; have KY10c1 := (cell_blk KY10.out 1).trans rfl; clear hb10))
  go_wp2
  go_ret
  exact ⟨rfl, HB10.out⟩

theorem own : ownKnob Try.prog.godebug = none := by kernel_rfl
theorem laidOut : laidOutB Try.prog = true := by kernel_rfl

set_option maxRecDepth 100000 in
theorem lifted (os : Os) (started : os.Started) (H : Type) (enc : TypeId × Value → H) :
    ReturnsInHanded {} Try.checked os 10 .any (Rows.fnExactSameFsSpec.pre6 enc Try.prog Try.f10 Rows.fnExactSameFsRow.domain false) (Rows.fnExactSameFsSpec.post enc Try.prog Try.f10 false true false false) := by
  refine returnsInHanded_of_change (C := Try.checked) own started (by kernel_rfl) Try.func10
    (ChangeSpec.witness6 (enc := enc) (C := Try.checked) false ⟨#[], #[.agg #[.slice none 0 0, .int .i64 0], .agg #[.slice none 0 0, .int .i64 0]], []⟩ 8 (by kernel_rfl) (by kernel_rfl) (by kernel_rfl) (by kernel_rfl)) ?_
  intro W base args ds gs before hval0 hW hcnd _
  have hval : ∀ (j : Nat) t v, Try.f10.params[j]? = some t → args[j]? = some v → Value.okWide Try.prog W .any base t v := hval0
  have hW' := hW
  obtain ⟨p, q, hA0, hV, rfl, hfz, hnd⟩ := hW
  have hA : DataW.TrodAll enc Try.prog W 0 (fun _ => true) true Try.f10.params.toList args.toList ds p := hA0
  rw [Try.params10] at hA hval
  obtain ⟨v0, vs0, d0, ds0, p0, q0, hargs, rfl, rfl, h0, r0⟩ := trodAll_cons hA
  obtain ⟨v1, vs1, d1, ds1, p1, q1, rfl, rfl, rfl, h1, r1⟩ := trodAll_cons r0
  obtain ⟨rfl, rfl, rfl⟩ := trodAll_nil r1
  obtain rfl : args = #[v0, v1] := by cases args; simp_all
  obtain ⟨rfl, rfl⟩ := trodVars_none hV
  obtain ⟨f0, hR0, hF0⟩ := open_fsA (hval 0 32 v0 rfl rfl) h0
  obtain ⟨f1, hR1, hF1⟩ := open_fsA (hval 1 32 v1 rfl rfl) h1
  refine (walk f0 v0 f1 v1 W hR0 hR1).mono fun e W' ⟨he, hb⟩ => ?_
  subst he
  exact ⟨_, rfl, law_post laidOut (by kernel_rfl) (by kernel_rfl) (by kernel_rfl) Try.underlying4 hW' rfl hb⟩

theorem over : Rows.fnExactSameFsRow.holds Try.pinned (OpenSpec.ofChange Rows.fnExactSameFsSpec) :=
  OpenClaim.holds_of_wide 10 Try.f10 rfl rfl rfl rfl rfl rfl rfl ⟨rfl, rfl, rfl, rfl, rfl⟩ rfl rfl rfl rfl rfl (by kernel_rfl) Try.func10 (by kernel_rfl)
    (of_decide_eq_true (by kernel_rfl)) (by unfold Func.isWrapper; first | (rw [if_pos (by decide +kernel)]; kernel_rfl) | (rw [if_neg (by decide +kernel)]; exact ⟨rfl, rfl⟩))
    (fun os started H enc _ => lifted os started H enc)

theorem proved : Rows.FnExactSameFsSaid :=
  over
#print axioms proved
end Go.Proofs.Ytdjpngdgbijedaa.fnExactSameFs
