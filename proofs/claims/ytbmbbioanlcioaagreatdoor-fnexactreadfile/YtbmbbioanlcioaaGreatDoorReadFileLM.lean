import Derived.ChangeMaps5
import Derived.Deep.RegionHeld3
import Derived.Test.YtbmbbioanlcioaaGreatDoorLib2
import Derived.Test.YtbmbbioanlcioaaGreatDoorLib10
import Derived.Test.YtbmbbioanlcioaaGreatDoorLib14

/-
  For every file system, cred and path the law FnExactReadFile returns true (impl.ReadFile answers as its model, and writes into no argument) and its arguments read as before.
  Conditions: none beyond the row's own form.
-/
namespace Go.Proofs.YtbmbbioanlcioaaGreatDoor.fnExactReadFile
open Go.ChangeShapes Go.WideShapes Go.ChangeAt Go.RowKit Go.Joins
set_option linter.unusedVariables false

set_option maxRecDepth 100000 in
set_option maxHeartbeats 4000000 in
theorem walk (f : FsD) (v : Value) (u g : Int) (s : ByteArray) (hsm : s.size ≤ maxLen) (w : World) (hR : FsA w v f) (hE : ErrT w) : Calls Tryz.prog 3 #[v, .agg #[.int .i64 u, .int .i64 g], .string s] w fun e w' => e = .returned (.bool true) ∧ Below w.heap.size w w' := by
  have HR := Lib.hid hR
  have HET := Lib.hid hE
  clear hE
  obtain ⟨nv, rfl, hN⟩ := hR
  have HFIT := Lib.hid hN.fit
  obtain ⟨o, c, rfl, -, -⟩ := hN
  have HB0 : Hid (Below w.heap.size w ((w.alloc (.cells #[.slice o f.nodes.length c, .int .i64 f.room] 24)).alloc (.cells #[.int .i64 u, .int .i64 g] 26))) := Lib.hid (((Below.refl _ _).alloc (Nat.le_refl _) _).alloc (by simp) _)
  have KA0 := Lib.hid (alloc3_fst' w (.cells #[.slice o f.nodes.length c, .int .i64 f.room] 24) (.cells #[.int .i64 u, .int .i64 g] 26))
  have KB0 := Lib.hid (alloc3_snd' w (.cells #[.slice o f.nodes.length c, .int .i64 f.room] 24) (.cells #[.int .i64 u, .int .i64 g] 26))
  unfold maxLen at hsm
  by_cases hp : s.size ≤ 1048576
  case neg =>
    have hp2 : (1048576 : Int) < (s.size : Int) := by omega
    go_enter Tryz.func3, Tryz.ntmps3
    go_wp2
    go_ret
    exact ⟨rfl, HB0.out⟩
  have hp2 : ¬ ((1048576 : Int) < (s.size : Int)) := by omega
  by_cases hs : ((szF f : Nat) : Int) ≤ 1048576
  case neg =>
    have HQ := Lib.hid (less_no hs)
    go_enter Tryz.func3, Tryz.ntmps3
    go_wp2_with fail
    refine (szFs_any f _ _ 1048576 (HR.out.below HB0.out) (by omega) (by omega)).mono ?_
    rintro e w1 ⟨rfl, hb1⟩
    rw [HQ.out]
    have HB1 := Lib.hid (HB0.out.trans (hb1.mono HB0.out.size))
    clear hb1
    go_wp2
    go_ret
    exact ⟨rfl, HB1.out⟩
  have HQ := Lib.hid (less_yes hs)
  have h4 : 0 ≤ (1048576 : Int) - ((szF f : Nat) : Int) := by omega
  have hsz : szF f ≤ 1048576 := by omega
  go_enter Tryz.func3, Tryz.ntmps3
  go_wp2_with fail
  refine (szFs_any f _ _ 1048576 (HR.out.below HB0.out) (by omega) (by omega)).mono ?_
  rintro e w1 ⟨rfl, hb1⟩
  rw [HQ.out]
  have HB1 := Lib.hid (HB0.out.trans (hb1.mono HB0.out.size))
  have KA1 := Lib.hid ((hb1.block w.heap.size (lt_of_heap KA0.out)).trans KA0.out)
  have KB1 := Lib.hid ((hb1.block (w.heap.size + 1) (lt_of_heap KB0.out)).trans KB0.out)
  have KA1c0 : w1.cell? ⟨w.heap.size, 0, none⟩ = some (.slice o f.nodes.length c) := cell_blk KA1.out 0
  have KA1c1 : w1.cell? ⟨w.heap.size, 1, none⟩ = some (.int .i64 f.room) := cell_blk KA1.out 1
  have KB1c0 : w1.cell? ⟨w.heap.size + 1, 0, none⟩ = some (.int .i64 u) := cell_blk KB1.out 0
  have KB1c1 : w1.cell? ⟨w.heap.size + 1, 1, none⟩ = some (.int .i64 g) := cell_blk KB1.out 1
  have HB1d := Lib.hid HB1.out.drew
  have KA1d : Hid (w1.drew.heap[w.heap.size]? = _) := Lib.hid KA1.out
  have KB1d : Hid (w1.drew.heap[(w.heap.size + 1)]? = _) := Lib.hid KB1.out
  clear hb1
  go_wp2
  go_region_held3 (fun w' => w'.cell? ⟨w.heap.size, 0, none⟩ = some (.slice o f.nodes.length c) ∧ w'.cell? ⟨w.heap.size, 1, none⟩ = some (.int .i64 f.room) ∧ w'.cell? ⟨w.heap.size + 1, 0, none⟩ = some (.int .i64 u) ∧ w'.cell? ⟨w.heap.size + 1, 1, none⟩ = some (.int .i64 g)) (first | exact ⟨KA1c0, KA1c1, KB1c0, KB1c1⟩ | exact ⟨KAac0, KAac1, KBac0, KBac1⟩ | exact ⟨KAbc0, KAbc1, KBbc0, KBbc1⟩ | exact ⟨KAcc0, KAcc1, KBcc0, KBcc1⟩)
    (first
      | (go_at_call 11; refine (toFs_any f _ _ (HR.out.below HB1d.out) hsz).mono ?_; rintro e wa ⟨ua, rfl, hOa, hba⟩; have HAa := Lib.hid (hOa.read HFIT.out); have HBa := Lib.hid (HB1d.out.trans (hba.mono HB1d.out.size)); have KAa := Lib.hid ((hba.block w.heap.size (lt_of_heap KA1d.out)).trans KA1d.out); have KBa := Lib.hid ((hba.block (w.heap.size + 1) (lt_of_heap KB1d.out)).trans KB1d.out); have KAac0 : wa.cell? ⟨w.heap.size, 0, none⟩ = some (.slice o f.nodes.length c) := cell_blk KAa.out 0; have KAac1 : wa.cell? ⟨w.heap.size, 1, none⟩ = some (.int .i64 f.room) := cell_blk KAa.out 1; have KBac0 : wa.cell? ⟨w.heap.size + 1, 0, none⟩ = some (.int .i64 u) := cell_blk KBa.out 0; have KBac1 : wa.cell? ⟨w.heap.size + 1, 1, none⟩ = some (.int .i64 g) := cell_blk KBa.out 1; obtain ⟨nva, rfl, hNa⟩ := hOa; obtain ⟨Ga, ca, psa, rfl, -⟩ := hNa; clear hba)
      | (go_at_call 12; refine (toCred_any u g _).mono ?_; rintro e wb ⟨rfl, hbb⟩; have HAb := Lib.hid (HAa.out.below hbb); have HBb := Lib.hid (HBa.out.trans (hbb.mono HBa.out.size)); have KAb := Lib.hid ((hbb.block w.heap.size (lt_of_heap KAa.out)).trans KAa.out); have KBb := Lib.hid ((hbb.block (w.heap.size + 1) (lt_of_heap KBa.out)).trans KBa.out); have KAbc0 : wb.cell? ⟨w.heap.size, 0, none⟩ = some (.slice o f.nodes.length c) := cell_blk KAb.out 0; have KAbc1 : wb.cell? ⟨w.heap.size, 1, none⟩ = some (.int .i64 f.room) := cell_blk KAb.out 1; have KBbc0 : wb.cell? ⟨w.heap.size + 1, 0, none⟩ = some (.int .i64 u) := cell_blk KBb.out 0; have KBbc1 : wb.cell? ⟨w.heap.size + 1, 1, none⟩ = some (.int .i64 g) := cell_blk KBb.out 1; clear hbb)
      | (go_at_call 10; refine (specReadFile_any f _ u g s _ HAb.out hsz hp).mono ?_; rintro e wc ⟨rfl, hbc⟩; have HBc := Lib.hid (HBb.out.trans (hbc.mono HBb.out.size)); have KAc := Lib.hid ((hbc.block w.heap.size (lt_of_heap KAb.out)).trans KAb.out); have KBc := Lib.hid ((hbc.block (w.heap.size + 1) (lt_of_heap KBb.out)).trans KBb.out); have KAcc0 : wc.cell? ⟨w.heap.size, 0, none⟩ = some (.slice o f.nodes.length c) := cell_blk KAc.out 0; have KAcc1 : wc.cell? ⟨w.heap.size, 1, none⟩ = some (.int .i64 f.room) := cell_blk KAc.out 1; have KBcc0 : wc.cell? ⟨w.heap.size + 1, 0, none⟩ = some (.int .i64 u) := cell_blk KBc.out 0; have KBcc1 : wc.cell? ⟨w.heap.size + 1, 1, none⟩ = some (.int .i64 g) := cell_blk KBc.out 1; clear hbc))
  go_wp2_with fail
  refine (toFs_any f _ _ (HR.out.below HBc.out) hsz).mono ?_
  rintro e w4 ⟨u4, rfl, hO4, hb4⟩
  have HB4 := Lib.hid (HBc.out.trans (hb4.mono HBc.out.size))
  have KA4 := Lib.hid ((hb4.block w.heap.size (lt_of_heap KAc.out)).trans KAc.out)
  have KB4 := Lib.hid ((hb4.block (w.heap.size + 1) (lt_of_heap KBc.out)).trans KBc.out)
  have KA4c0 : w4.cell? ⟨w.heap.size, 0, none⟩ = some (.slice o f.nodes.length c) := cell_blk KA4.out 0
  have KA4c1 : w4.cell? ⟨w.heap.size, 1, none⟩ = some (.int .i64 f.room) := cell_blk KA4.out 1
  have KB4c0 : w4.cell? ⟨w.heap.size + 1, 0, none⟩ = some (.int .i64 u) := cell_blk KB4.out 0
  have KB4c1 : w4.cell? ⟨w.heap.size + 1, 1, none⟩ = some (.int .i64 g) := cell_blk KB4.out 1
  have HA4 := Lib.hid (hO4.read HFIT.out)
  obtain ⟨nv4, rfl, hN4⟩ := hO4
  obtain ⟨G4, c4, ps4, rfl, -⟩ := hN4
  have hbx : Below w4.heap.size w4 (w4.alloc (.cells #[.slice (some ⟨G4, 0, none⟩) f.nodes.length c4, .int .i64 f.room] 32)) := (Below.refl _ _).alloc (Nat.le_refl _) _
  have hs4 := HB4.out.size
  have KX0 := Lib.hid (heap_alloc_new w4 (.cells #[.slice (some ⟨G4, 0, none⟩) f.nodes.length c4, .int .i64 f.room] 32))
  have HBx := Lib.hid (HB4.out.trans (hbx.mono hs4))
  have KAx := Lib.hid ((hbx.block w.heap.size (lt_of_heap KA4.out)).trans KA4.out)
  have KBx := Lib.hid ((hbx.block (w.heap.size + 1) (lt_of_heap KB4.out)).trans KB4.out)
  have HAx := Lib.hid (HA4.out.below hbx)
  obtain ⟨wx, hwx⟩ : ∃ wx, w4.alloc (.cells #[.slice (some ⟨G4, 0, none⟩) f.nodes.length c4, .int .i64 f.room] 32) = wx := ⟨_, rfl⟩
  have HWX := Lib.hid hwx
  rw [hwx] at KX0 HBx KAx KBx HAx
  have KXx := KX0
  have KAxc0 : wx.cell? ⟨w.heap.size, 0, none⟩ = some (.slice o f.nodes.length c) := cell_blk KAx.out 0
  have KAxc1 : wx.cell? ⟨w.heap.size, 1, none⟩ = some (.int .i64 f.room) := cell_blk KAx.out 1
  have KBxc0 : wx.cell? ⟨w.heap.size + 1, 0, none⟩ = some (.int .i64 u) := cell_blk KBx.out 0
  have KBxc1 : wx.cell? ⟨w.heap.size + 1, 1, none⟩ = some (.int .i64 g) := cell_blk KBx.out 1
  have KXxc0 : wx.cell? ⟨w4.heap.size, 0, none⟩ = some (.slice (some ⟨G4, 0, none⟩) f.nodes.length c4) := cell_blk KXx.out 0
  have KXxc1 : wx.cell? ⟨w4.heap.size, 1, none⟩ = some (.int .i64 f.room) := cell_blk KXx.out 1
  have HBxd := Lib.hid HBx.out.drew
  have KAxd : Hid (wx.drew.heap[w.heap.size]? = _) := Lib.hid KAx.out
  have KBxd : Hid (wx.drew.heap[(w.heap.size + 1)]? = _) := Lib.hid KBx.out
  have KXxd : Hid (wx.drew.heap[w4.heap.size]? = _) := Lib.hid KXx.out
  have HAxd := Lib.hid (HAx.out.below (Below.refl _ wx).drew)
  clear hb4 hbx hwx
  go_wp2
  rw [HWX.out]
  go_region_held3 (fun w' => w'.cell? ⟨w.heap.size, 0, none⟩ = some (.slice o f.nodes.length c) ∧ w'.cell? ⟨w.heap.size, 1, none⟩ = some (.int .i64 f.room) ∧ w'.cell? ⟨w.heap.size + 1, 0, none⟩ = some (.int .i64 u) ∧ w'.cell? ⟨w.heap.size + 1, 1, none⟩ = some (.int .i64 g) ∧ w'.cell? ⟨w4.heap.size, 0, none⟩ = some (.slice (some ⟨G4, 0, none⟩) f.nodes.length c4) ∧ w'.cell? ⟨w4.heap.size, 1, none⟩ = some (.int .i64 f.room)) (first | exact ⟨KAxc0, KAxc1, KBxc0, KBxc1, KXxc0, KXxc1⟩ | exact ⟨KAec0, KAec1, KBec0, KBec1, KXec0, KXec1⟩ | exact ⟨KAfc0, KAfc1, KBfc0, KBfc1, KXfc0, KXfc1⟩)
    (first
      | (go_at_call 12; refine (toCred_any u g _).mono ?_; rintro e we ⟨rfl, hbe⟩; have HAe := Lib.hid (HAxd.out.below hbe); have HBe := Lib.hid (HBxd.out.trans (hbe.mono HBxd.out.size)); have KAe := Lib.hid ((hbe.block w.heap.size (lt_of_heap KAxd.out)).trans KAxd.out); have KBe := Lib.hid ((hbe.block (w.heap.size + 1) (lt_of_heap KBxd.out)).trans KBxd.out); have KXe := Lib.hid ((hbe.block w4.heap.size (lt_of_heap KXxd.out)).trans KXxd.out); have KAec0 : we.cell? ⟨w.heap.size, 0, none⟩ = some (.slice o f.nodes.length c) := cell_blk KAe.out 0; have KAec1 : we.cell? ⟨w.heap.size, 1, none⟩ = some (.int .i64 f.room) := cell_blk KAe.out 1; have KBec0 : we.cell? ⟨w.heap.size + 1, 0, none⟩ = some (.int .i64 u) := cell_blk KBe.out 0; have KBec1 : we.cell? ⟨w.heap.size + 1, 1, none⟩ = some (.int .i64 g) := cell_blk KBe.out 1; have KXec0 : we.cell? ⟨w4.heap.size, 0, none⟩ = some (.slice (some ⟨G4, 0, none⟩) f.nodes.length c4) := cell_blk KXe.out 0; have KXec1 : we.cell? ⟨w4.heap.size, 1, none⟩ = some (.int .i64 f.room) := cell_blk KXe.out 1; clear hbe)
      | (go_at_call 13; refine (readFile_any f _ u g s _ HAe.out hsz hp (HET.out.below HBe.out HET.out.1)).mono ?_; rintro e wf ⟨rfl, hbf⟩; have HAf := Lib.hid (HAe.out.below hbf); have HBf := Lib.hid (HBe.out.trans (hbf.mono HBe.out.size)); have KAf := Lib.hid ((hbf.block w.heap.size (lt_of_heap KAe.out)).trans KAe.out); have KBf := Lib.hid ((hbf.block (w.heap.size + 1) (lt_of_heap KBe.out)).trans KBe.out); have KXf := Lib.hid ((hbf.block w4.heap.size (lt_of_heap KXe.out)).trans KXe.out); have KAfc0 : wf.cell? ⟨w.heap.size, 0, none⟩ = some (.slice o f.nodes.length c) := cell_blk KAf.out 0; have KAfc1 : wf.cell? ⟨w.heap.size, 1, none⟩ = some (.int .i64 f.room) := cell_blk KAf.out 1; have KBfc0 : wf.cell? ⟨w.heap.size + 1, 0, none⟩ = some (.int .i64 u) := cell_blk KBf.out 0; have KBfc1 : wf.cell? ⟨w.heap.size + 1, 1, none⟩ = some (.int .i64 g) := cell_blk KBf.out 1; have KXfc0 : wf.cell? ⟨w4.heap.size, 0, none⟩ = some (.slice (some ⟨G4, 0, none⟩) f.nodes.length c4) := cell_blk KXf.out 0; have KXfc1 : wf.cell? ⟨w4.heap.size, 1, none⟩ = some (.int .i64 f.room) := cell_blk KXf.out 1; clear hbf))
  have HAfd := Lib.hid (HAf.out.below (Below.refl _ wf).drew)
  have HBfd := Lib.hid HBf.out.drew
  have KAfd : Hid (wf.drew.heap[w.heap.size]? = _) := Lib.hid KAf.out
  have KBfd : Hid (wf.drew.heap[(w.heap.size + 1)]? = _) := Lib.hid KBf.out
  have KXfd : Hid (wf.drew.heap[w4.heap.size]? = _) := Lib.hid KXf.out
  go_wp2
  go_region_held3 (fun w' => w'.cell? ⟨w.heap.size, 0, none⟩ = some (.slice o f.nodes.length c) ∧ w'.cell? ⟨w.heap.size, 1, none⟩ = some (.int .i64 f.room) ∧ w'.cell? ⟨w.heap.size + 1, 0, none⟩ = some (.int .i64 u) ∧ w'.cell? ⟨w.heap.size + 1, 1, none⟩ = some (.int .i64 g) ∧ w'.cell? ⟨w4.heap.size, 0, none⟩ = some (.slice (some ⟨G4, 0, none⟩) f.nodes.length c4) ∧ w'.cell? ⟨w4.heap.size, 1, none⟩ = some (.int .i64 f.room)) (first | exact ⟨KAfc0, KAfc1, KBfc0, KBfc1, KXfc0, KXfc1⟩ | exact ⟨KAic0, KAic1, KBic0, KBic1, KXic0, KXic1⟩ | exact ⟨KAjc0, KAjc1, KBjc0, KBjc1, KXjc0, KXjc1⟩)
    (first
      | (go_at_call 11; refine (toFs_any f _ _ (HR.out.below HBfd.out) hsz).mono ?_; rintro e wi ⟨ui, rfl, hOi, hbi⟩; have HDi := Lib.hid (hOi.read HFIT.out); have HAi := Lib.hid (HAfd.out.below hbi); have HBi := Lib.hid (HBfd.out.trans (hbi.mono HBfd.out.size)); have KAi := Lib.hid ((hbi.block w.heap.size (lt_of_heap KAfd.out)).trans KAfd.out); have KBi := Lib.hid ((hbi.block (w.heap.size + 1) (lt_of_heap KBfd.out)).trans KBfd.out); have KXi := Lib.hid ((hbi.block w4.heap.size (lt_of_heap KXfd.out)).trans KXfd.out); have KAic0 : wi.cell? ⟨w.heap.size, 0, none⟩ = some (.slice o f.nodes.length c) := cell_blk KAi.out 0; have KAic1 : wi.cell? ⟨w.heap.size, 1, none⟩ = some (.int .i64 f.room) := cell_blk KAi.out 1; have KBic0 : wi.cell? ⟨w.heap.size + 1, 0, none⟩ = some (.int .i64 u) := cell_blk KBi.out 0; have KBic1 : wi.cell? ⟨w.heap.size + 1, 1, none⟩ = some (.int .i64 g) := cell_blk KBi.out 1; have KXic0 : wi.cell? ⟨w4.heap.size, 0, none⟩ = some (.slice (some ⟨G4, 0, none⟩) f.nodes.length c4) := cell_blk KXi.out 0; have KXic1 : wi.cell? ⟨w4.heap.size, 1, none⟩ = some (.int .i64 f.room) := cell_blk KXi.out 1; clear hOi hbi)
      | (go_at_call 14; refine (eqFs_same f _ _ _ HAi.out HDi.out).mono ?_; rintro e wj ⟨rfl, hbj⟩; have HBj := Lib.hid (HBi.out.trans (hbj.mono HBi.out.size)); have KAj := Lib.hid ((hbj.block w.heap.size (lt_of_heap KAi.out)).trans KAi.out); have KBj := Lib.hid ((hbj.block (w.heap.size + 1) (lt_of_heap KBi.out)).trans KBi.out); have KXj := Lib.hid ((hbj.block w4.heap.size (lt_of_heap KXi.out)).trans KXi.out); have KAjc0 : wj.cell? ⟨w.heap.size, 0, none⟩ = some (.slice o f.nodes.length c) := cell_blk KAj.out 0; have KAjc1 : wj.cell? ⟨w.heap.size, 1, none⟩ = some (.int .i64 f.room) := cell_blk KAj.out 1; have KBjc0 : wj.cell? ⟨w.heap.size + 1, 0, none⟩ = some (.int .i64 u) := cell_blk KBj.out 0; have KBjc1 : wj.cell? ⟨w.heap.size + 1, 1, none⟩ = some (.int .i64 g) := cell_blk KBj.out 1; have KXjc0 : wj.cell? ⟨w4.heap.size, 0, none⟩ = some (.slice (some ⟨G4, 0, none⟩) f.nodes.length c4) := cell_blk KXj.out 0; have KXjc1 : wj.cell? ⟨w4.heap.size, 1, none⟩ = some (.int .i64 f.room) := cell_blk KXj.out 1; clear hbj))
  all_goals
    go_wp2
    go_ret
    exact ⟨rfl, HBj.out⟩

set_option maxRecDepth 100000 in
theorem contract (H : Type) (enc : TypeId × Value → H) (W : World) (base : Nat) (args : Array Value) (ds gs : List (DataW H)) (before : List MemPlace)
    (hval : ∀ (j : Nat) t v, Tryz.f3.params[j]? = some t → args[j]? = some v → Value.okWide Tryz.prog W .any base t v)
    (hW : DataW.Whole enc Tryz.prog Tryz.f3.params.toList Rows.fnExactReadFileSpec.vars false W args.toList ds gs before) (hL : laidMetH Tryz.prog Rows.fnExactReadFileRow.laid W) :
    Calls Tryz.prog 3 args W fun e W' => ∃ v, e = .returned v ∧ Rows.fnExactReadFileSpec.post enc Tryz.prog Tryz.f3 false true false false W args v W' := by
  have hW' := hW
  obtain ⟨p, q, hA0, hV, rfl, hfz, hnd⟩ := hW
  have hA : DataW.TrodAll enc Tryz.prog W 0 (fun _ => true) true Tryz.f3.params.toList args.toList ds p := hA0
  rw [Tryz.params3] at hA hval
  obtain ⟨v0, vs0, d0, ds0, p0, q0, hargs, rfl, rfl, h0, r0⟩ := trodAll_cons hA
  obtain ⟨v1, vs1, d1, ds1, p1, q1, rfl, rfl, rfl, h1, r1⟩ := trodAll_cons r0
  obtain ⟨v2, vs2, d2, ds2, p2, q2, rfl, rfl, rfl, h2, r2⟩ := trodAll_cons r1
  obtain ⟨rfl, rfl, rfl⟩ := trodAll_nil r2
  obtain rfl : args = #[v0, v1, v2] := by cases args; simp_all
  obtain ⟨rfl, rfl⟩ := trodVars_none hV
  obtain ⟨f0, hR0, hF0⟩ := open_fsA (hval 0 24 v0 rfl rfl) h0
  obtain ⟨c1, k1, y1, z1, m1, rfl, rfl, rfl, hy1, hz1⟩ := open_agg2 Tryz.underlying26 (by kernel_rfl) (by kernel_rfl) (hval 1 26 v1 rfl rfl) h1
  obtain ⟨a1, e1, ey1, wa1⟩ := DataW.trod_int Tryz.underlying3 hy1
  obtain ⟨b1, f1, ez1, wb1⟩ := DataW.trod_int Tryz.underlying3 hz1
  simp at e1 f1
  subst e1 f1
  obtain ⟨a2, rfl, rfl, rfl, w2⟩ := Go.ChangeMaps.open_string Tryz.underlying9 (hval 2 9 v2 rfl rfl) h2
  refine (walk f0 v0 a1 b1 a2 w2 W hR0 (errT_of hL)).mono fun e W' ⟨he, hb⟩ => ?_
  subst he
  exact ⟨_, rfl, law_post laidOut (by kernel_rfl) (by kernel_rfl) (by kernel_rfl) Tryz.underlying4 hW' rfl hb⟩

theorem laid_met (os : Os) : laidMetH Tryz.prog Rows.fnExactReadFileRow.laid ((laidWorld os).forCall (fun _ _ => 0) ⟨#[], #[.agg #[.slice none 0 0, .int .i64 0], .agg #[.int .i64 0, .int .i64 0], .string ⟨#[]⟩], []⟩).memory :=
  laidMetH_of_parts (laidMet_nil _ _) (by kernel_rfl)
theorem reads (os : Os) {H : Type} (enc : TypeId × Value → H) : ∃ places, DataW.whole enc Tryz.prog ((laidWorld os).forCall (fun _ _ => 0) ⟨#[], #[.agg #[.slice none 0 0, .int .i64 0], .agg #[.int .i64 0, .int .i64 0], .string ⟨#[]⟩], []⟩).memory Tryz.f3.params.toList Rows.fnExactReadFileSpec.vars false (#[.agg #[.slice none 0 0, .int .i64 0], .agg #[.int .i64 0, .int .i64 0], .string ⟨#[]⟩] : Array Value).toList 8 = some ([.agg [.nil, .lit (.int .i64 0)], .agg [.lit (.int .i64 0), .lit (.int .i64 0)], .lit (.string [])], [], places) :=
  ⟨[], by kernel_rfl⟩

set_option maxRecDepth 100000 in
theorem lifted (os : Os) (started : os.Started) (H : Type) (enc : TypeId × Value → H) (F : Stop.Interp) :
    ReturnsInHanded {} Tryz.checked os 3 .any ((OpenSpec.ofChange Rows.fnExactReadFileSpec).preRow enc Tryz.prog Tryz.f3 Rows.fnExactReadFileRow.domain false Rows.fnExactReadFileRow.laid) (((OpenSpec.ofChange Rows.fnExactReadFileSpec).at F).post enc Tryz.prog Tryz.f3 false true false false) := by
  obtain ⟨places, hx⟩ := reads os enc
  refine returnsInHanded_of_row (C := Tryz.checked) (s := OpenSpec.ofChange Rows.fnExactReadFileSpec) own started (by kernel_rfl) Tryz.func3
    (witness_row_at (enc := enc) (C := Tryz.checked) false (laidWorld os) #[.agg #[.slice none 0 0, .int .i64 0], .agg #[.int .i64 0, .int .i64 0], .string ⟨#[]⟩] rfl (by kernel_rfl) (by kernel_rfl) (by kernel_rfl)
      (OpenSpec.preRow_of_cond 8 hx (by kernel_rfl) (fun k hk => by cases hk) (by kernel_rfl) (laid_met os))) ?_
  intro W base args ds gs before hval hW _ _ _ hL _ _
  exact contract H enc W base args ds gs before hval hW hL

theorem said : Rows.FnExactReadFileSaid :=
  OpenClaim.holds_of_cond 3 Tryz.f3 rfl rfl rfl rfl rfl rfl rfl ⟨rfl, rfl, rfl, rfl, rfl⟩ rfl rfl rfl rfl rfl (by kernel_rfl) Tryz.func3 (by kernel_rfl)
    (of_decide_eq_true (by kernel_rfl)) (by unfold Func.isWrapper; first | (rw [if_pos (by decide +kernel)]; kernel_rfl) | (rw [if_neg (by decide +kernel)]; exact ⟨rfl, rfl⟩))
    (fun os started H enc _ F => by rw [OpenClaim.pre_eq_preRow]; exact lifted os started H enc F)

theorem plain (f : FuncId) (fn : Func) (hf : Tryz.pinned.checked.prog.funcNamed "loop.example/g00756/laws.FnExactReadFile" = some f) (hfn : Tryz.pinned.checked.prog.funcs[f]? = some fn) :
    true = Tryz.pinned.checked.prog.looks [] ∧ ∀ (j : Nat) t, fn.params[j]? = some t → Tryz.pinned.checked.prog.wantsStandIn t = false := by
  obtain rfl : f = 3 := Option.some.inj ((show Tryz.prog.funcNamed "loop.example/g00756/laws.FnExactReadFile" = some 3 by kernel_rfl).symm.trans hf) |>.symm
  obtain rfl : fn = Tryz.f3 := (Option.some.inj (Tryz.func3.symm.trans hfn)).symm
  refine ⟨by kernel_rfl, fun j t ht => ?_⟩
  rw [Tryz.params3] at ht
  have hm : t = 24 ∨ t = 26 ∨ t = 9 := by simpa using Array.mem_of_getElem? ht
  rcases hm with rfl | rfl | rfl
  · exact (show Tryz.prog.wantsStandIn 24 = false by kernel_rfl)
  · exact (show Tryz.prog.wantsStandIn 26 = false by kernel_rfl)
  · exact (show Tryz.prog.wantsStandIn 9 = false by kernel_rfl)

theorem card : Rows.FnExactReadFileCardSaid :=
  Claim7.holds_tied_plain_at .later [] _ _ _ _ said (fun _ h => by cases h) (by kernel_rfl) (fun _ h => by cases h) fnExactReadFile_row_tie rfl ⟨rfl, rfl⟩ (by kernel_rfl) rfl plain (by kernel_rfl)
#print axioms card
end Go.Proofs.YtbmbbioanlcioaaGreatDoor.fnExactReadFile
