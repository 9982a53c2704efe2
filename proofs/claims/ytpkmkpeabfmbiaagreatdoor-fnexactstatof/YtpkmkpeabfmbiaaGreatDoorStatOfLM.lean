import Derived.ChangeMaps5
import Derived.Deep.RegionHeld3
import Derived.Deep.CutRange
import Derived.Deep.CutBlock
import Derived.Deep.DeepCutAuto
import Derived.Test.YtpkmkpeabfmbiaaGreatDoorLib3
import Derived.Test.YtpkmkpeabfmbiaaGreatDoorLib4
import Derived.Test.YtpkmkpeabfmbiaaGreatDoorLib5
import Derived.Test.YtpkmkpeabfmbiaaGreatDoorLib15
import Derived.Test.YtpkmkpeabfmbiaaGreatDoorLib20
import Derived.Test.YtpkmkpeabfmbiaaGreatDoorLib22

/-
  For every file system, cred, path and choice the law FnExactStatOf returns true (impl.StatOf answers as its model, and writes into no argument) and its arguments read as before.
  Conditions: none beyond the row's own form.
-/
namespace Go.Proofs.YtpkmkpeabfmbiaaGreatDoor.fnExactStatOf
open Go.ChangeShapes Go.WideShapes Go.ChangeAt Go.RowKit Go.Joins
set_option linter.unusedVariables false
set_option linter.unusedSimpArgs false

set_option maxRecDepth 100000 in
set_option maxHeartbeats 16000000 in
theorem walkG (f : FsD) (v : Value) (u g : Int) (s : ByteArray) (hls : s.size ≤ maxLen) (fol : Bool) (w : World) (F : Nat → Int) (cd : Int) (ak : Bool) (hR : FsA w v f) (hET : ErrT w)
    (hG : szF f ≤ 1048576 → s.size ≤ 1048576 → (∀ v9 w9, FsA w9 v9 f → Calls Tryz.prog 22 #[v9, .agg #[.int .i64 u, .int .i64 g], .string s, .bool fol] w9 fun e w' => e = .returned (.tuple #[.agg #[.int .i64 (F 0), .int .i64 (F 1), .int .i64 (F 2), .int .i64 (F 3), .int .i64 (F 4), .int .i64 (F 5), .int .i64 (F 6), .int .i64 (F 7)], .int .i64 cd, .bool ak]) ∧ Below w9.heap.size w9 w') ∧ (∀ v9 w9, FsA w9 v9 f → ErrT w9 → Calls Tryz.prog 23 #[v9, .agg #[.int .i64 u, .int .i64 g], .string s, .bool fol] w9 fun e w' => e = .returned (.tuple #[.agg #[.int .i64 (F 0), .int .i64 (F 1), .int .i64 (F 2), .int .i64 (F 3), .int .i64 (F 4), .int .i64 (F 5), .int .i64 (F 6), .int .i64 (F 7)], .int .i64 cd, .bool ak]) ∧ Below w9.heap.size w9 w')) :
    Calls Tryz.prog 4 #[v, .agg #[.int .i64 u, .int .i64 g], .string s, .bool fol] w fun e w' => e = .returned (.bool true) ∧ Below w.heap.size w w' := by
  have HR := Lib.hid hR
  have HET := Lib.hid hET
  have HG := Lib.hid hG
  obtain ⟨nv, rfl, hN⟩ := hR
  have HFIT := Lib.hid hN.fit
  obtain ⟨o, c, rfl, -, -⟩ := hN
  have HB0 : Hid (Below w.heap.size w ((w.alloc (.cells #[.slice o f.nodes.length c, .int .i64 f.room] 24)).alloc (.cells #[.int .i64 u, .int .i64 g] 26))) := Lib.hid (((Below.refl _ _).alloc (Nat.le_refl _) _).alloc (by simp) _)
  have KA0 := Lib.hid (al2_0 w (.cells #[.slice o f.nodes.length c, .int .i64 f.room] 24) (.cells #[.int .i64 u, .int .i64 g] 26))
  have KB0 := Lib.hid (al2_1 w (.cells #[.slice o f.nodes.length c, .int .i64 f.room] 24) (.cells #[.int .i64 u, .int .i64 g] 26))
  clear hET hG
  unfold maxLen at hls
  by_cases ps : s.size ≤ 1048576
  case neg =>
    have qs : (1048576 : Int) < (s.size : Int) := by omega
    go_enter Tryz.func4, Tryz.ntmps4
    go_wp2
    go_ret
    exact ⟨rfl, HB0.out⟩
  have qs : ¬ ((1048576 : Int) < (s.size : Int)) := by omega
  by_cases hs : ((szF f : Nat) : Int) ≤ 1048576
  case neg =>
    have HQ := Lib.hid (less_no hs)
    go_enter Tryz.func4, Tryz.ntmps4
    go_wp2_with fail
    refine (szFs_any f _ _ 1048576 (HR.out.below HB0.out) (by omega) (by omega)).mono ?_
    rintro e w1 ⟨rfl, hb1⟩
    rw [HQ.out]
    have HB1 := Lib.hid (HB0.out.trans (hb1.mono HB0.out.size))
    clear hb1
    go_wp2
    go_ret
    exact ⟨rfl, HB1.out⟩
  have HQ := Lib.hid (less_yes hs)
  have h4 : 0 ≤ (1048576 : Int) - ((szF f : Nat) : Int) := by omega
  have hsz : szF f ≤ 1048576 := by omega
  have HSZ := Lib.hid hsz
  have HSP := Lib.hid (HG.out hsz ps).1
  have HIM := Lib.hid (HG.out hsz ps).2
  clear hsz HG
  go_enter Tryz.func4, Tryz.ntmps4
  go_wp2_with fail
  refine (szFs_any f _ _ 1048576 (HR.out.below HB0.out) (by omega) (by omega)).mono ?_
  rintro e w1 ⟨rfl, hb1⟩
  rw [HQ.out]
  have HB1 := Lib.hid (bel_step HB0.out hb1)
  have P1A := Lib.hid (blk_step hb1 KA0.out)
  have P1C := Lib.hid (blk_step hb1 KB0.out)
  have HR1 := Lib.hid (HR.out.below HB1.out)
  have HE1 := Lib.hid (HET.out.below HB1.out HET.out.1)
  clear hb1
  have HK0 : Hid (Below w1.heap.size w1 w1) := Lib.hid (Below.refl _ _)
  have KS : Hid (∀ W, Below w1.heap.size w1 W → (fun w' => w'.cell? ⟨w.heap.size, 0, none⟩ = some (.slice o f.nodes.length c) ∧ w'.cell? ⟨w.heap.size, 1, none⟩ = some (.int .i64 f.room) ∧ w'.cell? ⟨w.heap.size + 1, 0, none⟩ = some (.int .i64 u) ∧ w'.cell? ⟨w.heap.size + 1, 1, none⟩ = some (.int .i64 g)) W) := Lib.hid (fun W h => ⟨(h.cell (p := ⟨w.heap.size, 0, none⟩) (lt_of_heap P1A.out)).trans (cell_blk P1A.out 0), (h.cell (p := ⟨w.heap.size, 1, none⟩) (lt_of_heap P1A.out)).trans (cell_blk P1A.out 1), (h.cell (p := ⟨w.heap.size + 1, 0, none⟩) (lt_of_heap P1C.out)).trans (cell_blk P1C.out 0), (h.cell (p := ⟨w.heap.size + 1, 1, none⟩) (lt_of_heap P1C.out)).trans (cell_blk P1C.out 1)⟩)
  go_upto_region 7 with fail
  go_cut [10, 11, 12] from 25 to 35 (fun t10 t11 t12 wy => ∃ G : Nat, t10 = .pointer (some ⟨G, 0, none⟩) ∧ t11 = .int .i64 cd ∧ t12 = .bool ak ∧ wy.heap[G]? = some (.cells #[.int .i64 (F 0), .int .i64 (F 1), .int .i64 (F 2), .int .i64 (F 3), .int .i64 (F 4), .int .i64 (F 5), .int .i64 (F 6), .int .i64 (F 7)] 46) ∧ Below w1.heap.size w1 wy)
  case first =>
    go_region_held3 (fun w' => w'.cell? ⟨w.heap.size, 0, none⟩ = some (.slice o f.nodes.length c) ∧ w'.cell? ⟨w.heap.size, 1, none⟩ = some (.int .i64 f.room) ∧ w'.cell? ⟨w.heap.size + 1, 0, none⟩ = some (.int .i64 u) ∧ w'.cell? ⟨w.heap.size + 1, 1, none⟩ = some (.int .i64 g)) (first | exact KS.out _ (by (first | (with_reducible exact HK0.out) | (with_reducible exact bel_al HK0.out) | (with_reducible exact bel_ald HK0.out) | (with_reducible exact bel_dr HK0.out) | (with_reducible exact HKa.out) | (with_reducible exact bel_al HKa.out) | (with_reducible exact bel_ald HKa.out) | (with_reducible exact bel_dr HKa.out) | (with_reducible exact HKb.out) | (with_reducible exact bel_al HKb.out) | (with_reducible exact bel_ald HKb.out) | (with_reducible exact bel_dr HKb.out) | (with_reducible exact HKc.out) | (with_reducible exact bel_al HKc.out) | (with_reducible exact bel_ald HKc.out) | (with_reducible exact bel_dr HKc.out))) | exact KS.out _ (eight_below HKc.out HZc.out.ge (.int .i64 (F 0)) (.int .i64 (F 1)) (.int .i64 (F 2)) (.int .i64 (F 3)) (.int .i64 (F 4)) (.int .i64 (F 5)) (.int .i64 (F 6)) (.int .i64 (F 7))))
      (first
        | (go_at_call 11; (with_reducible refine (toFs_any f _ _ (HR1.out.below (by (first | (with_reducible exact HK0.out) | (with_reducible exact bel_al HK0.out) | (with_reducible exact bel_ald HK0.out) | (with_reducible exact bel_dr HK0.out)))) HSZ.out).mono ?_); rintro e wa ⟨ua, rfl, hOa, hba⟩; have HQa := Lib.hid (bel_both (w := w1) (by (first | (with_reducible exact HK0.out) | (with_reducible exact bel_al HK0.out) | (with_reducible exact bel_ald HK0.out) | (with_reducible exact bel_dr HK0.out))) hba); have HJa := Lib.hid HQa.out.1; have HKa := Lib.hid HQa.out.2; have HAa := Lib.hid (hOa.read HFIT.out); obtain ⟨nva, rfl, hNa⟩ := hOa; obtain ⟨Ga, ca, psa, rfl, -⟩ := hNa; (try (with_reducible have HZa := Lib.hid (box_new (w := w1) HK0.out hba))); (try (with_reducible have HZa := Lib.hid (box_newd (w := w1) HK0.out hba))); (try (have zz0 := (cell_blk HZa.out.blk 0).trans rfl)); (try (have zz1 := (cell_blk HZa.out.blk 1).trans rfl)); (try (have zz2 := (cell_blk HZa.out.blk 2).trans rfl)); (try (have zz3 := (cell_blk HZa.out.blk 3).trans rfl)); (try (have zz4 := (cell_blk HZa.out.blk 4).trans rfl)); (try (have zz5 := (cell_blk HZa.out.blk 5).trans rfl)); (try (have zz6 := (cell_blk HZa.out.blk 6).trans rfl)); (try (have zz7 := (cell_blk HZa.out.blk 7).trans rfl)); (try (have zzf := frozen_blk HZa.out.blk)); clear hba HQa)
        | (go_at_call 12; (with_reducible refine (toCred_any u g _).mono ?_); rintro e wb ⟨rfl, hbb⟩; have HQb := Lib.hid (bel_both (w := w1) (by (first | (with_reducible exact HK0.out) | (with_reducible exact bel_al HK0.out) | (with_reducible exact bel_ald HK0.out) | (with_reducible exact bel_dr HK0.out) | (with_reducible exact HKa.out) | (with_reducible exact bel_al HKa.out) | (with_reducible exact bel_ald HKa.out) | (with_reducible exact bel_dr HKa.out))) hbb); have HJb := Lib.hid HQb.out.1; have HKb := Lib.hid HQb.out.2; have HAb := Lib.hid (HAa.out.below (by first | (with_reducible exact hbb) | (with_reducible exact bel_step (bel_al (Below.refl _ _)) hbb) | (with_reducible exact bel_step (bel_ald (Below.refl _ _)) hbb))); (try (with_reducible have HZb := Lib.hid (box_new (w := w1) HK0.out hbb))); (try (with_reducible have HZb := Lib.hid (box_new (w := w1) HKa.out hbb))); (try (with_reducible have HZb := Lib.hid (box_newd (w := w1) HK0.out hbb))); (try (with_reducible have HZb := Lib.hid (box_newd (w := w1) HKa.out hbb))); (try (with_reducible have HZb := Lib.hid (box_old HZa.out hbb))); (try (have zz0 := (cell_blk HZb.out.blk 0).trans rfl)); (try (have zz1 := (cell_blk HZb.out.blk 1).trans rfl)); (try (have zz2 := (cell_blk HZb.out.blk 2).trans rfl)); (try (have zz3 := (cell_blk HZb.out.blk 3).trans rfl)); (try (have zz4 := (cell_blk HZb.out.blk 4).trans rfl)); (try (have zz5 := (cell_blk HZb.out.blk 5).trans rfl)); (try (have zz6 := (cell_blk HZb.out.blk 6).trans rfl)); (try (have zz7 := (cell_blk HZb.out.blk 7).trans rfl)); (try (have zzf := frozen_blk HZb.out.blk)); clear hbb HQb)
        | (go_at_call 22; (with_reducible refine (HSP.out _ _ (by first | (with_reducible exact HAb.out) | exact HAb.out.below (bel_al (Below.refl _ _)) | exact HAb.out.below (bel_ald (Below.refl _ _)))).mono ?_); rintro e wc ⟨rfl, hbc⟩; have HQc := Lib.hid (bel_both (w := w1) (by (first | (with_reducible exact HK0.out) | (with_reducible exact bel_al HK0.out) | (with_reducible exact bel_ald HK0.out) | (with_reducible exact bel_dr HK0.out) | (with_reducible exact HKa.out) | (with_reducible exact bel_al HKa.out) | (with_reducible exact bel_ald HKa.out) | (with_reducible exact bel_dr HKa.out) | (with_reducible exact HKb.out) | (with_reducible exact bel_al HKb.out) | (with_reducible exact bel_ald HKb.out) | (with_reducible exact bel_dr HKb.out))) hbc); have HJc := Lib.hid HQc.out.1; have HKc := Lib.hid HQc.out.2; (try (with_reducible have HZc := Lib.hid (box_new (w := w1) HK0.out hbc))); (try (with_reducible have HZc := Lib.hid (box_new (w := w1) HKa.out hbc))); (try (with_reducible have HZc := Lib.hid (box_new (w := w1) HKb.out hbc))); (try (with_reducible have HZc := Lib.hid (box_newd (w := w1) HK0.out hbc))); (try (with_reducible have HZc := Lib.hid (box_newd (w := w1) HKa.out hbc))); (try (with_reducible have HZc := Lib.hid (box_newd (w := w1) HKb.out hbc))); (try (with_reducible have HZc := Lib.hid (box_old HZa.out hbc))); (try (with_reducible have HZc := Lib.hid (box_old HZb.out hbc))); (try (have zz0 := (cell_blk HZc.out.blk 0).trans rfl)); (try (have zz1 := (cell_blk HZc.out.blk 1).trans rfl)); (try (have zz2 := (cell_blk HZc.out.blk 2).trans rfl)); (try (have zz3 := (cell_blk HZc.out.blk 3).trans rfl)); (try (have zz4 := (cell_blk HZc.out.blk 4).trans rfl)); (try (have zz5 := (cell_blk HZc.out.blk 5).trans rfl)); (try (have zz6 := (cell_blk HZc.out.blk 6).trans rfl)); (try (have zz7 := (cell_blk HZc.out.blk 7).trans rfl)); (try (have zzf := frozen_blk HZc.out.blk)); clear hbc HQc))
    all_goals
      go_wp2_with fail
      go_meet
      first
        | (have hq := HZc; exact ⟨_, rfl, rfl, rfl, eight_set HZc.out.blk (.int .i64 (F 0)) (.int .i64 (F 1)) (.int .i64 (F 2)) (.int .i64 (F 3)) (.int .i64 (F 4)) (.int .i64 (F 5)) (.int .i64 (F 6)) (.int .i64 (F 7)), eight_below HKc.out HZc.out.ge (.int .i64 (F 0)) (.int .i64 (F 1)) (.int .i64 (F 2)) (.int .i64 (F 3)) (.int .i64 (F 4)) (.int .i64 (F 5)) (.int .i64 (F 6)) (.int .i64 (F 7))⟩)
        | exact ⟨_, rfl, rfl, rfl, heap_alloc_new wc _, bel_al HKc.out⟩
  case rest =>
    revert wc
    intro w7 hcut
    obtain ⟨G1, rfl, rfl, rfl, hG1, hk1⟩ := hcut
    have P7A := Lib.hid (blk_step hk1 P1A.out)
    have P7C := Lib.hid (blk_step hk1 P1C.out)
    have HG1 := Lib.hid hG1
    have HB7 := Lib.hid (bel_step HB1.out hk1)
    have HR7 := Lib.hid (HR1.out.below hk1)
    have HE7 := Lib.hid (HE1.out.below hk1 HE1.out.1)
    have xa0 : w7.cell? ⟨w.heap.size, 0, none⟩ = some (.slice o f.nodes.length c) := cell_blk P7A.out 0
    have xa1 : w7.cell? ⟨w.heap.size, 1, none⟩ = some (.int .i64 f.room) := cell_blk P7A.out 1
    clear hG1 hk1 HK0 KS
    go_wp2_with fail
    refine (toFs_any f _ _ HR7.out HSZ.out).mono ?_
    rintro e w4 ⟨u4, rfl, hO4, hb4⟩
    have HA4 := Lib.hid (hO4.read HFIT.out)
    obtain ⟨nv4, rfl, hN4⟩ := hO4
    obtain ⟨G4, c4, ps4, rfl, -⟩ := hN4
    have hbx : Below w4.heap.size w4 (w4.alloc (.cells #[.slice (some ⟨G4, 0, none⟩) f.nodes.length c4, .int .i64 f.room] 34)) := (Below.refl _ _).alloc (Nat.le_refl _) _
    have hb8 : Below w7.heap.size w7 (w4.alloc (.cells #[.slice (some ⟨G4, 0, none⟩) f.nodes.length c4, .int .i64 f.room] 34)) := bel_step hb4 hbx
    have PxA := Lib.hid (blk_step hb8 P7A.out)
    have PxC := Lib.hid (blk_step hb8 P7C.out)
    have PxX := Lib.hid (heap_alloc_new w4 (.cells #[.slice (some ⟨G4, 0, none⟩) f.nodes.length c4, .int .i64 f.room] 34))
    have PxG := Lib.hid (blk_step hb8 HG1.out)
    have HBx := Lib.hid (bel_step HB7.out hb8)
    have HAx := Lib.hid (HA4.out.below hbx)
    have HRx := Lib.hid (HR7.out.below hb8)
    have HEx := Lib.hid (HE7.out.below hb8 HE7.out.1)
    obtain ⟨wx, hwx⟩ : ∃ wx, w4.alloc (.cells #[.slice (some ⟨G4, 0, none⟩) f.nodes.length c4, .int .i64 f.room] 34) = wx := ⟨_, rfl⟩
    have HWX := Lib.hid hwx
    rw [hwx] at PxA PxC PxX PxG HBx HAx HRx HEx
    have HLEx := Lib.hid HEx.out.1
    clear hb4 hbx hb8 hwx xa0 xa1
    have xx0 : wx.cell? ⟨w4.heap.size, 0, none⟩ = some (.slice (some ⟨G4, 0, none⟩) f.nodes.length c4) := cell_blk PxX.out 0
    have xx1 : wx.cell? ⟨w4.heap.size, 1, none⟩ = some (.int .i64 f.room) := cell_blk PxX.out 1
    have xc0 : wx.cell? ⟨w.heap.size + 1, 0, none⟩ = some (.int .i64 u) := cell_blk PxC.out 0
    have xc1 : wx.cell? ⟨w.heap.size + 1, 1, none⟩ = some (.int .i64 g) := cell_blk PxC.out 1
    go_wp2
    rw [HWX.out]
    have HK0 : Hid (Below wx.heap.size wx wx) := Lib.hid (Below.refl _ _)
    have KS : Hid (∀ W, Below wx.heap.size wx W → (fun w' => w'.cell? ⟨w.heap.size, 0, none⟩ = some (.slice o f.nodes.length c) ∧ w'.cell? ⟨w.heap.size, 1, none⟩ = some (.int .i64 f.room) ∧ w'.cell? ⟨w.heap.size + 1, 0, none⟩ = some (.int .i64 u) ∧ w'.cell? ⟨w.heap.size + 1, 1, none⟩ = some (.int .i64 g) ∧ w'.cell? ⟨w4.heap.size, 0, none⟩ = some (.slice (some ⟨G4, 0, none⟩) f.nodes.length c4) ∧ w'.cell? ⟨w4.heap.size, 1, none⟩ = some (.int .i64 f.room)) W) := Lib.hid (fun W h => ⟨(h.cell (p := ⟨w.heap.size, 0, none⟩) (lt_of_heap PxA.out)).trans (cell_blk PxA.out 0), (h.cell (p := ⟨w.heap.size, 1, none⟩) (lt_of_heap PxA.out)).trans (cell_blk PxA.out 1), (h.cell (p := ⟨w.heap.size + 1, 0, none⟩) (lt_of_heap PxC.out)).trans (cell_blk PxC.out 0), (h.cell (p := ⟨w.heap.size + 1, 1, none⟩) (lt_of_heap PxC.out)).trans (cell_blk PxC.out 1), (h.cell (p := ⟨w4.heap.size, 0, none⟩) (lt_of_heap PxX.out)).trans (cell_blk PxX.out 0), (h.cell (p := ⟨w4.heap.size, 1, none⟩) (lt_of_heap PxX.out)).trans (cell_blk PxX.out 1)⟩)
    go_upto_region 9 with fail
    go_cut [14, 15, 16] from 38 to 47 (fun t14 t15 t16 wy => ∃ G : Nat, t14 = .pointer (some ⟨G, 0, none⟩) ∧ t15 = .int .i64 cd ∧ t16 = .bool ak ∧ wy.heap[G]? = some (.cells #[.int .i64 (F 0), .int .i64 (F 1), .int .i64 (F 2), .int .i64 (F 3), .int .i64 (F 4), .int .i64 (F 5), .int .i64 (F 6), .int .i64 (F 7)] 46) ∧ Below wx.heap.size wx wy)
    case first =>
      go_region_held3 (fun w' => w'.cell? ⟨w.heap.size, 0, none⟩ = some (.slice o f.nodes.length c) ∧ w'.cell? ⟨w.heap.size, 1, none⟩ = some (.int .i64 f.room) ∧ w'.cell? ⟨w.heap.size + 1, 0, none⟩ = some (.int .i64 u) ∧ w'.cell? ⟨w.heap.size + 1, 1, none⟩ = some (.int .i64 g) ∧ w'.cell? ⟨w4.heap.size, 0, none⟩ = some (.slice (some ⟨G4, 0, none⟩) f.nodes.length c4) ∧ w'.cell? ⟨w4.heap.size, 1, none⟩ = some (.int .i64 f.room)) (first | exact KS.out _ (by (first | (with_reducible exact HK0.out) | (with_reducible exact bel_al HK0.out) | (with_reducible exact bel_ald HK0.out) | (with_reducible exact bel_dr HK0.out) | (with_reducible exact HKb.out) | (with_reducible exact bel_al HKb.out) | (with_reducible exact bel_ald HKb.out) | (with_reducible exact bel_dr HKb.out) | (with_reducible exact HKc.out) | (with_reducible exact bel_al HKc.out) | (with_reducible exact bel_ald HKc.out) | (with_reducible exact bel_dr HKc.out))) | exact KS.out _ (eight_below HKc.out HZc.out.ge (.int .i64 (F 0)) (.int .i64 (F 1)) (.int .i64 (F 2)) (.int .i64 (F 3)) (.int .i64 (F 4)) (.int .i64 (F 5)) (.int .i64 (F 6)) (.int .i64 (F 7))))
        (first
          | (go_at_call 12; (with_reducible refine (toCred_any u g _).mono ?_); rintro e wb ⟨rfl, hbb⟩; have HQb := Lib.hid (bel_both (w := wx) (by (first | (with_reducible exact HK0.out) | (with_reducible exact bel_al HK0.out) | (with_reducible exact bel_ald HK0.out) | (with_reducible exact bel_dr HK0.out))) hbb); have HJb := Lib.hid HQb.out.1; have HKb := Lib.hid HQb.out.2; (try (with_reducible have HZb := Lib.hid (box_new (w := wx) HK0.out hbb))); (try (with_reducible have HZb := Lib.hid (box_newd (w := wx) HK0.out hbb))); (try (have zz0 := (cell_blk HZb.out.blk 0).trans rfl)); (try (have zz1 := (cell_blk HZb.out.blk 1).trans rfl)); (try (have zz2 := (cell_blk HZb.out.blk 2).trans rfl)); (try (have zz3 := (cell_blk HZb.out.blk 3).trans rfl)); (try (have zz4 := (cell_blk HZb.out.blk 4).trans rfl)); (try (have zz5 := (cell_blk HZb.out.blk 5).trans rfl)); (try (have zz6 := (cell_blk HZb.out.blk 6).trans rfl)); (try (have zz7 := (cell_blk HZb.out.blk 7).trans rfl)); (try (have zzf := frozen_blk HZb.out.blk)); clear hbb HQb)
          | (go_at_call 23; (with_reducible refine (HIM.out _ _ (HAx.out.below (by (first | (with_reducible exact HK0.out) | (with_reducible exact bel_al HK0.out) | (with_reducible exact bel_ald HK0.out) | (with_reducible exact bel_dr HK0.out) | (with_reducible exact HKb.out) | (with_reducible exact bel_al HKb.out) | (with_reducible exact bel_ald HKb.out) | (with_reducible exact bel_dr HKb.out)))) (HEx.out.below (by (first | (with_reducible exact HK0.out) | (with_reducible exact bel_al HK0.out) | (with_reducible exact bel_ald HK0.out) | (with_reducible exact bel_dr HK0.out) | (with_reducible exact HKb.out) | (with_reducible exact bel_al HKb.out) | (with_reducible exact bel_ald HKb.out) | (with_reducible exact bel_dr HKb.out))) HLEx.out)).mono ?_); rintro e wc ⟨rfl, hbc⟩; have HQc := Lib.hid (bel_both (w := wx) (by (first | (with_reducible exact HK0.out) | (with_reducible exact bel_al HK0.out) | (with_reducible exact bel_ald HK0.out) | (with_reducible exact bel_dr HK0.out) | (with_reducible exact HKb.out) | (with_reducible exact bel_al HKb.out) | (with_reducible exact bel_ald HKb.out) | (with_reducible exact bel_dr HKb.out))) hbc); have HJc := Lib.hid HQc.out.1; have HKc := Lib.hid HQc.out.2; (try (with_reducible have HZc := Lib.hid (box_new (w := wx) HK0.out hbc))); (try (with_reducible have HZc := Lib.hid (box_new (w := wx) HKb.out hbc))); (try (with_reducible have HZc := Lib.hid (box_newd (w := wx) HK0.out hbc))); (try (with_reducible have HZc := Lib.hid (box_newd (w := wx) HKb.out hbc))); (try (with_reducible have HZc := Lib.hid (box_old HZb.out hbc))); (try (have zz0 := (cell_blk HZc.out.blk 0).trans rfl)); (try (have zz1 := (cell_blk HZc.out.blk 1).trans rfl)); (try (have zz2 := (cell_blk HZc.out.blk 2).trans rfl)); (try (have zz3 := (cell_blk HZc.out.blk 3).trans rfl)); (try (have zz4 := (cell_blk HZc.out.blk 4).trans rfl)); (try (have zz5 := (cell_blk HZc.out.blk 5).trans rfl)); (try (have zz6 := (cell_blk HZc.out.blk 6).trans rfl)); (try (have zz7 := (cell_blk HZc.out.blk 7).trans rfl)); (try (have zzf := frozen_blk HZc.out.blk)); clear hbc HQc))
      all_goals
        go_wp2_with fail
        go_meet
        first
          | (have hq := HZc; exact ⟨_, rfl, rfl, rfl, eight_set HZc.out.blk (.int .i64 (F 0)) (.int .i64 (F 1)) (.int .i64 (F 2)) (.int .i64 (F 3)) (.int .i64 (F 4)) (.int .i64 (F 5)) (.int .i64 (F 6)) (.int .i64 (F 7)), eight_below HKc.out HZc.out.ge (.int .i64 (F 0)) (.int .i64 (F 1)) (.int .i64 (F 2)) (.int .i64 (F 3)) (.int .i64 (F 4)) (.int .i64 (F 5)) (.int .i64 (F 6)) (.int .i64 (F 7))⟩)
          | exact ⟨_, rfl, rfl, rfl, heap_alloc_new wc _, bel_al HKc.out⟩
    case rest =>
      revert wc
      intro w9 hcut
      obtain ⟨G2, rfl, rfl, rfl, hG2, hk2⟩ := hcut
      have HG2 := Lib.hid hG2
      have P9A := Lib.hid (blk_step hk2 PxA.out)
      have P9C := Lib.hid (blk_step hk2 PxC.out)
      have P9X := Lib.hid (blk_step hk2 PxX.out)
      have P9G := Lib.hid (blk_step hk2 PxG.out)
      have HB9 := Lib.hid (bel_step HBx.out hk2)
      have HR9 := Lib.hid (HRx.out.below hk2)
      have HA9 := Lib.hid (HAx.out.below hk2)
      have xg0 : w9.cell? ⟨G1, 0, none⟩ = some (.int .i64 (F 0)) := cell_blk P9G.out 0
      have xg1 : w9.cell? ⟨G1, 1, none⟩ = some (.int .i64 (F 1)) := cell_blk P9G.out 1
      have xg2 : w9.cell? ⟨G1, 2, none⟩ = some (.int .i64 (F 2)) := cell_blk P9G.out 2
      have xg3 : w9.cell? ⟨G1, 3, none⟩ = some (.int .i64 (F 3)) := cell_blk P9G.out 3
      have xg4 : w9.cell? ⟨G1, 4, none⟩ = some (.int .i64 (F 4)) := cell_blk P9G.out 4
      have xg5 : w9.cell? ⟨G1, 5, none⟩ = some (.int .i64 (F 5)) := cell_blk P9G.out 5
      have xg6 : w9.cell? ⟨G1, 6, none⟩ = some (.int .i64 (F 6)) := cell_blk P9G.out 6
      have xg7 : w9.cell? ⟨G1, 7, none⟩ = some (.int .i64 (F 7)) := cell_blk P9G.out 7
      have xh0 : w9.cell? ⟨G2, 0, none⟩ = some (.int .i64 (F 0)) := cell_blk HG2.out 0
      have xh1 : w9.cell? ⟨G2, 1, none⟩ = some (.int .i64 (F 1)) := cell_blk HG2.out 1
      have xh2 : w9.cell? ⟨G2, 2, none⟩ = some (.int .i64 (F 2)) := cell_blk HG2.out 2
      have xh3 : w9.cell? ⟨G2, 3, none⟩ = some (.int .i64 (F 3)) := cell_blk HG2.out 3
      have xh4 : w9.cell? ⟨G2, 4, none⟩ = some (.int .i64 (F 4)) := cell_blk HG2.out 4
      have xh5 : w9.cell? ⟨G2, 5, none⟩ = some (.int .i64 (F 5)) := cell_blk HG2.out 5
      have xh6 : w9.cell? ⟨G2, 6, none⟩ = some (.int .i64 (F 6)) := cell_blk HG2.out 6
      have xh7 : w9.cell? ⟨G2, 7, none⟩ = some (.int .i64 (F 7)) := cell_blk HG2.out 7
      clear hG2 hk2 HK0 KS xx0 xx1 xc0 xc1
      go_wp2_with fail
      refine (eqStat_same F _).mono ?_
      rintro e w10 ⟨rfl, hb10⟩
      have PtA := Lib.hid (blk_step hb10 P9A.out)
      have PtC := Lib.hid (blk_step hb10 P9C.out)
      have PtX := Lib.hid (blk_step hb10 P9X.out)
      have HBt := Lib.hid (bel_step HB9.out hb10)
      have HRt := Lib.hid (HR9.out.below hb10)
      have HAt := Lib.hid (HA9.out.below hb10)
      have HK0 : Hid (Below w10.heap.size w10 w10) := Lib.hid (Below.refl _ _)
      have KS : Hid (∀ W, Below w10.heap.size w10 W → (fun w' => w'.cell? ⟨w.heap.size, 0, none⟩ = some (.slice o f.nodes.length c) ∧ w'.cell? ⟨w.heap.size, 1, none⟩ = some (.int .i64 f.room) ∧ w'.cell? ⟨w.heap.size + 1, 0, none⟩ = some (.int .i64 u) ∧ w'.cell? ⟨w.heap.size + 1, 1, none⟩ = some (.int .i64 g) ∧ w'.cell? ⟨w4.heap.size, 0, none⟩ = some (.slice (some ⟨G4, 0, none⟩) f.nodes.length c4) ∧ w'.cell? ⟨w4.heap.size, 1, none⟩ = some (.int .i64 f.room)) W) := Lib.hid (fun W h => ⟨(h.cell (p := ⟨w.heap.size, 0, none⟩) (lt_of_heap PtA.out)).trans (cell_blk PtA.out 0), (h.cell (p := ⟨w.heap.size, 1, none⟩) (lt_of_heap PtA.out)).trans (cell_blk PtA.out 1), (h.cell (p := ⟨w.heap.size + 1, 0, none⟩) (lt_of_heap PtC.out)).trans (cell_blk PtC.out 0), (h.cell (p := ⟨w.heap.size + 1, 1, none⟩) (lt_of_heap PtC.out)).trans (cell_blk PtC.out 1), (h.cell (p := ⟨w4.heap.size, 0, none⟩) (lt_of_heap PtX.out)).trans (cell_blk PtX.out 0), (h.cell (p := ⟨w4.heap.size, 1, none⟩) (lt_of_heap PtX.out)).trans (cell_blk PtX.out 1)⟩)
      clear hb10 xg0 xh0 xg1 xh1 xg2 xh2 xg3 xh3 xg4 xh4 xg5 xh5 xg6 xh6 xg7 xh7
      go_wp2
      go_region_held3 (fun w' => w'.cell? ⟨w.heap.size, 0, none⟩ = some (.slice o f.nodes.length c) ∧ w'.cell? ⟨w.heap.size, 1, none⟩ = some (.int .i64 f.room) ∧ w'.cell? ⟨w.heap.size + 1, 0, none⟩ = some (.int .i64 u) ∧ w'.cell? ⟨w.heap.size + 1, 1, none⟩ = some (.int .i64 g) ∧ w'.cell? ⟨w4.heap.size, 0, none⟩ = some (.slice (some ⟨G4, 0, none⟩) f.nodes.length c4) ∧ w'.cell? ⟨w4.heap.size, 1, none⟩ = some (.int .i64 f.room)) (first | exact KS.out _ (by (first | (with_reducible exact HK0.out) | (with_reducible exact bel_al HK0.out) | (with_reducible exact bel_ald HK0.out) | (with_reducible exact bel_dr HK0.out) | (with_reducible exact HKi.out) | (with_reducible exact bel_al HKi.out) | (with_reducible exact bel_ald HKi.out) | (with_reducible exact bel_dr HKi.out) | (with_reducible exact HKj.out) | (with_reducible exact bel_al HKj.out) | (with_reducible exact bel_ald HKj.out) | (with_reducible exact bel_dr HKj.out))))
        (first
          | (go_at_call 11; (with_reducible refine (toFs_any f _ _ (HRt.out.below (by (first | (with_reducible exact HK0.out) | (with_reducible exact bel_al HK0.out) | (with_reducible exact bel_ald HK0.out) | (with_reducible exact bel_dr HK0.out) | (with_reducible exact HKi.out) | (with_reducible exact bel_al HKi.out) | (with_reducible exact bel_ald HKi.out) | (with_reducible exact bel_dr HKi.out) | (with_reducible exact HKj.out) | (with_reducible exact bel_al HKj.out) | (with_reducible exact bel_ald HKj.out) | (with_reducible exact bel_dr HKj.out)))) HSZ.out).mono ?_); rintro e wi ⟨ui, rfl, hOi, hbi⟩; have HKi := Lib.hid (bel_both (w := w10) (by (first | (with_reducible exact HK0.out) | (with_reducible exact bel_al HK0.out) | (with_reducible exact bel_ald HK0.out) | (with_reducible exact bel_dr HK0.out) | (with_reducible exact HKi.out) | (with_reducible exact bel_al HKi.out) | (with_reducible exact bel_ald HKi.out) | (with_reducible exact bel_dr HKi.out) | (with_reducible exact HKj.out) | (with_reducible exact bel_al HKj.out) | (with_reducible exact bel_ald HKj.out) | (with_reducible exact bel_dr HKj.out))) hbi).2; have HDi := Lib.hid (hOi.read HFIT.out); clear hOi hbi)
          | (go_at_call 16; (with_reducible refine (eqFs_same f _ _ _ (HAt.out.below HKi.out) HDi.out).mono ?_); rintro e wj ⟨rfl, hbj⟩; have HKj := Lib.hid (bel_step HKi.out hbj); clear hbj))
      have HBj := Lib.hid (bel_step HBt.out HKj.out)
      go_wp2
      go_ret
      exact ⟨rfl, HBj.out⟩

theorem walk (f : FsD) (v : Value) (u g : Int) (s : ByteArray) (hls : s.size ≤ maxLen) (fol : Bool) (w : World) (hR : FsA w v f) (hE : ErrT w) : Calls Tryz.prog 4 #[v, .agg #[.int .i64 u, .int .i64 g], .string s, .bool fol] w fun e w' => e = .returned (.bool true) ∧ Below w.heap.size w w' :=
  walkG f v u g s hls fol w (stS f u g s.data.toList fol) (findC f u g s.data.toList fol) (askB4 f u g) hR hE (fun hs ps => ⟨fun v9 w9 h9 => specStatOf_any f v9 u g s w9 h9 hs ps fol, fun v9 w9 h9 e9 => statOf_any f v9 u g s w9 h9 hs ps fol e9⟩)

set_option maxRecDepth 100000 in
theorem contract (H : Type) (enc : TypeId × Value → H) (W : World) (base : Nat) (args : Array Value) (ds gs : List (DataW H)) (before : List MemPlace)
    (hval : ∀ (j : Nat) t v, Tryz.f4.params[j]? = some t → args[j]? = some v → Value.okWide Tryz.prog W .any base t v)
    (hW : DataW.Whole enc Tryz.prog Tryz.f4.params.toList Rows.fnExactStatOfSpec.vars false W args.toList ds gs before) (hL : laidMetH Tryz.prog Rows.fnExactStatOfRow.laid W) :
    Calls Tryz.prog 4 args W fun e W' => ∃ v, e = .returned v ∧ Rows.fnExactStatOfSpec.post enc Tryz.prog Tryz.f4 false true false false W args v W' := by
  have hW' := hW
  obtain ⟨p, q, hA0, hV, rfl, hfz, hnd⟩ := hW
  have hA : DataW.TrodAll enc Tryz.prog W 0 (fun _ => true) true Tryz.f4.params.toList args.toList ds p := hA0
  rw [Tryz.params4] at hA hval
  obtain ⟨v0, vs0, d0, ds0, p0, q0, hargs, rfl, rfl, h0, r0⟩ := trodAll_cons hA
  obtain ⟨v1, vs1, d1, ds1, p1, q1, rfl, rfl, rfl, h1, r1⟩ := trodAll_cons r0
  obtain ⟨v2, vs2, d2, ds2, p2, q2, rfl, rfl, rfl, h2, r2⟩ := trodAll_cons r1
  obtain ⟨v3, vs3, d3, ds3, p3, q3, rfl, rfl, rfl, h3, r3⟩ := trodAll_cons r2
  obtain ⟨rfl, rfl, rfl⟩ := trodAll_nil r3
  obtain rfl : args = #[v0, v1, v2, v3] := by cases args; simp_all
  obtain ⟨rfl, rfl⟩ := trodVars_none hV
  obtain ⟨f0, hR0, hF0⟩ := open_fsA (hval 0 24 v0 rfl rfl) h0
  obtain ⟨c1, k1, y1, z1, m1, rfl, rfl, rfl, hy1, hz1⟩ := open_agg2 Tryz.underlying26 (by kernel_rfl) (by kernel_rfl) (hval 1 26 v1 rfl rfl) h1
  obtain ⟨a1, e1, ey1, wa1⟩ := DataW.trod_int Tryz.underlying3 hy1
  obtain ⟨b1, f1, ez1, wb1⟩ := DataW.trod_int Tryz.underlying3 hz1
  simp at e1 f1
  subst e1 f1
  obtain ⟨a2, rfl, rfl, rfl, w2⟩ := Go.ChangeMaps.open_string Tryz.underlying9 (hval 2 9 v2 rfl rfl) h2
  obtain ⟨a3, rfl, rfl, rfl⟩ := open_bool Tryz.underlying4 (hval 3 4 v3 rfl rfl) h3
  refine (walk f0 v0 a1 b1 a2 w2 a3 W hR0 (errT_of hL)).mono fun e W' ⟨he, hb⟩ => ?_
  subst he
  exact ⟨_, rfl, law_post laidOut (by kernel_rfl) (by kernel_rfl) (by kernel_rfl) Tryz.underlying4 hW' rfl hb⟩

theorem laid_met (os : Os) : laidMetH Tryz.prog Rows.fnExactStatOfRow.laid ((laidWorld os).forCall (fun _ _ => 0) ⟨#[], #[.agg #[.slice none 0 0, .int .i64 0], .agg #[.int .i64 0, .int .i64 0], .string ⟨#[]⟩, .bool false], []⟩).memory :=
  laidMetH_of_parts (laidMet_nil _ _) (by kernel_rfl)
theorem reads (os : Os) {H : Type} (enc : TypeId × Value → H) : ∃ places, DataW.whole enc Tryz.prog ((laidWorld os).forCall (fun _ _ => 0) ⟨#[], #[.agg #[.slice none 0 0, .int .i64 0], .agg #[.int .i64 0, .int .i64 0], .string ⟨#[]⟩, .bool false], []⟩).memory Tryz.f4.params.toList Rows.fnExactStatOfSpec.vars false (#[.agg #[.slice none 0 0, .int .i64 0], .agg #[.int .i64 0, .int .i64 0], .string ⟨#[]⟩, .bool false] : Array Value).toList 8 = some ([.agg [.nil, .lit (.int .i64 0)], .agg [.lit (.int .i64 0), .lit (.int .i64 0)], .lit (.string []), .lit (.bool false)], [], places) :=
  ⟨[], by kernel_rfl⟩

set_option maxRecDepth 100000 in
theorem lifted (os : Os) (started : os.Started) (H : Type) (enc : TypeId × Value → H) (F : Stop.Interp) :
    ReturnsInHanded {} Tryz.checked os 4 .any ((OpenSpec.ofChange Rows.fnExactStatOfSpec).preRow enc Tryz.prog Tryz.f4 Rows.fnExactStatOfRow.domain false Rows.fnExactStatOfRow.laid) (((OpenSpec.ofChange Rows.fnExactStatOfSpec).at F).post enc Tryz.prog Tryz.f4 false true false false) := by
  obtain ⟨places, hx⟩ := reads os enc
  refine returnsInHanded_of_row (C := Tryz.checked) (s := OpenSpec.ofChange Rows.fnExactStatOfSpec) own started (by kernel_rfl) Tryz.func4
    (witness_row_at (enc := enc) (C := Tryz.checked) false (laidWorld os) #[.agg #[.slice none 0 0, .int .i64 0], .agg #[.int .i64 0, .int .i64 0], .string ⟨#[]⟩, .bool false] rfl (by kernel_rfl) (by kernel_rfl) (by kernel_rfl)
      (OpenSpec.preRow_of_cond 8 hx (by kernel_rfl) (fun k hk => by cases hk) (by kernel_rfl) (laid_met os))) ?_
  intro W base args ds gs before hval hW _ _ _ hL _ _
  exact contract H enc W base args ds gs before hval hW hL

theorem said : Rows.FnExactStatOfSaid :=
  OpenClaim.holds_of_cond 4 Tryz.f4 rfl rfl rfl rfl rfl rfl rfl ⟨rfl, rfl, rfl, rfl, rfl⟩ rfl rfl rfl rfl rfl (by kernel_rfl) Tryz.func4 (by kernel_rfl)
    (of_decide_eq_true (by kernel_rfl)) (by unfold Func.isWrapper; first | (rw [if_pos (by decide +kernel)]; kernel_rfl) | (rw [if_neg (by decide +kernel)]; exact ⟨rfl, rfl⟩))
    (fun os started H enc _ F => by rw [OpenClaim.pre_eq_preRow]; exact lifted os started H enc F)

theorem plain (f : FuncId) (fn : Func) (hf : Tryz.pinned.checked.prog.funcNamed "loop.example/g00756/laws.FnExactStatOf" = some f) (hfn : Tryz.pinned.checked.prog.funcs[f]? = some fn) :
    true = Tryz.pinned.checked.prog.looks [] ∧ ∀ (j : Nat) t, fn.params[j]? = some t → Tryz.pinned.checked.prog.wantsStandIn t = false := by
  obtain rfl : f = 4 := Option.some.inj ((show Tryz.prog.funcNamed "loop.example/g00756/laws.FnExactStatOf" = some 4 by kernel_rfl).symm.trans hf) |>.symm
  obtain rfl : fn = Tryz.f4 := (Option.some.inj (Tryz.func4.symm.trans hfn)).symm
  refine ⟨by kernel_rfl, fun j t ht => ?_⟩
  rw [Tryz.params4] at ht
  have hm : t = 24 ∨ t = 26 ∨ t = 9 ∨ t = 4 := by simpa using Array.mem_of_getElem? ht
  rcases hm with rfl | rfl | rfl | rfl
  · exact (show Tryz.prog.wantsStandIn 24 = false by kernel_rfl)
  · exact (show Tryz.prog.wantsStandIn 26 = false by kernel_rfl)
  · exact (show Tryz.prog.wantsStandIn 9 = false by kernel_rfl)
  · exact (show Tryz.prog.wantsStandIn 4 = false by kernel_rfl)

theorem card : Rows.FnExactStatOfCardSaid :=
  Claim7.holds_tied_plain_at .later [] _ _ _ _ said (fun _ h => by cases h) (by kernel_rfl) (fun _ h => by cases h) fnExactStatOf_row_tie rfl ⟨rfl, rfl⟩ (by kernel_rfl) rfl plain (by kernel_rfl)
#print axioms card
end Go.Proofs.YtpkmkpeabfmbiaaGreatDoor.fnExactStatOf
