import Derived.ChangeMaps5
import Derived.Deep.RegionHeld3
import Derived.Deep.CutRange
import Derived.Deep.CutBlock
import Derived.Deep.DeepCutAuto
import Derived.Test.YtjomkjnpflebaaaGreatDoorLib2
import Derived.Test.YtjomkjnpflebaaaGreatDoorLib11
import Derived.Test.YtjomkjnpflebaaaGreatDoorLib24

/-
  For every file system, cred and the other arguments the law FnExactAddName returns true (impl.AddName answers as its model, writes into no argument, and its answer owns its memory) and its arguments read as before.
  Conditions: none beyond the row's own form.
-/
namespace Go.Proofs.YtjomkjnpflebaaaGreatDoor.fnExactAddName
open Go.ChangeShapes Go.WideShapes Go.ChangeAt Go.RowKit Go.Joins
set_option linter.unusedVariables false
set_option linter.unusedSimpArgs false

set_option maxRecDepth 100000 in
set_option maxHeartbeats 16000000 in
theorem walkG (f : FsD) (v : Value) (u g : Int) (s : ByteArray) (hls : s.size ≤ maxLen) (x : ByteArray) (hlx : x.size ≤ maxLen) (t : Int) (w : World) (F : FsD) (cd : Int) (ak : Bool) (hR : FsA w v f) (hET : ErrT w)
    (hG : szF f ≤ 1048576 → s.size ≤ 1048576 → x.size ≤ 1048576 → NodsFit F.nodes ∧ cntM (F.nodes.map fun n => n.list.length) ≤ 80000000 ∧
      (∀ v9 w9, FsA w9 v9 f → Calls Tryz.prog 22 #[v9, .agg #[.int .i64 u, .int .i64 g], .string s, .string x, .int .i64 t] w9 fun e w' => ∃ nv ps, e = .returned (.tuple #[.agg #[nv, .int .i64 F.room], .int .i64 cd, .bool ak]) ∧ ps.map Prod.fst = F.nodes ∧ Own w' w9.heap.size nv ps ∧ Below w9.heap.size w9 w') ∧
      (∀ v9 w9, FsA w9 v9 f → ErrT w9 → Calls Tryz.prog 23 #[v9, .agg #[.int .i64 u, .int .i64 g], .string s, .string x, .int .i64 t] w9 fun e w' => ∃ nv ps, e = .returned (.tuple #[.agg #[nv, .int .i64 F.room], .int .i64 cd, .bool ak]) ∧ ps.map Prod.fst = F.nodes ∧ Own w' w9.heap.size nv ps ∧ Below w9.heap.size w9 w')) :
    Calls Tryz.prog 6 #[v, .agg #[.int .i64 u, .int .i64 g], .string s, .string x, .int .i64 t] w fun e w' => e = .returned (.bool true) ∧ Below w.heap.size w w' := by
  have HR := Lib.hid hR
  have HET := Lib.hid hET
  have HG := Lib.hid hG
  obtain ⟨nv, rfl, hN⟩ := hR
  have HFIT := Lib.hid hN.fit
  obtain ⟨o, c, rfl, -, -⟩ := hN
  have HB0 : Hid (Below w.heap.size w ((w.alloc (.cells #[.slice o f.nodes.length c, .int .i64 f.room] 24)).alloc (.cells #[.int .i64 u, .int .i64 g] 26))) := Lib.hid (((Below.refl _ _).alloc (Nat.le_refl _) _).alloc (by simp) _)
  have KA0 := Lib.hid (al2_0 w (.cells #[.slice o f.nodes.length c, .int .i64 f.room] 24) (.cells #[.int .i64 u, .int .i64 g] 26))
  have KB0 := Lib.hid (al2_1 w (.cells #[.slice o f.nodes.length c, .int .i64 f.room] 24) (.cells #[.int .i64 u, .int .i64 g] 26))
  clear hET hG
  unfold maxLen at hls
  unfold maxLen at hlx
  by_cases ps : s.size ≤ 1048576
  case neg =>
    have qs : (1048576 : Int) < (s.size : Int) := by omega
    go_enter Tryz.func6, Tryz.ntmps6
    go_wp2
    go_ret
    exact ⟨rfl, HB0.out⟩
  have qs : ¬ ((1048576 : Int) < (s.size : Int)) := by omega
  by_cases px : x.size ≤ 1048576
  case neg =>
    have qx : (1048576 : Int) < (x.size : Int) := by omega
    go_enter Tryz.func6, Tryz.ntmps6
    go_wp2
    go_ret
    exact ⟨rfl, HB0.out⟩
  have qx : ¬ ((1048576 : Int) < (x.size : Int)) := by omega
  by_cases hs : ((szF f : Nat) : Int) ≤ 1048576
  case neg =>
    have HQ := Lib.hid (less_no hs)
    go_enter Tryz.func6, Tryz.ntmps6
    go_wp2_with fail
    refine (szFs_any f _ _ 1048576 (HR.out.below HB0.out) (by omega) (by omega)).mono ?_
    rintro e w1 ⟨rfl, hb1⟩
    rw [HQ.out]
    have HB1 := Lib.hid (HB0.out.trans (hb1.mono HB0.out.size))
    clear hb1
    go_wp2
    go_ret
    exact ⟨rfl, HB1.out⟩
  have HQ := Lib.hid (less_yes hs)
  have h4 : 0 ≤ (1048576 : Int) - ((szF f : Nat) : Int) := by omega
  have hsz : szF f ≤ 1048576 := by omega
  have HSZ := Lib.hid hsz
  have HG2 := Lib.hid (HG.out hsz ps px)
  have HFT := Lib.hid HG2.out.1
  have HCN := Lib.hid HG2.out.2.1
  have HSP := Lib.hid HG2.out.2.2.1
  have HIM := Lib.hid HG2.out.2.2.2
  clear hsz HG HG2
  go_enter Tryz.func6, Tryz.ntmps6
  go_wp2_with fail
  refine (szFs_any f _ _ 1048576 (HR.out.below HB0.out) (by omega) (by omega)).mono ?_
  rintro e w1 ⟨rfl, hb1⟩
  rw [HQ.out]
  have HB1 := Lib.hid (bel_step HB0.out hb1)
  have P1A := Lib.hid (blk_step hb1 KA0.out)
  have P1C := Lib.hid (blk_step hb1 KB0.out)
  have HR1 := Lib.hid (HR.out.below HB1.out)
  have HE1 := Lib.hid (HET.out.below HB1.out HET.out.1)
  clear hb1
  have HK0 : Hid (Below w1.heap.size w1 w1) := Lib.hid (Below.refl _ _)
  have KS : Hid (∀ W, Below w1.heap.size w1 W → (fun w' => w'.cell? ⟨w.heap.size, 0, none⟩ = some (.slice o f.nodes.length c) ∧ w'.cell? ⟨w.heap.size, 1, none⟩ = some (.int .i64 f.room) ∧ w'.cell? ⟨w.heap.size + 1, 0, none⟩ = some (.int .i64 u) ∧ w'.cell? ⟨w.heap.size + 1, 1, none⟩ = some (.int .i64 g)) W) := Lib.hid (fun W h => ⟨(h.cell (p := ⟨w.heap.size, 0, none⟩) (lt_of_heap P1A.out)).trans (cell_blk P1A.out 0), (h.cell (p := ⟨w.heap.size, 1, none⟩) (lt_of_heap P1A.out)).trans (cell_blk P1A.out 1), (h.cell (p := ⟨w.heap.size + 1, 0, none⟩) (lt_of_heap P1C.out)).trans (cell_blk P1C.out 0), (h.cell (p := ⟨w.heap.size + 1, 1, none⟩) (lt_of_heap P1C.out)).trans (cell_blk P1C.out 1)⟩)
  go_upto_region 9 with fail
  go_cut [12, 13, 14] from 36 to 47 (fun t12 t13 t14 wy => ∃ (G : Nat) (nvz : Value) (psz : List (Nod × Value)), t12 = .pointer (some ⟨G, 0, none⟩) ∧ t13 = .int .i64 cd ∧ t14 = .bool ak ∧ psz.map Prod.fst = F.nodes ∧ Ans wy w1.heap.size G nvz psz F.room ∧ Below w1.heap.size w1 wy)
  case first =>
    go_region_held3 (fun w' => w'.cell? ⟨w.heap.size, 0, none⟩ = some (.slice o f.nodes.length c) ∧ w'.cell? ⟨w.heap.size, 1, none⟩ = some (.int .i64 f.room) ∧ w'.cell? ⟨w.heap.size + 1, 0, none⟩ = some (.int .i64 u) ∧ w'.cell? ⟨w.heap.size + 1, 1, none⟩ = some (.int .i64 g)) (first | exact KS.out _ (by (first | (with_reducible exact HK0.out) | (with_reducible exact bel_al HK0.out) | (with_reducible exact bel_ald HK0.out) | (with_reducible exact bel_dr HK0.out) | (with_reducible exact HKa.out) | (with_reducible exact bel_al HKa.out) | (with_reducible exact bel_ald HKa.out) | (with_reducible exact bel_dr HKa.out) | (with_reducible exact HKb.out) | (with_reducible exact bel_al HKb.out) | (with_reducible exact bel_ald HKb.out) | (with_reducible exact bel_dr HKb.out) | (with_reducible exact HKc.out) | (with_reducible exact bel_al HKc.out) | (with_reducible exact bel_ald HKc.out) | (with_reducible exact bel_dr HKc.out))) | exact KS.out _ (bel_set2 HKc.out HZc.out.ge))
      (first
        | (go_at_call 12; (with_reducible refine (toFs_any f _ _ (HR1.out.below (by (first | (with_reducible exact HK0.out) | (with_reducible exact bel_al HK0.out) | (with_reducible exact bel_ald HK0.out) | (with_reducible exact bel_dr HK0.out)))) HSZ.out).mono ?_); rintro e wa ⟨ua, rfl, hOa, hba⟩; have HQa := Lib.hid (bel_both (w := w1) (by (first | (with_reducible exact HK0.out) | (with_reducible exact bel_al HK0.out) | (with_reducible exact bel_ald HK0.out) | (with_reducible exact bel_dr HK0.out))) hba); have HJa := Lib.hid HQa.out.1; have HKa := Lib.hid HQa.out.2; have HAa := Lib.hid (hOa.read HFIT.out); obtain ⟨nva, rfl, hNa⟩ := hOa; obtain ⟨Ga, ca, psa, rfl, -⟩ := hNa; (try (with_reducible have HZa := Lib.hid (box_new (w := w1) HK0.out hba))); (try (with_reducible have HZa := Lib.hid (box_newd (w := w1) HK0.out hba))); (try (have zz0 := (cell_blk HZa.out.blk 0).trans rfl)); (try (have zz1 := (cell_blk HZa.out.blk 1).trans rfl)); (try (have zzf := frozen_blk HZa.out.blk)); clear hba HQa)
        | (go_at_call 13; (with_reducible refine (toCred_any u g _).mono ?_); rintro e wb ⟨rfl, hbb⟩; have HQb := Lib.hid (bel_both (w := w1) (by (first | (with_reducible exact HK0.out) | (with_reducible exact bel_al HK0.out) | (with_reducible exact bel_ald HK0.out) | (with_reducible exact bel_dr HK0.out) | (with_reducible exact HKa.out) | (with_reducible exact bel_al HKa.out) | (with_reducible exact bel_ald HKa.out) | (with_reducible exact bel_dr HKa.out))) hbb); have HJb := Lib.hid HQb.out.1; have HKb := Lib.hid HQb.out.2; have HAb := Lib.hid (HAa.out.below (by first | (with_reducible exact hbb) | (with_reducible exact bel_step (bel_al (Below.refl _ _)) hbb) | (with_reducible exact bel_step (bel_ald (Below.refl _ _)) hbb))); (try (with_reducible have HZb := Lib.hid (box_new (w := w1) HK0.out hbb))); (try (with_reducible have HZb := Lib.hid (box_new (w := w1) HKa.out hbb))); (try (with_reducible have HZb := Lib.hid (box_newd (w := w1) HK0.out hbb))); (try (with_reducible have HZb := Lib.hid (box_newd (w := w1) HKa.out hbb))); (try (with_reducible have HZb := Lib.hid (box_old HZa.out hbb))); (try (have zz0 := (cell_blk HZb.out.blk 0).trans rfl)); (try (have zz1 := (cell_blk HZb.out.blk 1).trans rfl)); (try (have zzf := frozen_blk HZb.out.blk)); clear hbb HQb)
        | (go_at_call 22; (with_reducible refine (HSP.out _ _ (by first | (with_reducible exact HAb.out) | exact HAb.out.below (bel_al (Below.refl _ _)) | exact HAb.out.below (bel_ald (Below.refl _ _)))).mono ?_); rintro e wc ⟨nvc, psc, rfl, hpc, hOc, hbc⟩; have HQc := Lib.hid (bel_both (w := w1) (by (first | (with_reducible exact HK0.out) | (with_reducible exact bel_al HK0.out) | (with_reducible exact bel_ald HK0.out) | (with_reducible exact bel_dr HK0.out) | (with_reducible exact HKa.out) | (with_reducible exact bel_al HKa.out) | (with_reducible exact bel_ald HKa.out) | (with_reducible exact bel_dr HKa.out) | (with_reducible exact HKb.out) | (with_reducible exact bel_al HKb.out) | (with_reducible exact bel_ald HKb.out) | (with_reducible exact bel_dr HKb.out))) hbc); have HJc := Lib.hid HQc.out.1; have HKc := Lib.hid HQc.out.2; have HPc := Lib.hid hpc; have HOc := Lib.hid hOc; have HBWc := Lib.hid hbc; obtain ⟨ooc, ccc, rfl, -⟩ := owns_form hOc.row; clear hpc hOc; (try (with_reducible have HZc := Lib.hid (box_new (w := w1) HK0.out hbc))); (try (with_reducible have HZc := Lib.hid (box_new (w := w1) HKa.out hbc))); (try (with_reducible have HZc := Lib.hid (box_new (w := w1) HKb.out hbc))); (try (with_reducible have HZc := Lib.hid (box_newd (w := w1) HK0.out hbc))); (try (with_reducible have HZc := Lib.hid (box_newd (w := w1) HKa.out hbc))); (try (with_reducible have HZc := Lib.hid (box_newd (w := w1) HKb.out hbc))); (try (with_reducible have HZc := Lib.hid (box_old HZa.out hbc))); (try (with_reducible have HZc := Lib.hid (box_old HZb.out hbc))); (try (have zz0 := (cell_blk HZc.out.blk 0).trans rfl)); (try (have zz1 := (cell_blk HZc.out.blk 1).trans rfl)); (try (have zzf := frozen_blk HZc.out.blk)); clear hbc HQc))
    all_goals
      go_wp2_with fail
      go_meet
      first
        | (have hq := HZc; exact ⟨_, _, _, rfl, rfl, rfl, HPc.out, ans_set HZc.out HOc.out HJc.out, bel_set2 HKc.out HZc.out.ge⟩)
        | exact ⟨_, _, _, rfl, rfl, rfl, HPc.out, ans_new HOc.out HJc.out HBWc.out, bel_al HKc.out⟩
  case rest =>
    revert wc
    intro w7 hcut
    obtain ⟨G1, nv1, ps1, rfl, rfl, rfl, hp1, hA1, hk1⟩ := hcut
    have HP1 := Lib.hid hp1
    have HN1 := Lib.hid hA1
    have P7A := Lib.hid (blk_step hk1 P1A.out)
    have P7C := Lib.hid (blk_step hk1 P1C.out)
    have HB7 := Lib.hid (bel_step HB1.out hk1)
    have HR7 := Lib.hid (HR1.out.below hk1)
    have HE7 := Lib.hid (HE1.out.below hk1 HE1.out.1)
    have xa0 : w7.cell? ⟨w.heap.size, 0, none⟩ = some (.slice o f.nodes.length c) := cell_blk P7A.out 0
    have xa1 : w7.cell? ⟨w.heap.size, 1, none⟩ = some (.int .i64 f.room) := cell_blk P7A.out 1
    obtain ⟨on1, cn1, rfl⟩ : ∃ o9 c9, nv1 = .slice o9 ps1.length c9 := by
      obtain ⟨R9, E9, -, hO9, -⟩ := HN1.out.own
      obtain ⟨o9, c9, e9, -⟩ := owns_form hO9.row
      exact ⟨o9, c9, e9⟩
    clear hp1 hA1 hk1 HK0 KS
    go_wp2_with fail
    refine (toFs_any f _ _ HR7.out HSZ.out).mono ?_
    rintro e w4 ⟨u4, rfl, hO4, hb4⟩
    have HOX := Lib.hid hO4
    have HA4 := Lib.hid (hO4.read HFIT.out)
    obtain ⟨nv4, rfl, hN4⟩ := hO4
    obtain ⟨G4, c4, ps4, rfl, -⟩ := hN4
    have hbx : Below w4.heap.size w4 (w4.alloc (.cells #[.slice (some ⟨G4, 0, none⟩) f.nodes.length c4, .int .i64 f.room] 30)) := (Below.refl _ _).alloc (Nat.le_refl _) _
    have hb8 : Below w7.heap.size w7 (w4.alloc (.cells #[.slice (some ⟨G4, 0, none⟩) f.nodes.length c4, .int .i64 f.room] 30)) := bel_step hb4 hbx
    have PxA := Lib.hid (blk_step hb8 P7A.out)
    have PxC := Lib.hid (blk_step hb8 P7C.out)
    have PxX := Lib.hid (heap_alloc_new w4 (.cells #[.slice (some ⟨G4, 0, none⟩) f.nodes.length c4, .int .i64 f.room] 30))
    have HB4 := Lib.hid (bel_step HB7.out hb4)
    have HBx := Lib.hid (bel_step HB7.out hb8)
    have HAx := Lib.hid (HA4.out.below hbx)
    have HRx := Lib.hid (HR7.out.below hb8)
    have HEx := Lib.hid (HE7.out.below hb8 HE7.out.1)
    have HNx := Lib.hid (HN1.out.below hb8)
    have H47 := Lib.hid hb4.size
    have H4x := Lib.hid hbx
    have H7x := Lib.hid hb8
    obtain ⟨wx, hwx⟩ : ∃ wx, w4.alloc (.cells #[.slice (some ⟨G4, 0, none⟩) f.nodes.length c4, .int .i64 f.room] 30) = wx := ⟨_, rfl⟩
    have HWX := Lib.hid hwx
    rw [hwx] at PxA PxC PxX HBx HAx HRx HEx HNx H4x H7x
    clear hb4 hbx hb8 hwx xa0 xa1
    have xx0 : wx.cell? ⟨w4.heap.size, 0, none⟩ = some (.slice (some ⟨G4, 0, none⟩) f.nodes.length c4) := cell_blk PxX.out 0
    have xx1 : wx.cell? ⟨w4.heap.size, 1, none⟩ = some (.int .i64 f.room) := cell_blk PxX.out 1
    have xc0 : wx.cell? ⟨w.heap.size + 1, 0, none⟩ = some (.int .i64 u) := cell_blk PxC.out 0
    have xc1 : wx.cell? ⟨w.heap.size + 1, 1, none⟩ = some (.int .i64 g) := cell_blk PxC.out 1
    go_wp2
    rw [HWX.out]
    have HLEx := Lib.hid HEx.out.1
    have HK0 : Hid (Below wx.heap.size wx wx) := Lib.hid (Below.refl _ _)
    have KS : Hid (∀ W, Below wx.heap.size wx W → (fun w' => w'.cell? ⟨w.heap.size, 0, none⟩ = some (.slice o f.nodes.length c) ∧ w'.cell? ⟨w.heap.size, 1, none⟩ = some (.int .i64 f.room) ∧ w'.cell? ⟨w.heap.size + 1, 0, none⟩ = some (.int .i64 u) ∧ w'.cell? ⟨w.heap.size + 1, 1, none⟩ = some (.int .i64 g) ∧ w'.cell? ⟨w4.heap.size, 0, none⟩ = some (.slice (some ⟨G4, 0, none⟩) f.nodes.length c4) ∧ w'.cell? ⟨w4.heap.size, 1, none⟩ = some (.int .i64 f.room)) W) := Lib.hid (fun W h => ⟨(h.cell (p := ⟨w.heap.size, 0, none⟩) (lt_of_heap PxA.out)).trans (cell_blk PxA.out 0), (h.cell (p := ⟨w.heap.size, 1, none⟩) (lt_of_heap PxA.out)).trans (cell_blk PxA.out 1), (h.cell (p := ⟨w.heap.size + 1, 0, none⟩) (lt_of_heap PxC.out)).trans (cell_blk PxC.out 0), (h.cell (p := ⟨w.heap.size + 1, 1, none⟩) (lt_of_heap PxC.out)).trans (cell_blk PxC.out 1), (h.cell (p := ⟨w4.heap.size, 0, none⟩) (lt_of_heap PxX.out)).trans (cell_blk PxX.out 0), (h.cell (p := ⟨w4.heap.size, 1, none⟩) (lt_of_heap PxX.out)).trans (cell_blk PxX.out 1)⟩)
    go_upto_region 11 with fail
    go_cut [16, 17, 18] from 50 to 60 (fun t16 t17 t18 wy => ∃ (G : Nat) (nvz : Value) (psz : List (Nod × Value)), t16 = .pointer (some ⟨G, 0, none⟩) ∧ t17 = .int .i64 cd ∧ t18 = .bool ak ∧ psz.map Prod.fst = F.nodes ∧ Ans wy wx.heap.size G nvz psz F.room ∧ Below wx.heap.size wx wy)
    case first =>
      go_region_held3 (fun w' => w'.cell? ⟨w.heap.size, 0, none⟩ = some (.slice o f.nodes.length c) ∧ w'.cell? ⟨w.heap.size, 1, none⟩ = some (.int .i64 f.room) ∧ w'.cell? ⟨w.heap.size + 1, 0, none⟩ = some (.int .i64 u) ∧ w'.cell? ⟨w.heap.size + 1, 1, none⟩ = some (.int .i64 g) ∧ w'.cell? ⟨w4.heap.size, 0, none⟩ = some (.slice (some ⟨G4, 0, none⟩) f.nodes.length c4) ∧ w'.cell? ⟨w4.heap.size, 1, none⟩ = some (.int .i64 f.room)) (first | exact KS.out _ (by (first | (with_reducible exact HK0.out) | (with_reducible exact bel_al HK0.out) | (with_reducible exact bel_ald HK0.out) | (with_reducible exact bel_dr HK0.out) | (with_reducible exact HKb.out) | (with_reducible exact bel_al HKb.out) | (with_reducible exact bel_ald HKb.out) | (with_reducible exact bel_dr HKb.out) | (with_reducible exact HKc.out) | (with_reducible exact bel_al HKc.out) | (with_reducible exact bel_ald HKc.out) | (with_reducible exact bel_dr HKc.out))) | exact KS.out _ (bel_set2 HKc.out HZc.out.ge))
        (first
          | (go_at_call 13; (with_reducible refine (toCred_any u g _).mono ?_); rintro e wb ⟨rfl, hbb⟩; have HQb := Lib.hid (bel_both (w := wx) (by (first | (with_reducible exact HK0.out) | (with_reducible exact bel_al HK0.out) | (with_reducible exact bel_ald HK0.out) | (with_reducible exact bel_dr HK0.out))) hbb); have HJb := Lib.hid HQb.out.1; have HKb := Lib.hid HQb.out.2; (try (with_reducible have HZb := Lib.hid (box_new (w := wx) HK0.out hbb))); (try (with_reducible have HZb := Lib.hid (box_newd (w := wx) HK0.out hbb))); (try (have zz0 := (cell_blk HZb.out.blk 0).trans rfl)); (try (have zz1 := (cell_blk HZb.out.blk 1).trans rfl)); (try (have zzf := frozen_blk HZb.out.blk)); clear hbb HQb)
          | (go_at_call 23; (with_reducible refine (HIM.out _ _ (HAx.out.below (by (first | (with_reducible exact HK0.out) | (with_reducible exact bel_al HK0.out) | (with_reducible exact bel_ald HK0.out) | (with_reducible exact bel_dr HK0.out) | (with_reducible exact HKb.out) | (with_reducible exact bel_al HKb.out) | (with_reducible exact bel_ald HKb.out) | (with_reducible exact bel_dr HKb.out)))) (HEx.out.below (by (first | (with_reducible exact HK0.out) | (with_reducible exact bel_al HK0.out) | (with_reducible exact bel_ald HK0.out) | (with_reducible exact bel_dr HK0.out) | (with_reducible exact HKb.out) | (with_reducible exact bel_al HKb.out) | (with_reducible exact bel_ald HKb.out) | (with_reducible exact bel_dr HKb.out))) HLEx.out)).mono ?_); rintro e wc ⟨nvc, psc, rfl, hpc, hOc, hbc⟩; have HQc := Lib.hid (bel_both (w := wx) (by (first | (with_reducible exact HK0.out) | (with_reducible exact bel_al HK0.out) | (with_reducible exact bel_ald HK0.out) | (with_reducible exact bel_dr HK0.out) | (with_reducible exact HKb.out) | (with_reducible exact bel_al HKb.out) | (with_reducible exact bel_ald HKb.out) | (with_reducible exact bel_dr HKb.out))) hbc); have HJc := Lib.hid HQc.out.1; have HKc := Lib.hid HQc.out.2; have HPc := Lib.hid hpc; have HOc := Lib.hid hOc; have HBWc := Lib.hid hbc; obtain ⟨ooc, ccc, rfl, -⟩ := owns_form hOc.row; clear hpc hOc; (try (with_reducible have HZc := Lib.hid (box_new (w := wx) HK0.out hbc))); (try (with_reducible have HZc := Lib.hid (box_new (w := wx) HKb.out hbc))); (try (with_reducible have HZc := Lib.hid (box_newd (w := wx) HK0.out hbc))); (try (with_reducible have HZc := Lib.hid (box_newd (w := wx) HKb.out hbc))); (try (with_reducible have HZc := Lib.hid (box_old HZb.out hbc))); (try (have zz0 := (cell_blk HZc.out.blk 0).trans rfl)); (try (have zz1 := (cell_blk HZc.out.blk 1).trans rfl)); (try (have zzf := frozen_blk HZc.out.blk)); clear hbc HQc))
      all_goals
        go_wp2_with fail
        go_meet
        first
          | (have hq := HZc; exact ⟨_, _, _, rfl, rfl, rfl, HPc.out, ans_set HZc.out HOc.out HJc.out, bel_set2 HKc.out HZc.out.ge⟩)
          | exact ⟨_, _, _, rfl, rfl, rfl, HPc.out, ans_new HOc.out HJc.out HBWc.out, bel_al HKc.out⟩
    case rest =>
      revert wc
      intro w9 hcut
      obtain ⟨G2, nv2, ps2, rfl, rfl, rfl, hp2, hA2, hk2⟩ := hcut
      have HP2 := Lib.hid hp2
      have HM2 := Lib.hid hA2
      have P9A := Lib.hid (blk_step hk2 PxA.out)
      have P9C := Lib.hid (blk_step hk2 PxC.out)
      have P9X := Lib.hid (blk_step hk2 PxX.out)
      have HN9 := Lib.hid (HNx.out.below hk2)
      have HB9 := Lib.hid (bel_step HBx.out hk2)
      have HR9 := Lib.hid (HRx.out.below hk2)
      have HE9 := Lib.hid (HEx.out.below hk2 HEx.out.1)
      have HA9 := Lib.hid (HAx.out.below hk2)
      have H49 := Lib.hid (bel_step H4x.out hk2)
      have H79 := Lib.hid (bel_step H7x.out hk2)
      have H9x := Lib.hid hk2
      obtain ⟨on2, cn2, rfl⟩ : ∃ o9 c9, nv2 = .slice o9 ps2.length c9 := by
        obtain ⟨R9, E9, -, hO9, -⟩ := HM2.out.own
        obtain ⟨o9, c9, e9, -⟩ := owns_form hO9.row
        exact ⟨o9, c9, e9⟩
      have xa0 : w9.cell? ⟨G1, 0, none⟩ = some (.slice on1 ps1.length cn1) := cell_blk HN9.out.box 0
      have xa1 : w9.cell? ⟨G1, 1, none⟩ = some (.int .i64 F.room) := cell_blk HN9.out.box 1
      have xb0 : w9.cell? ⟨G2, 0, none⟩ = some (.slice on2 ps2.length cn2) := cell_blk HM2.out.box 0
      have xb1 : w9.cell? ⟨G2, 1, none⟩ = some (.int .i64 F.room) := cell_blk HM2.out.box 1
      clear hp2 hA2 hk2 HK0 KS xx0 xx1 xc0 xc1
      go_wp2_with fail
      refine (eqFs_same F _ _ _ (HM2.out.read HP2.out HFT.out) (HN9.out.read HP1.out HFT.out)).mono ?_
      rintro e w10 ⟨rfl, hb10⟩
      have PtA := Lib.hid (blk_step hb10 P9A.out)
      have PtC := Lib.hid (blk_step hb10 P9C.out)
      have PtX := Lib.hid (blk_step hb10 P9X.out)
      have HNt := Lib.hid (HN9.out.below hb10)
      have HMt := Lib.hid (HM2.out.below hb10)
      have HBt := Lib.hid (bel_step HB9.out hb10)
      have HRt := Lib.hid (HR9.out.below hb10)
      have HEt := Lib.hid (HE9.out.below hb10 HE9.out.1)
      have HAt := Lib.hid (HA9.out.below hb10)
      have H4t := Lib.hid (bel_step H49.out hb10)
      have H7t := Lib.hid (bel_step H79.out hb10)
      have H9t := Lib.hid hb10.size
      have HK0 : Hid (Below w10.heap.size w10 w10) := Lib.hid (Below.refl _ _)
      have KS : Hid (∀ W, Below w10.heap.size w10 W → (fun w' => w'.cell? ⟨w.heap.size, 0, none⟩ = some (.slice o f.nodes.length c) ∧ w'.cell? ⟨w.heap.size, 1, none⟩ = some (.int .i64 f.room) ∧ w'.cell? ⟨w.heap.size + 1, 0, none⟩ = some (.int .i64 u) ∧ w'.cell? ⟨w.heap.size + 1, 1, none⟩ = some (.int .i64 g) ∧ w'.cell? ⟨w4.heap.size, 0, none⟩ = some (.slice (some ⟨G4, 0, none⟩) f.nodes.length c4) ∧ w'.cell? ⟨w4.heap.size, 1, none⟩ = some (.int .i64 f.room)) W) := Lib.hid (fun W h => ⟨(h.cell (p := ⟨w.heap.size, 0, none⟩) (lt_of_heap PtA.out)).trans (cell_blk PtA.out 0), (h.cell (p := ⟨w.heap.size, 1, none⟩) (lt_of_heap PtA.out)).trans (cell_blk PtA.out 1), (h.cell (p := ⟨w.heap.size + 1, 0, none⟩) (lt_of_heap PtC.out)).trans (cell_blk PtC.out 0), (h.cell (p := ⟨w.heap.size + 1, 1, none⟩) (lt_of_heap PtC.out)).trans (cell_blk PtC.out 1), (h.cell (p := ⟨w4.heap.size, 0, none⟩) (lt_of_heap PtX.out)).trans (cell_blk PtX.out 0), (h.cell (p := ⟨w4.heap.size, 1, none⟩) (lt_of_heap PtX.out)).trans (cell_blk PtX.out 1)⟩)
      clear hb10 xa0 xa1 xb0 xb1
      go_wp2
      go_region_held3 (fun w' => w'.cell? ⟨w.heap.size, 0, none⟩ = some (.slice o f.nodes.length c) ∧ w'.cell? ⟨w.heap.size, 1, none⟩ = some (.int .i64 f.room) ∧ w'.cell? ⟨w.heap.size + 1, 0, none⟩ = some (.int .i64 u) ∧ w'.cell? ⟨w.heap.size + 1, 1, none⟩ = some (.int .i64 g) ∧ w'.cell? ⟨w4.heap.size, 0, none⟩ = some (.slice (some ⟨G4, 0, none⟩) f.nodes.length c4) ∧ w'.cell? ⟨w4.heap.size, 1, none⟩ = some (.int .i64 f.room)) (first | exact KS.out _ (by (first | (with_reducible exact HK0.out) | (with_reducible exact bel_al HK0.out) | (with_reducible exact bel_ald HK0.out) | (with_reducible exact bel_dr HK0.out) | (with_reducible exact HKi.out) | (with_reducible exact bel_al HKi.out) | (with_reducible exact bel_ald HKi.out) | (with_reducible exact bel_dr HKi.out) | (with_reducible exact HKj.out) | (with_reducible exact bel_al HKj.out) | (with_reducible exact bel_ald HKj.out) | (with_reducible exact bel_dr HKj.out))))
        (first
          | (go_at_call 12; (with_reducible refine (toFs_any f _ _ (HRt.out.below (by (first | (with_reducible exact HK0.out) | (with_reducible exact bel_al HK0.out) | (with_reducible exact bel_ald HK0.out) | (with_reducible exact bel_dr HK0.out) | (with_reducible exact HKi.out) | (with_reducible exact bel_al HKi.out) | (with_reducible exact bel_ald HKi.out) | (with_reducible exact bel_dr HKi.out) | (with_reducible exact HKj.out) | (with_reducible exact bel_al HKj.out) | (with_reducible exact bel_ald HKj.out) | (with_reducible exact bel_dr HKj.out)))) HSZ.out).mono ?_); rintro e wi ⟨ui, rfl, hOi, hbi⟩; have HKi := Lib.hid (bel_both (w := w10) (by (first | (with_reducible exact HK0.out) | (with_reducible exact bel_al HK0.out) | (with_reducible exact bel_ald HK0.out) | (with_reducible exact bel_dr HK0.out) | (with_reducible exact HKi.out) | (with_reducible exact bel_al HKi.out) | (with_reducible exact bel_ald HKi.out) | (with_reducible exact bel_dr HKi.out) | (with_reducible exact HKj.out) | (with_reducible exact bel_al HKj.out) | (with_reducible exact bel_ald HKj.out) | (with_reducible exact bel_dr HKj.out))) hbi).2; have HDi := Lib.hid (hOi.read HFIT.out); clear hOi hbi)
          | (go_at_call 15; (with_reducible refine (eqFs_same f _ _ _ (HAt.out.below HKi.out) HDi.out).mono ?_); rintro e wj ⟨rfl, hbj⟩; have HKj := Lib.hid (bel_step HKi.out hbj); clear hbj))
      have PjA := Lib.hid (blk_step HKj.out PtA.out)
      have PjC := Lib.hid (blk_step HKj.out PtC.out)
      have PjX := Lib.hid (blk_step HKj.out PtX.out)
      have HNj := Lib.hid (HNt.out.below HKj.out)
      have HMj := Lib.hid (HMt.out.below HKj.out)
      have HBj := Lib.hid (bel_step HBt.out HKj.out)
      have HEj := Lib.hid (HEt.out.below HKj.out HEt.out.1)
      have H4j := Lib.hid (bel_step H4t.out HKj.out)
      have H7j := Lib.hid (bel_step H7t.out HKj.out)
      have xx0 : wj.cell? ⟨w4.heap.size, 0, none⟩ = some (.slice (some ⟨G4, 0, none⟩) f.nodes.length c4) := cell_blk PjX.out 0
      have xx1 : wj.cell? ⟨w4.heap.size, 1, none⟩ = some (.int .i64 f.room) := cell_blk PjX.out 1
      clear HK0 KS HKi
      go_wp2_with fail
      refine (markFs_own f _ w7.heap.size w4 _ HOX.out H4j.out H47.out HSZ.out).mono ?_
      rintro e wm ⟨km, km0, km1, rfl, hbm, hum⟩
      have H7m : Hid (Below w7.heap.size w7 wm) := Lib.hid (H7j.out.trans hbm)
      have PmA := Lib.hid (blk_step H7m.out P7A.out)
      have PmC := Lib.hid (blk_step H7m.out P7C.out)
      have HNm := Lib.hid (HN1.out.below H7m.out)
      have HMm := Lib.hid (HMj.out.up hbm.size (fun i h1 h2 => hum i (Nat.le_trans H4x.out.size h1) h2))
      have HBm := Lib.hid (bel_step HB7.out H7m.out)
      have HEm := Lib.hid (HE7.out.below H7m.out HE7.out.1)
      have hkm : ¬ (km < 0) := by omega
      have xa0 : wm.cell? ⟨G1, 0, none⟩ = some (.slice on1 ps1.length cn1) := cell_blk HNm.out.box 0
      have xa1 : wm.cell? ⟨G1, 1, none⟩ = some (.int .i64 F.room) := cell_blk HNm.out.box 1
      have xb0 : wm.cell? ⟨G2, 0, none⟩ = some (.slice on2 ps2.length cn2) := cell_blk HMm.out.box 0
      have xb1 : wm.cell? ⟨G2, 1, none⟩ = some (.int .i64 F.room) := cell_blk HMm.out.box 1
      have HMS : Hid (w9.heap.size ≤ wm.heap.size) := Lib.hid (Nat.le_trans (Nat.le_trans H9t.out HKj.out.size) hbm.size)
      clear hbm hum xx0 xx1
      go_wp2_with fail
      refine (eqFs_same F _ _ _ (HMm.out.read HP2.out HFT.out) (HNm.out.read HP1.out HFT.out)).mono ?_
      rintro e wn ⟨rfl, hbn⟩
      have PnA := Lib.hid (blk_step hbn PmA.out)
      have PnC := Lib.hid (blk_step hbn PmC.out)
      have HNn := Lib.hid (HNm.out.below hbn)
      have HMn := Lib.hid (HMm.out.below hbn)
      have HBn := Lib.hid (bel_step HBm.out hbn)
      have HNB := Lib.hid hbn
      have HEn := Lib.hid (HEm.out.below hbn HEm.out.1)
      have Hnx : Hid (wx.heap.size ≤ wn.heap.size) := Lib.hid (Nat.le_trans (Nat.le_trans (H9x.out).size HMS.out) hbn.size)
      have yb0 : wn.cell? ⟨G2, 0, none⟩ = some (.slice on2 ps2.length cn2) := cell_blk HMn.out.box 0
      have yb1 : wn.cell? ⟨G2, 1, none⟩ = some (.int .i64 F.room) := cell_blk HMn.out.box 1
      clear hbn xa0 xa1 xb0 xb1
      go_wp2_with fail
      refine (markFs_ans HMn.out (by have h := HCN.out; rw [← HP2.out, List.map_map] at h; exact h)).mono ?_
      rintro e wo ⟨mk, mk1, mk2, rfl, hMo, hbo, hGo⟩
      have HMo := Lib.hid hMo
      have PoA := Lib.hid ((hbo.block _ (Nat.lt_of_lt_of_le (lt_of_heap PxA.out) (Nat.le_refl _))).trans PnA.out)
      have PoC := Lib.hid ((hbo.block _ (Nat.lt_of_lt_of_le (lt_of_heap PxC.out) (Nat.le_refl _))).trans PnC.out)
      have Hxo : Hid (Below wx.heap.size wn wo) := Lib.hid hbo
      have HBo : Hid (Below w.heap.size w wo) := Lib.hid (HBn.out.trans (hbo.mono HBx.out.size))
      have HEo := Lib.hid (HET.out.below HBo.out HET.out.1)
      have H7o : Hid (Below w7.heap.size w7 wo) := Lib.hid ((H7m.out.trans (HNB.out.mono H7m.out.size)).trans (hbo.mono H7x.out.size))
      have HNo := Lib.hid (HN1.out.below H7o.out)
      have HGo := Lib.hid hGo
      have zb0 : wo.cell? ⟨G2, 0, none⟩ = some (.slice on2 ps2.length cn2) := cell_blk hGo 0
      have zb1 : wo.cell? ⟨G2, 1, none⟩ = some (.int .i64 F.room) := cell_blk hGo 1
      clear hMo hbo hGo yb0 yb1
      go_wp2_with fail
      refine (heldFs_of _ mk _ HMo.out).mono ?_
      rintro e wp ⟨rfl, hbp⟩
      have PpA := Lib.hid (blk_step hbp PoA.out)
      have PpC := Lib.hid (blk_step hbp PoC.out)
      have HBp := Lib.hid (bel_step HBo.out hbp)
      have HEp := Lib.hid (HEo.out.below hbp HEo.out.1)
      have HNp := Lib.hid (HNo.out.below hbp)
      have HGp := Lib.hid (blk_step hbp HGo.out)
      have HMp := Lib.hid (HMo.out.below hbp)
      have HRp := Lib.hid (HR.out.below HBp.out)
      have hmz : ¬ ((mk : Int) < 0) := by omega
      clear hbp zb0 zb1
      have HLEp := Lib.hid HEp.out.1
      have HK0 : Hid (Below wp.heap.size wp wp) := Lib.hid (Below.refl _ _)
      have KS : Hid (∀ W, Below wp.heap.size wp W → (fun w' => w'.cell? ⟨w.heap.size, 0, none⟩ = some (.slice o f.nodes.length c) ∧ w'.cell? ⟨w.heap.size, 1, none⟩ = some (.int .i64 f.room) ∧ w'.cell? ⟨w.heap.size + 1, 0, none⟩ = some (.int .i64 u) ∧ w'.cell? ⟨w.heap.size + 1, 1, none⟩ = some (.int .i64 g)) W) := Lib.hid (fun W h => ⟨(h.cell (p := ⟨w.heap.size, 0, none⟩) (lt_of_heap PpA.out)).trans (cell_blk PpA.out 0), (h.cell (p := ⟨w.heap.size, 1, none⟩) (lt_of_heap PpA.out)).trans (cell_blk PpA.out 1), (h.cell (p := ⟨w.heap.size + 1, 0, none⟩) (lt_of_heap PpC.out)).trans (cell_blk PpC.out 0), (h.cell (p := ⟨w.heap.size + 1, 1, none⟩) (lt_of_heap PpC.out)).trans (cell_blk PpC.out 1)⟩)
      go_upto_region 28 with fail
      go_cut [22, 23, 24] from 112 to 123 (fun t22 t23 t24 wy => ∃ (G : Nat) (nvz : Value) (psz : List (Nod × Value)), t22 = .pointer (some ⟨G, 0, none⟩) ∧ t23 = .int .i64 cd ∧ t24 = .bool ak ∧ psz.map Prod.fst = F.nodes ∧ Ans wy wp.heap.size G nvz psz F.room ∧ Below wp.heap.size wp wy)
      case first =>
        go_region_held3 (fun w' => w'.cell? ⟨w.heap.size, 0, none⟩ = some (.slice o f.nodes.length c) ∧ w'.cell? ⟨w.heap.size, 1, none⟩ = some (.int .i64 f.room) ∧ w'.cell? ⟨w.heap.size + 1, 0, none⟩ = some (.int .i64 u) ∧ w'.cell? ⟨w.heap.size + 1, 1, none⟩ = some (.int .i64 g)) (first | exact KS.out _ (by (first | (with_reducible exact HK0.out) | (with_reducible exact bel_al HK0.out) | (with_reducible exact bel_ald HK0.out) | (with_reducible exact bel_dr HK0.out) | (with_reducible exact HKa.out) | (with_reducible exact bel_al HKa.out) | (with_reducible exact bel_ald HKa.out) | (with_reducible exact bel_dr HKa.out) | (with_reducible exact HKb.out) | (with_reducible exact bel_al HKb.out) | (with_reducible exact bel_ald HKb.out) | (with_reducible exact bel_dr HKb.out) | (with_reducible exact HKc.out) | (with_reducible exact bel_al HKc.out) | (with_reducible exact bel_ald HKc.out) | (with_reducible exact bel_dr HKc.out))) | exact KS.out _ (bel_set2 HKc.out HZc.out.ge))
          (first
            | (go_at_call 12; (with_reducible refine (toFs_any f _ _ (HRp.out.below (by (first | (with_reducible exact HK0.out) | (with_reducible exact bel_al HK0.out) | (with_reducible exact bel_ald HK0.out) | (with_reducible exact bel_dr HK0.out)))) HSZ.out).mono ?_); rintro e wa ⟨ua, rfl, hOa, hba⟩; have HQa := Lib.hid (bel_both (w := wp) (by (first | (with_reducible exact HK0.out) | (with_reducible exact bel_al HK0.out) | (with_reducible exact bel_ald HK0.out) | (with_reducible exact bel_dr HK0.out))) hba); have HJa := Lib.hid HQa.out.1; have HKa := Lib.hid HQa.out.2; have HAa := Lib.hid (hOa.read HFIT.out); obtain ⟨nva, rfl, hNa⟩ := hOa; obtain ⟨Ga, ca, psa, rfl, -⟩ := hNa; (try (with_reducible have HZa := Lib.hid (box_new (w := wp) HK0.out hba))); (try (with_reducible have HZa := Lib.hid (box_newd (w := wp) HK0.out hba))); (try (have zz0 := (cell_blk HZa.out.blk 0).trans rfl)); (try (have zz1 := (cell_blk HZa.out.blk 1).trans rfl)); (try (have zzf := frozen_blk HZa.out.blk)); clear hba HQa)
            | (go_at_call 13; (with_reducible refine (toCred_any u g _).mono ?_); rintro e wb ⟨rfl, hbb⟩; have HQb := Lib.hid (bel_both (w := wp) (by (first | (with_reducible exact HK0.out) | (with_reducible exact bel_al HK0.out) | (with_reducible exact bel_ald HK0.out) | (with_reducible exact bel_dr HK0.out) | (with_reducible exact HKa.out) | (with_reducible exact bel_al HKa.out) | (with_reducible exact bel_ald HKa.out) | (with_reducible exact bel_dr HKa.out))) hbb); have HJb := Lib.hid HQb.out.1; have HKb := Lib.hid HQb.out.2; have HAb := Lib.hid (HAa.out.below (by first | (with_reducible exact hbb) | (with_reducible exact bel_step (bel_al (Below.refl _ _)) hbb) | (with_reducible exact bel_step (bel_ald (Below.refl _ _)) hbb))); (try (with_reducible have HZb := Lib.hid (box_new (w := wp) HK0.out hbb))); (try (with_reducible have HZb := Lib.hid (box_new (w := wp) HKa.out hbb))); (try (with_reducible have HZb := Lib.hid (box_newd (w := wp) HK0.out hbb))); (try (with_reducible have HZb := Lib.hid (box_newd (w := wp) HKa.out hbb))); (try (with_reducible have HZb := Lib.hid (box_old HZa.out hbb))); (try (have zz0 := (cell_blk HZb.out.blk 0).trans rfl)); (try (have zz1 := (cell_blk HZb.out.blk 1).trans rfl)); (try (have zzf := frozen_blk HZb.out.blk)); clear hbb HQb)
            | (go_at_call 23; (with_reducible refine (HIM.out _ _ (by first | (with_reducible exact HAb.out) | exact HAb.out.below (bel_al (Below.refl _ _)) | exact HAb.out.below (bel_ald (Below.refl _ _))) (HEp.out.below (by (first | (with_reducible exact HK0.out) | (with_reducible exact bel_al HK0.out) | (with_reducible exact bel_ald HK0.out) | (with_reducible exact bel_dr HK0.out) | (with_reducible exact HKa.out) | (with_reducible exact bel_al HKa.out) | (with_reducible exact bel_ald HKa.out) | (with_reducible exact bel_dr HKa.out) | (with_reducible exact HKb.out) | (with_reducible exact bel_al HKb.out) | (with_reducible exact bel_ald HKb.out) | (with_reducible exact bel_dr HKb.out))) HLEp.out)).mono ?_); rintro e wc ⟨nvc, psc, rfl, hpc, hOc, hbc⟩; have HQc := Lib.hid (bel_both (w := wp) (by (first | (with_reducible exact HK0.out) | (with_reducible exact bel_al HK0.out) | (with_reducible exact bel_ald HK0.out) | (with_reducible exact bel_dr HK0.out) | (with_reducible exact HKa.out) | (with_reducible exact bel_al HKa.out) | (with_reducible exact bel_ald HKa.out) | (with_reducible exact bel_dr HKa.out) | (with_reducible exact HKb.out) | (with_reducible exact bel_al HKb.out) | (with_reducible exact bel_ald HKb.out) | (with_reducible exact bel_dr HKb.out))) hbc); have HJc := Lib.hid HQc.out.1; have HKc := Lib.hid HQc.out.2; have HPc := Lib.hid hpc; have HOc := Lib.hid hOc; have HBWc := Lib.hid hbc; obtain ⟨ooc, ccc, rfl, -⟩ := owns_form hOc.row; clear hpc hOc; (try (with_reducible have HZc := Lib.hid (box_new (w := wp) HK0.out hbc))); (try (with_reducible have HZc := Lib.hid (box_new (w := wp) HKa.out hbc))); (try (with_reducible have HZc := Lib.hid (box_new (w := wp) HKb.out hbc))); (try (with_reducible have HZc := Lib.hid (box_newd (w := wp) HK0.out hbc))); (try (with_reducible have HZc := Lib.hid (box_newd (w := wp) HKa.out hbc))); (try (with_reducible have HZc := Lib.hid (box_newd (w := wp) HKb.out hbc))); (try (with_reducible have HZc := Lib.hid (box_old HZa.out hbc))); (try (with_reducible have HZc := Lib.hid (box_old HZb.out hbc))); (try (have zz0 := (cell_blk HZc.out.blk 0).trans rfl)); (try (have zz1 := (cell_blk HZc.out.blk 1).trans rfl)); (try (have zzf := frozen_blk HZc.out.blk)); clear hbc HQc))
        all_goals
          go_wp2_with fail
          go_meet
          first
            | (have hq := HZc; exact ⟨_, _, _, rfl, rfl, rfl, HPc.out, ans_set HZc.out HOc.out HJc.out, bel_set2 HKc.out HZc.out.ge⟩)
            | exact ⟨_, _, _, rfl, rfl, rfl, HPc.out, ans_new HOc.out HJc.out HBWc.out, bel_al HKc.out⟩
      case rest =>
        obtain ⟨G3, nv3, ps3, rfl, rfl, rfl, hp3, hA3, hk3⟩ := hcut
        have HP3 := Lib.hid hp3
        have HNq := Lib.hid (HNp.out.below hk3)
        have HMq := Lib.hid hA3
        have HGq := Lib.hid (blk_step hk3 HGp.out)
        have HMK := Lib.hid (HMp.out.below hk3)
        have HBq := Lib.hid (bel_step HBp.out hk3)
        obtain ⟨on3, cn3, rfl⟩ : ∃ o9 c9, nv3 = .slice o9 ps3.length c9 := by
          obtain ⟨R9, E9, -, hO9, -⟩ := HMq.out.own
          obtain ⟨o9, c9, e9, -⟩ := owns_form hO9.row
          exact ⟨o9, c9, e9⟩
        have xa0 : wc.cell? ⟨G1, 0, none⟩ = some (.slice on1 ps1.length cn1) := cell_blk HNq.out.box 0
        have xa1 : wc.cell? ⟨G1, 1, none⟩ = some (.int .i64 F.room) := cell_blk HNq.out.box 1
        have xb0 : wc.cell? ⟨G3, 0, none⟩ = some (.slice on3 ps3.length cn3) := cell_blk HMq.out.box 0
        have xb1 : wc.cell? ⟨G3, 1, none⟩ = some (.int .i64 F.room) := cell_blk HMq.out.box 1
        clear hp3 hA3 hk3 HK0 KS
        go_wp2_with fail
        refine (eqFs_same F _ _ _ (HMq.out.read HP3.out HFT.out) (HNq.out.read HP1.out HFT.out)).mono ?_
        rintro e wr ⟨rfl, hbr⟩
        have HGr := Lib.hid (blk_step hbr HGq.out)
        have HMr := Lib.hid (HMK.out.below hbr)
        have HBr := Lib.hid (bel_step HBq.out hbr)
        have zb0 : wr.cell? ⟨G2, 0, none⟩ = some (.slice on2 ps2.length cn2) := cell_blk HGr.out 0
        have zb1 : wr.cell? ⟨G2, 1, none⟩ = some (.int .i64 F.room) := cell_blk HGr.out 1
        clear hbr xa0 xa1 xb0 xb1
        go_wp2_with fail
        refine (heldFs_of _ mk _ HMr.out).mono ?_
        rintro e ws ⟨rfl, hbs⟩
        have HBs := Lib.hid (bel_step HBr.out hbs)
        clear hbs
        go_wp2
        go_ret
        exact ⟨rfl, HBs.out⟩

theorem walk (f : FsD) (v : Value) (u g : Int) (s : ByteArray) (hls : s.size ≤ maxLen) (x : ByteArray) (hlx : x.size ≤ maxLen) (t : Int) (w : World) (hR : FsA w v f) (hE : ErrT w) : Calls Tryz.prog 6 #[v, .agg #[.int .i64 u, .int .i64 g], .string s, .string x, .int .i64 t] w fun e w' => e = .returned (.bool true) ∧ Below w.heap.size w w' :=
  walkG f v u g s hls x hlx t w (makF (askT f u g t) (addC f u g s.data.toList x.data.toList) (addG f u g s.data.toList x.data.toList t) f) (makC (askT f u g t) (addC f u g s.data.toList x.data.toList)) (askT f u g t) hR hE (fun hs ps px => ⟨makF_fit (show NodsFit f.nodes by obtain ⟨nv, rfl, hN⟩ := hR; exact hN.fit) (fun ha h0 => (addG_facts (show askB4 f u g = true by simp only [askT, Bool.and_eq_true] at ha; first | exact ha.1 | exact ha.1.1) hs (show NodsFit f.nodes by obtain ⟨nv, rfl, hN⟩ := hR; exact hN.fit) h0).2), makF_cnt hs (fun ha h0 => (addG_facts (show askB4 f u g = true by simp only [askT, Bool.and_eq_true] at ha; first | exact ha.1 | exact ha.1.1) hs (show NodsFit f.nodes by obtain ⟨nv, rfl, hN⟩ := hR; exact hN.fit) h0).1), fun v9 w9 h9 => specAddName_any f v9 u g s x t w9 h9 hs ps px (show NodsFit f.nodes by obtain ⟨nv, rfl, hN⟩ := hR; exact hN.fit), fun v9 w9 h9 e9 => addName_any f v9 u g s x t w9 h9 hs ps px e9⟩)

set_option maxRecDepth 100000 in
theorem contract (H : Type) (enc : TypeId × Value → H) (W : World) (base : Nat) (args : Array Value) (ds gs : List (DataW H)) (before : List MemPlace)
    (hval : ∀ (j : Nat) t v, Tryz.f6.params[j]? = some t → args[j]? = some v → Value.okWide Tryz.prog W .any base t v)
    (hW : DataW.Whole enc Tryz.prog Tryz.f6.params.toList Rows.fnExactAddNameSpec.vars false W args.toList ds gs before) (hL : laidMetH Tryz.prog Rows.fnExactAddNameRow.laid W) :
    Calls Tryz.prog 6 args W fun e W' => ∃ v, e = .returned v ∧ Rows.fnExactAddNameSpec.post enc Tryz.prog Tryz.f6 false true false false W args v W' := by
  have hW' := hW
  obtain ⟨p, q, hA0, hV, rfl, hfz, hnd⟩ := hW
  have hA : DataW.TrodAll enc Tryz.prog W 0 (fun _ => true) true Tryz.f6.params.toList args.toList ds p := hA0
  rw [Tryz.params6] at hA hval
  obtain ⟨v0, vs0, d0, ds0, p0, q0, hargs, rfl, rfl, h0, r0⟩ := trodAll_cons hA
  obtain ⟨v1, vs1, d1, ds1, p1, q1, rfl, rfl, rfl, h1, r1⟩ := trodAll_cons r0
  obtain ⟨v2, vs2, d2, ds2, p2, q2, rfl, rfl, rfl, h2, r2⟩ := trodAll_cons r1
  obtain ⟨v3, vs3, d3, ds3, p3, q3, rfl, rfl, rfl, h3, r3⟩ := trodAll_cons r2
  obtain ⟨v4, vs4, d4, ds4, p4, q4, rfl, rfl, rfl, h4, r4⟩ := trodAll_cons r3
  obtain ⟨rfl, rfl, rfl⟩ := trodAll_nil r4
  obtain rfl : args = #[v0, v1, v2, v3, v4] := by cases args; simp_all
  obtain ⟨rfl, rfl⟩ := trodVars_none hV
  obtain ⟨f0, hR0, hF0⟩ := open_fsA (hval 0 24 v0 rfl rfl) h0
  obtain ⟨c1, k1, y1, z1, m1, rfl, rfl, rfl, hy1, hz1⟩ := open_agg2 Tryz.underlying26 (by kernel_rfl) (by kernel_rfl) (hval 1 26 v1 rfl rfl) h1
  obtain ⟨a1, e1, ey1, wa1⟩ := DataW.trod_int Tryz.underlying3 hy1
  obtain ⟨b1, f1, ez1, wb1⟩ := DataW.trod_int Tryz.underlying3 hz1
  simp at e1 f1
  subst e1 f1
  obtain ⟨a2, rfl, rfl, rfl, w2⟩ := Go.ChangeMaps.open_string Tryz.underlying9 (hval 2 9 v2 rfl rfl) h2
  obtain ⟨a3, rfl, rfl, rfl, w3⟩ := Go.ChangeMaps.open_string Tryz.underlying9 (hval 3 9 v3 rfl rfl) h3
  obtain ⟨a4, rfl, rfl, rfl, w4⟩ := open_int Tryz.underlying3 (hval 4 3 v4 rfl rfl) h4
  refine (walk f0 v0 a1 b1 a2 w2 a3 w3 a4 W hR0 (errT_of hL)).mono fun e W' ⟨he, hb⟩ => ?_
  subst he
  exact ⟨_, rfl, law_post laidOut (by kernel_rfl) (by kernel_rfl) (by kernel_rfl) Tryz.underlying4 hW' rfl hb⟩

theorem laid_met (os : Os) : laidMetH Tryz.prog Rows.fnExactAddNameRow.laid ((laidWorld os).forCall (fun _ _ => 0) ⟨#[], #[.agg #[.slice none 0 0, .int .i64 0], .agg #[.int .i64 0, .int .i64 0], .string ⟨#[]⟩, .string ⟨#[]⟩, .int .i64 0], []⟩).memory :=
  laidMetH_of_parts (laidMet_nil _ _) (by kernel_rfl)
theorem reads (os : Os) {H : Type} (enc : TypeId × Value → H) : ∃ places, DataW.whole enc Tryz.prog ((laidWorld os).forCall (fun _ _ => 0) ⟨#[], #[.agg #[.slice none 0 0, .int .i64 0], .agg #[.int .i64 0, .int .i64 0], .string ⟨#[]⟩, .string ⟨#[]⟩, .int .i64 0], []⟩).memory Tryz.f6.params.toList Rows.fnExactAddNameSpec.vars false (#[.agg #[.slice none 0 0, .int .i64 0], .agg #[.int .i64 0, .int .i64 0], .string ⟨#[]⟩, .string ⟨#[]⟩, .int .i64 0] : Array Value).toList 8 = some ([.agg [.nil, .lit (.int .i64 0)], .agg [.lit (.int .i64 0), .lit (.int .i64 0)], .lit (.string []), .lit (.string []), .lit (.int .i64 0)], [], places) :=
  ⟨[], by kernel_rfl⟩

set_option maxRecDepth 100000 in
theorem lifted (os : Os) (started : os.Started) (H : Type) (enc : TypeId × Value → H) (F : Stop.Interp) :
    ReturnsInHanded {} Tryz.checked os 6 .any ((OpenSpec.ofChange Rows.fnExactAddNameSpec).preRow enc Tryz.prog Tryz.f6 Rows.fnExactAddNameRow.domain false Rows.fnExactAddNameRow.laid) (((OpenSpec.ofChange Rows.fnExactAddNameSpec).at F).post enc Tryz.prog Tryz.f6 false true false false) := by
  obtain ⟨places, hx⟩ := reads os enc
  refine returnsInHanded_of_row (C := Tryz.checked) (s := OpenSpec.ofChange Rows.fnExactAddNameSpec) own started (by kernel_rfl) Tryz.func6
    (witness_row_at (enc := enc) (C := Tryz.checked) false (laidWorld os) #[.agg #[.slice none 0 0, .int .i64 0], .agg #[.int .i64 0, .int .i64 0], .string ⟨#[]⟩, .string ⟨#[]⟩, .int .i64 0] rfl (by kernel_rfl) (by kernel_rfl) (by kernel_rfl)
      (OpenSpec.preRow_of_cond 8 hx (by kernel_rfl) (fun k hk => by cases hk) (by kernel_rfl) (laid_met os))) ?_
  intro W base args ds gs before hval hW _ _ _ hL _ _
  exact contract H enc W base args ds gs before hval hW hL

theorem said : Rows.FnExactAddNameSaid :=
  OpenClaim.holds_of_cond 6 Tryz.f6 rfl rfl rfl rfl rfl rfl rfl ⟨rfl, rfl, rfl, rfl, rfl⟩ rfl rfl rfl rfl rfl (by kernel_rfl) Tryz.func6 (by kernel_rfl)
    (of_decide_eq_true (by kernel_rfl)) (by unfold Func.isWrapper; first | (rw [if_pos (by decide +kernel)]; kernel_rfl) | (rw [if_neg (by decide +kernel)]; exact ⟨rfl, rfl⟩))
    (fun os started H enc _ F => by rw [OpenClaim.pre_eq_preRow]; exact lifted os started H enc F)

theorem plain (f : FuncId) (fn : Func) (hf : Tryz.pinned.checked.prog.funcNamed "loop.example/g00756/laws.FnExactAddName" = some f) (hfn : Tryz.pinned.checked.prog.funcs[f]? = some fn) :
    true = Tryz.pinned.checked.prog.looks [] ∧ ∀ (j : Nat) t, fn.params[j]? = some t → Tryz.pinned.checked.prog.wantsStandIn t = false := by
  obtain rfl : f = 6 := Option.some.inj ((show Tryz.prog.funcNamed "loop.example/g00756/laws.FnExactAddName" = some 6 by kernel_rfl).symm.trans hf) |>.symm
  obtain rfl : fn = Tryz.f6 := (Option.some.inj (Tryz.func6.symm.trans hfn)).symm
  refine ⟨by kernel_rfl, fun j t ht => ?_⟩
  rw [Tryz.params6] at ht
  have hm : t = 24 ∨ t = 26 ∨ t = 9 ∨ t = 3 := by simpa using Array.mem_of_getElem? ht
  rcases hm with rfl | rfl | rfl | rfl
  · exact (show Tryz.prog.wantsStandIn 24 = false by kernel_rfl)
  · exact (show Tryz.prog.wantsStandIn 26 = false by kernel_rfl)
  · exact (show Tryz.prog.wantsStandIn 9 = false by kernel_rfl)
  · exact (show Tryz.prog.wantsStandIn 3 = false by kernel_rfl)

theorem card : Rows.FnExactAddNameCardSaid :=
  Claim7.holds_tied_plain_at .later [] _ _ _ _ said (fun _ h => by cases h) (by kernel_rfl) (fun _ h => by cases h) fnExactAddName_row_tie rfl ⟨rfl, rfl⟩ (by kernel_rfl) rfl plain (by kernel_rfl)
#print axioms card
end Go.Proofs.YtjomkjnpflebaaaGreatDoor.fnExactAddName
