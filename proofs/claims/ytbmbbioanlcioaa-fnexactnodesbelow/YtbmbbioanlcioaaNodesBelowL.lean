
/-
  For every file system and node number the law FnExactNodesBelow returns true (impl.NodesBelow answers as its model, in memory of its own, and writes into no argument) and its arguments read as before.
  Conditions: none beyond the row's own form.
-/
import Derived.Test.YtbmbbioanlcioaaBelD
import Derived.Test.YtbmbbioanlcioaaFsT
import Derived.Test.YtbmbbioanlcioaaFsS
import Derived.Test.YtbmbbioanlcioaaMarkF
import Derived.ChangeMaps5
import Derived.Deep.RegionHeld3
namespace Go.Proofs.Ytbmbbioanlcioaa.fnExactNodesBelow
open Go.ChangeShapes Go.WideShapes Go.ChangeAt Go.RowKit Go.Joins
set_option linter.unusedVariables false

set_option maxRecDepth 100000 in
set_option maxHeartbeats 8000000 in
theorem walk (f : FsD) (v : Value) (node : Int) (w : World) (hR : FsA w v f) : Calls Try.prog 5 #[v, .int .i64 node] w fun e w' => e = .returned (.bool true) ∧ Below w.heap.size w w' := by
  have HR := Lib.hid hR
  obtain ⟨nv, rfl, hN⟩ := hR
  have HFIT := Lib.hid hN.fit
  obtain ⟨o, c, rfl, -, -⟩ := hN
  have HB0 : Hid (Below w.heap.size w (w.alloc (.cells #[.slice o f.nodes.length c, .int .i64 f.room] 24))) := Lib.hid ((Below.refl _ _).alloc (Nat.le_refl _) _)
  have KA0 := Lib.hid (heap_alloc_new w (.cells #[.slice o f.nodes.length c, .int .i64 f.room] 24))
  by_cases hs : ((szF f : Nat) : Int) ≤ 1048576
  case neg =>
    have HQ := Lib.hid (less_no hs)
    go_enter Try.func5, Try.ntmps5
    go_wp2_with fail
    refine (szFs_any f _ _ 1048576 (HR.out.below HB0.out) (by omega) (by omega)).mono ?_
    rintro e w1 ⟨rfl, hb1⟩
    rw [HQ.out]
    have HB1 := Lib.hid (HB0.out.trans (hb1.mono HB0.out.size))
    clear hb1
    go_wp2
    go_ret
    exact ⟨rfl, HB1.out⟩
  have HQ := Lib.hid (less_yes hs)
  have h4 : 0 ≤ (1048576 : Int) - ((szF f : Nat) : Int) := by omega
  have hsz : szF f ≤ 1048576 := by omega
  have HPL := Lib.hid (nbR_len f hsz node)
  obtain ⟨ps, hps⟩ : ∃ ps, ps = nbR f node := ⟨_, rfl⟩
  rw [← hps] at HPL
  have HSPEC : Hid (∀ v9 w9, FsA w9 v9 f → Calls Try.prog 18 #[v9, .int .i64 node] w9 fun e w' => ∃ lv, e = .returned (.tuple #[lv, .bool (linksK f node)]) ∧ RdI w' lv ps ∧ Below w9.heap.size w9 w') := Lib.hid (fun v9 w9 h9 => by rw [hps]; exact specNodesBelow_any f node v9 w9 h9 hsz)
  have HIMPL : Hid (∀ v9 w9, FsA w9 v9 f → Calls Try.prog 19 #[v9, .int .i64 node] w9 fun e w' => ∃ lv, e = .returned (.tuple #[lv, .bool (linksK f node)]) ∧ LstI w' w9.heap.size lv ps ∧ Below w9.heap.size w9 w') := Lib.hid (fun v9 w9 h9 => by rw [hps]; exact nodesBelow_any f node v9 w9 h9 hsz)
  clear hps
  go_enter Try.func5, Try.ntmps5
  go_wp2_with fail
  refine (szFs_any f _ _ 1048576 (HR.out.below HB0.out) (by omega) (by omega)).mono ?_
  rintro e w1 ⟨rfl, hb1⟩
  rw [HQ.out]
  have HB1 := Lib.hid (HB0.out.trans (hb1.mono HB0.out.size))
  have KA1 := Lib.hid ((hb1.block w.heap.size (lt_of_heap KA0.out)).trans KA0.out)
  have KA1c0 : w1.cell? ⟨w.heap.size, 0, none⟩ = some (.slice o f.nodes.length c) := cell_blk KA1.out 0
  have KA1c1 : w1.cell? ⟨w.heap.size, 1, none⟩ = some (.int .i64 f.room) := cell_blk KA1.out 1
  clear hb1
  go_wp2_with fail
  refine (toFs_any f _ _ (HR.out.below HB1.out) hsz).mono ?_
  rintro e wa ⟨ua, rfl, hOa, hba⟩
  have HAa := Lib.hid (hOa.read HFIT.out)
  have HBa := Lib.hid (HB1.out.trans (hba.mono HB1.out.size))
  have KAa := Lib.hid ((hba.block w.heap.size (lt_of_heap KA1.out)).trans KA1.out)
  have KAac0 : wa.cell? ⟨w.heap.size, 0, none⟩ = some (.slice o f.nodes.length c) := cell_blk KAa.out 0
  have KAac1 : wa.cell? ⟨w.heap.size, 1, none⟩ = some (.int .i64 f.room) := cell_blk KAa.out 1
  obtain ⟨nva, rfl, hNa⟩ := hOa
  obtain ⟨Ga, ca, psa, rfl, -⟩ := hNa
  clear hba
  go_wp2_with fail
  refine (HSPEC.out _ _ HAa.out).mono ?_
  rintro e wc ⟨lvS, rfl, hLS, hbc⟩
  have HSc := Lib.hid hLS
  have HBc := Lib.hid (HBa.out.trans (hbc.mono HBa.out.size))
  have KAc := Lib.hid ((hbc.block w.heap.size (lt_of_heap KAa.out)).trans KAa.out)
  have KAcc0 : wc.cell? ⟨w.heap.size, 0, none⟩ = some (.slice o f.nodes.length c) := cell_blk KAc.out 0
  have KAcc1 : wc.cell? ⟨w.heap.size, 1, none⟩ = some (.int .i64 f.room) := cell_blk KAc.out 1
  clear hLS hbc
  go_wp2_with fail
  refine (toFs_any f _ _ (HR.out.below HBc.out) hsz).mono ?_
  rintro e w4 ⟨u4, rfl, hO4, hb4⟩
  have HB4 := Lib.hid (HBc.out.trans (hb4.mono HBc.out.size))
  have KA4 := Lib.hid ((hb4.block w.heap.size (lt_of_heap KAc.out)).trans KAc.out)
  have KA4c0 : w4.cell? ⟨w.heap.size, 0, none⟩ = some (.slice o f.nodes.length c) := cell_blk KA4.out 0
  have KA4c1 : w4.cell? ⟨w.heap.size, 1, none⟩ = some (.int .i64 f.room) := cell_blk KA4.out 1
  have HC4 := Lib.hid hb4
  have HO4 := Lib.hid hO4
  have HA4 := Lib.hid (hO4.read HFIT.out)
  obtain ⟨nv4, rfl, hN4⟩ := hO4
  obtain ⟨G4, c4, ps4, rfl, -⟩ := hN4
  have hbx : Below w4.heap.size w4 (w4.alloc (.cells #[.slice (some ⟨G4, 0, none⟩) f.nodes.length c4, .int .i64 f.room] 31)) := (Below.refl _ _).alloc (Nat.le_refl _) _
  have hs4 := HB4.out.size
  have KX0 := Lib.hid (heap_alloc_new w4 (.cells #[.slice (some ⟨G4, 0, none⟩) f.nodes.length c4, .int .i64 f.room] 31))
  have HBx := Lib.hid (HB4.out.trans (hbx.mono hs4))
  have H4x := Lib.hid hbx
  have HCx := Lib.hid (HC4.out.trans (hbx.mono HC4.out.size))
  have KAx := Lib.hid ((hbx.block w.heap.size (lt_of_heap KA4.out)).trans KA4.out)
  have HAx := Lib.hid (HA4.out.below hbx)
  obtain ⟨wx, hwx⟩ : ∃ wx, w4.alloc (.cells #[.slice (some ⟨G4, 0, none⟩) f.nodes.length c4, .int .i64 f.room] 31) = wx := ⟨_, rfl⟩
  have HWX := Lib.hid hwx
  rw [hwx] at KX0 HBx KAx HAx H4x HCx
  have KXx := KX0
  have KAxc0 : wx.cell? ⟨w.heap.size, 0, none⟩ = some (.slice o f.nodes.length c) := cell_blk KAx.out 0
  have KAxc1 : wx.cell? ⟨w.heap.size, 1, none⟩ = some (.int .i64 f.room) := cell_blk KAx.out 1
  have KXxc0 : wx.cell? ⟨w4.heap.size, 0, none⟩ = some (.slice (some ⟨G4, 0, none⟩) f.nodes.length c4) := cell_blk KXx.out 0
  have KXxc1 : wx.cell? ⟨w4.heap.size, 1, none⟩ = some (.int .i64 f.room) := cell_blk KXx.out 1
  clear hb4 hbx hwx
  go_wp2_with fail
  rw [HWX.out]
  refine (HIMPL.out _ _ HAx.out).mono ?_
  rintro e wf ⟨lvG, rfl, hLG, hbf⟩
  have HLGf := Lib.hid hLG
  have HSZf := Lib.hid hbf.size
  have HAf := Lib.hid (HAx.out.below hbf)
  have HBf := Lib.hid (HBx.out.trans (hbf.mono HBx.out.size))
  have KAf := Lib.hid ((hbf.block w.heap.size (lt_of_heap KAx.out)).trans KAx.out)
  have KXf := Lib.hid ((hbf.block w4.heap.size (lt_of_heap KXx.out)).trans KXx.out)
  have KAfc0 : wf.cell? ⟨w.heap.size, 0, none⟩ = some (.slice o f.nodes.length c) := cell_blk KAf.out 0
  have KAfc1 : wf.cell? ⟨w.heap.size, 1, none⟩ = some (.int .i64 f.room) := cell_blk KAf.out 1
  have KXfc0 : wf.cell? ⟨w4.heap.size, 0, none⟩ = some (.slice (some ⟨G4, 0, none⟩) f.nodes.length c4) := cell_blk KXf.out 0
  have KXfc1 : wf.cell? ⟨w4.heap.size, 1, none⟩ = some (.int .i64 f.room) := cell_blk KXf.out 1
  have H4f := Lib.hid (H4x.out.trans (hbf.mono H4x.out.size))
  have HCf := Lib.hid (HCx.out.trans (hbf.mono HCx.out.size))
  clear hLG hbf
  have HSf := Lib.hid (HSc.out.below HCf.out)
  go_wp2_with fail
  refine (eqIntS_same _ _ _ _ HLGf.out.read HSf.out).mono ?_
  rintro e wg ⟨rfl, hbg⟩
  have HBg := Lib.hid (HBf.out.trans (hbg.mono HBf.out.size))
  have KAg := Lib.hid ((hbg.block w.heap.size (lt_of_heap KAf.out)).trans KAf.out)
  have KXg := Lib.hid ((hbg.block w4.heap.size (lt_of_heap KXf.out)).trans KXf.out)
  have KAgc0 : wg.cell? ⟨w.heap.size, 0, none⟩ = some (.slice o f.nodes.length c) := cell_blk KAg.out 0
  have KAgc1 : wg.cell? ⟨w.heap.size, 1, none⟩ = some (.int .i64 f.room) := cell_blk KAg.out 1
  have KXgc0 : wg.cell? ⟨w4.heap.size, 0, none⟩ = some (.slice (some ⟨G4, 0, none⟩) f.nodes.length c4) := cell_blk KXg.out 0
  have KXgc1 : wg.cell? ⟨w4.heap.size, 1, none⟩ = some (.int .i64 f.room) := cell_blk KXg.out 1
  have H4g := Lib.hid (H4f.out.trans (hbg.mono H4f.out.size))
  have HCg := Lib.hid (HCf.out.trans (hbg.mono HCf.out.size))
  have HAg := Lib.hid (HAf.out.below hbg)
  have HLGg := Lib.hid (lstI_below HLGf.out hbg)
  have HSZg := Lib.hid (Nat.le_trans HSZf.out hbg.size)
  have HSZgd : Hid (wx.heap.size ≤ wg.drew.heap.size) := Lib.hid HSZg.out
  have HBgd := Lib.hid HBg.out.drew
  have KAgd : Hid (wg.drew.heap[w.heap.size]? = _) := Lib.hid KAg.out
  have KXgd : Hid (wg.drew.heap[w4.heap.size]? = _) := Lib.hid KXg.out
  have H4gd := Lib.hid H4g.out.drew
  have HCgd := Lib.hid HCg.out.drew
  have HAgd := Lib.hid (HAg.out.below (Below.refl _ wg).drew)
  have HLGgd := Lib.hid (lstI_below HLGg.out (Below.refl _ wg).drew)
  clear hbg
  go_wp2
  go_region_held3 (fun w' => w'.cell? ⟨w.heap.size, 0, none⟩ = some (.slice o f.nodes.length c) ∧ w'.cell? ⟨w.heap.size, 1, none⟩ = some (.int .i64 f.room) ∧ w'.cell? ⟨w4.heap.size, 0, none⟩ = some (.slice (some ⟨G4, 0, none⟩) f.nodes.length c4) ∧ w'.cell? ⟨w4.heap.size, 1, none⟩ = some (.int .i64 f.room)) (first | exact ⟨KAgc0, KAgc1, KXgc0, KXgc1⟩ | exact ⟨KAic0, KAic1, KXic0, KXic1⟩ | exact ⟨KAjc0, KAjc1, KXjc0, KXjc1⟩)
    (first
      | (go_at_call 9; refine (toFs_any f _ _ (HR.out.below HBgd.out) hsz).mono ?_; rintro e wi ⟨ui, rfl, hOi, hbi⟩; have HDi := Lib.hid (hOi.read HFIT.out); have HAi := Lib.hid (HAgd.out.below hbi); have HLGi := Lib.hid (lstI_below HLGgd.out hbi); have HSZi := Lib.hid (Nat.le_trans HSZgd.out hbi.size); have HBi := Lib.hid (HBgd.out.trans (hbi.mono HBgd.out.size)); have KAi := Lib.hid ((hbi.block w.heap.size (lt_of_heap KAgd.out)).trans KAgd.out); have KXi := Lib.hid ((hbi.block w4.heap.size (lt_of_heap KXgd.out)).trans KXgd.out); have KAic0 : wi.cell? ⟨w.heap.size, 0, none⟩ = some (.slice o f.nodes.length c) := cell_blk KAi.out 0; have KAic1 : wi.cell? ⟨w.heap.size, 1, none⟩ = some (.int .i64 f.room) := cell_blk KAi.out 1; have KXic0 : wi.cell? ⟨w4.heap.size, 0, none⟩ = some (.slice (some ⟨G4, 0, none⟩) f.nodes.length c4) := cell_blk KXi.out 0; have KXic1 : wi.cell? ⟨w4.heap.size, 1, none⟩ = some (.int .i64 f.room) := cell_blk KXi.out 1; have H4i := Lib.hid (H4gd.out.trans (hbi.mono H4gd.out.size)); have HCi := Lib.hid (HCgd.out.trans (hbi.mono HCgd.out.size)); clear hOi hbi)
      | (go_at_call 12; refine (eqFs_same f _ _ _ HAi.out HDi.out).mono ?_; rintro e wj ⟨rfl, hbj⟩; have HLGj := Lib.hid (lstI_below HLGi.out hbj); have HSZj := Lib.hid (Nat.le_trans HSZi.out hbj.size); have HBj := Lib.hid (HBi.out.trans (hbj.mono HBi.out.size)); have KAj := Lib.hid ((hbj.block w.heap.size (lt_of_heap KAi.out)).trans KAi.out); have KXj := Lib.hid ((hbj.block w4.heap.size (lt_of_heap KXi.out)).trans KXi.out); have KAjc0 : wj.cell? ⟨w.heap.size, 0, none⟩ = some (.slice o f.nodes.length c) := cell_blk KAj.out 0; have KAjc1 : wj.cell? ⟨w.heap.size, 1, none⟩ = some (.int .i64 f.room) := cell_blk KAj.out 1; have KXjc0 : wj.cell? ⟨w4.heap.size, 0, none⟩ = some (.slice (some ⟨G4, 0, none⟩) f.nodes.length c4) := cell_blk KXj.out 0; have KXjc1 : wj.cell? ⟨w4.heap.size, 1, none⟩ = some (.int .i64 f.room) := cell_blk KXj.out 1; have H4j := Lib.hid (H4i.out.trans (hbj.mono H4i.out.size)); have HCj := Lib.hid (HCi.out.trans (hbj.mono HCi.out.size)); clear hbj))
  all_goals
    go_wp2_with fail
    refine (markFs_own f _ wc.heap.size w4 _ HO4.out H4j.out HC4.out.size hsz).mono ?_
    rintro e wk ⟨mk, hmk0, hmk1, rfl, hbk, huk⟩
    have HJK := Lib.hid hbk.size
    have HLGk := Lib.hid (lstI_up HLGj.out H4x.out.size hbk.size huk)
    have HCk := Lib.hid (HCj.out.trans hbk)
    have hcw := HBc.out.size
    have HBk := Lib.hid (HBj.out.trans (hbk.mono hcw))
    have HSk := Lib.hid (HSc.out.below HCk.out)
    have KAk := Lib.hid ((hbk.block w.heap.size (Nat.lt_of_lt_of_le (lt_of_heap KAc.out) (Nat.le_refl _))).trans KAj.out)
    clear hbk huk
    go_wp2_with fail
    refine (eqIntS_same _ _ _ _ HLGk.out.read HSk.out).mono ?_
    rintro e wl ⟨rfl, hbl⟩
    have HBl := Lib.hid (HBk.out.trans (hbl.mono HBk.out.size))
    have HCl := Lib.hid (HCk.out.trans (hbl.mono HCk.out.size))
    have KAl := Lib.hid ((hbl.block w.heap.size (lt_of_heap KAk.out)).trans KAk.out)
    have HLGl := Lib.hid (lstI_below HLGk.out hbl)
    have hel : wx.heap.size ≤ wl.heap.size := Nat.le_trans HSZj.out (Nat.le_trans HJK.out hbl.size)
    clear hbl
    go_wp2_with fail
    refine (markIntS_any _ _ _ 1 _ HLGl.out hel (by have := HPL.out; omega)).mono ?_
    rintro e wm ⟨rfl, hLm, hbm⟩
    have hwe : w.heap.size + 1 ≤ wx.heap.size := by have := lt_of_heap KAx.out; omega
    have HBm := Lib.hid (HBl.out.trans (hbm.mono (by omega)))
    have HCm := Lib.hid (HCl.out.trans (hbm.mono HCx.out.size))
    have KAm := Lib.hid ((hbm.block w.heap.size (by omega)).trans KAl.out)
    have HRm := Lib.hid hLm.read
    clear hLm hbm
    obtain ⟨n, hn⟩ : ∃ n, n = ps.length := ⟨_, rfl⟩
    have HN9 : Hid (n ≤ 50000000) := Lib.hid (by rw [hn]; exact HPL.out)
    rw [← hn] at HRm ⊢
    clear hn
    have hn9 := HN9.out
    go_wp2_with fail
    refine (heldIntS_some n 1 _ _ HRm.out (by omega)).mono ?_
    rintro e wn ⟨rfl, hbn⟩
    have HRn := Lib.hid (HRm.out.below hbn)
    have HBn := Lib.hid (HBm.out.trans (hbn.mono HBm.out.size))
    have KAn := Lib.hid ((hbn.block w.heap.size (lt_of_heap KAm.out)).trans KAm.out)
    have KAnc0 : wn.cell? ⟨w.heap.size, 0, none⟩ = some (.slice o f.nodes.length c) := cell_blk KAn.out 0
    have KAnc1 : wn.cell? ⟨w.heap.size, 1, none⟩ = some (.int .i64 f.room) := cell_blk KAn.out 1
    have HCn := Lib.hid (HCm.out.trans (hbn.mono HCm.out.size))
    clear hbn
    go_wp2_with fail
    refine (toFs_any f _ _ (HR.out.below HBn.out) hsz).mono ?_
    rintro e wp ⟨up, rfl, hOp, hbp⟩
    have HAp := Lib.hid (hOp.read HFIT.out)
    have HRp := Lib.hid (HRn.out.below hbp)
    have HBp := Lib.hid (HBn.out.trans (hbp.mono HBn.out.size))
    have KAp := Lib.hid ((hbp.block w.heap.size (lt_of_heap KAn.out)).trans KAn.out)
    have KApc0 : wp.cell? ⟨w.heap.size, 0, none⟩ = some (.slice o f.nodes.length c) := cell_blk KAp.out 0
    have KApc1 : wp.cell? ⟨w.heap.size, 1, none⟩ = some (.int .i64 f.room) := cell_blk KAp.out 1
    have HCp := Lib.hid (HCn.out.trans (hbp.mono HCn.out.size))
    obtain ⟨nvp, rfl, hNp⟩ := hOp
    obtain ⟨Gp, cp, psp, rfl, -⟩ := hNp
    clear hbp
    go_wp2_with fail
    refine (HIMPL.out _ _ HAp.out).mono ?_
    rintro e wr ⟨lvH, rfl, hLH, hbr⟩
    have HRr := Lib.hid (HRp.out.below hbr)
    have HHr := Lib.hid hLH.read
    have HBr := Lib.hid (HBp.out.trans (hbr.mono HBp.out.size))
    have KAr := Lib.hid ((hbr.block w.heap.size (lt_of_heap KAp.out)).trans KAp.out)
    have KArc0 : wr.cell? ⟨w.heap.size, 0, none⟩ = some (.slice o f.nodes.length c) := cell_blk KAr.out 0
    have KArc1 : wr.cell? ⟨w.heap.size, 1, none⟩ = some (.int .i64 f.room) := cell_blk KAr.out 1
    have HCr := Lib.hid (HCp.out.trans (hbr.mono HCp.out.size))
    clear hLH hbr
    have HSr := Lib.hid (HSc.out.below HCr.out)
    go_wp2_with fail
    refine (eqIntS_same _ _ _ _ HHr.out HSr.out).mono ?_
    rintro e wt ⟨rfl, hbt⟩
    have HBt := Lib.hid (HBr.out.trans (hbt.mono HBr.out.size))
    have HRt := Lib.hid (HRr.out.below hbt)
    clear hbt
    go_wp2_with fail
    refine (heldIntS_some n 1 _ _ HRt.out (by omega)).mono ?_
    rintro e wu ⟨rfl, hbu⟩
    have HBu := Lib.hid (HBt.out.trans (hbu.mono HBt.out.size))
    clear hbu
    go_wp2
    go_ret
    exact ⟨rfl, HBu.out⟩

theorem own : ownKnob Try.prog.godebug = none := by kernel_rfl
theorem laidOut : laidOutB Try.prog = true := by kernel_rfl

set_option maxRecDepth 100000 in
theorem lifted (os : Os) (started : os.Started) (H : Type) (enc : TypeId × Value → H) :
    ReturnsInHanded {} Try.checked os 5 .any (Rows.fnExactNodesBelowSpec.pre6 enc Try.prog Try.f5 Rows.fnExactNodesBelowRow.domain false) (Rows.fnExactNodesBelowSpec.post enc Try.prog Try.f5 false true false false) := by
  refine returnsInHanded_of_change (C := Try.checked) own started (by kernel_rfl) Try.func5
    (ChangeSpec.witness6 (enc := enc) (C := Try.checked) false ⟨#[], #[.agg #[.slice none 0 0, .int .i64 0], .int .i64 0], []⟩ 8 (by kernel_rfl) (by kernel_rfl) (by kernel_rfl) (by kernel_rfl)) ?_
  intro W base args ds gs before hval0 hW hcnd _
  have hval : ∀ (j : Nat) t v, Try.f5.params[j]? = some t → args[j]? = some v → Value.okWide Try.prog W .any base t v := hval0
  have hW' := hW
  obtain ⟨p, q, hA0, hV, rfl, hfz, hnd⟩ := hW
  have hA : DataW.TrodAll enc Try.prog W 0 (fun _ => true) true Try.f5.params.toList args.toList ds p := hA0
  rw [Try.params5] at hA hval
  obtain ⟨v0, vs0, d0, ds0, p0, q0, hargs, rfl, rfl, h0, r0⟩ := trodAll_cons hA
  obtain ⟨v1, vs1, d1, ds1, p1, q1, rfl, rfl, rfl, h1, r1⟩ := trodAll_cons r0
  obtain ⟨rfl, rfl, rfl⟩ := trodAll_nil r1
  obtain rfl : args = #[v0, v1] := by cases args; simp_all
  obtain ⟨rfl, rfl⟩ := trodVars_none hV
  obtain ⟨f0, hR0, hF0⟩ := open_fsA (hval 0 24 v0 rfl rfl) h0
  obtain ⟨a1, rfl, rfl, rfl, w1⟩ := open_int Try.underlying3 (hval 1 3 v1 rfl rfl) h1
  refine (walk f0 v0 a1 W hR0).mono fun e W' ⟨he, hb⟩ => ?_
  subst he
  exact ⟨_, rfl, law_post laidOut (by kernel_rfl) (by kernel_rfl) (by kernel_rfl) Try.underlying4 hW' rfl hb⟩

theorem over : Rows.fnExactNodesBelowRow.holds Try.pinned (OpenSpec.ofChange Rows.fnExactNodesBelowSpec) :=
  OpenClaim.holds_of_wide 5 Try.f5 rfl rfl rfl rfl rfl rfl rfl ⟨rfl, rfl, rfl, rfl, rfl⟩ rfl rfl rfl rfl rfl (by kernel_rfl) Try.func5 (by kernel_rfl)
    (of_decide_eq_true (by kernel_rfl)) (by unfold Func.isWrapper; first | (rw [if_pos (by decide +kernel)]; kernel_rfl) | (rw [if_neg (by decide +kernel)]; exact ⟨rfl, rfl⟩))
    (fun os started H enc _ => lifted os started H enc)

theorem proved : Rows.FnExactNodesBelowSaid :=
  over
#print axioms proved
end Go.Proofs.Ytbmbbioanlcioaa.fnExactNodesBelow
