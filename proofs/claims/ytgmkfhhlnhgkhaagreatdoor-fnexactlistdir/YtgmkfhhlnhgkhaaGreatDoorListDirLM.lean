import Derived.ChangeMaps5
import Derived.Deep.RegionHeld3
import Derived.Test.YtgmkfhhlnhgkhaaGreatDoorLib2
import Derived.Test.YtgmkfhhlnhgkhaaGreatDoorLib10
import Derived.Test.YtgmkfhhlnhgkhaaGreatDoorLib15
import Derived.Test.YtgmkfhhlnhgkhaaGreatDoorLib18

/-
  For every file system, cred and path the law FnExactListDir returns true (impl.ListDir answers as its model, in memory of its own, and writes into no argument) and its arguments read as before.
  Conditions: none beyond the row's own form.
-/
namespace Go.Proofs.YtgmkfhhlnhgkhaaGreatDoor.fnExactListDir
open Go.ChangeShapes Go.WideShapes Go.ChangeAt Go.RowKit Go.Joins
set_option linter.unusedVariables false

theorem lst_up {w w' : World} {R E : Nat} {v : Value} {ps : List (List UInt8)} (h : Lst w R v ps) (hE : E ≤ R) (hs : w.heap.size ≤ w'.heap.size) (hu : ∀ i, E ≤ i → i < w.heap.size → w'.heap[i]? = w.heap[i]?) : Lst w' R v ps := by
  rcases h with ⟨hl, h0 | ⟨g, cap, cur, e, hB, hg, r⟩⟩
  · exact ⟨hl, .inl h0⟩
  · exact ⟨hl, .inr ⟨g, cap, cur, e, hB, (hu g (Nat.le_trans hE hB) (lt_of_heap hg)).trans hg, r⟩⟩
theorem ldL_len {f : FsD} (u g : Int) (l : List UInt8) (h : szF f ≤ 1048576) : (ldL f u g l).length ≤ 1048576 := by
  unfold ldL
  split
  · rw [names_len]
    by_cases hi : (dirF f.nodes u g l).2 < f.nodes.length
    · have h9 := (lists_small h).2 f.nodes[(dirF f.nodes u g l).2] (List.getElem_mem hi)
      have hqe : f.nodes[(dirF f.nodes u g l).2] = nodeAt f.nodes (dirF f.nodes u g l).2 := (getD_at hi).symm
      rw [hqe] at h9
      exact h9.1
    · unfold nodeAt
      simp [List.getD, List.getElem?_eq_none (Nat.le_of_not_lt hi)]
  · simp
set_option maxRecDepth 100000 in
set_option maxHeartbeats 8000000 in
theorem walk (f : FsD) (v : Value) (u g : Int) (s : ByteArray) (hsm : s.size ≤ maxLen) (w : World) (hR : FsA w v f) (hE : ErrT w) : Calls Tryz.prog 9 #[v, .agg #[.int .i64 u, .int .i64 g], .string s] w fun e w' => e = .returned (.bool true) ∧ Below w.heap.size w w' := by
  have HR := Lib.hid hR
  have HET := Lib.hid hE
  clear hE
  obtain ⟨nv, rfl, hN⟩ := hR
  have HFIT := Lib.hid hN.fit
  obtain ⟨o, c, rfl, -, -⟩ := hN
  have HB0 : Hid (Below w.heap.size w ((w.alloc (.cells #[.slice o f.nodes.length c, .int .i64 f.room] 67)).alloc (.cells #[.int .i64 u, .int .i64 g] 68))) := Lib.hid (((Below.refl _ _).alloc (Nat.le_refl _) _).alloc (by simp) _)
  have KA0 := Lib.hid (alloc3_fst' w (.cells #[.slice o f.nodes.length c, .int .i64 f.room] 67) (.cells #[.int .i64 u, .int .i64 g] 68))
  have KB0 := Lib.hid (alloc3_snd' w (.cells #[.slice o f.nodes.length c, .int .i64 f.room] 67) (.cells #[.int .i64 u, .int .i64 g] 68))
  unfold maxLen at hsm
  by_cases hp : s.size ≤ 1048576
  case neg =>
    have hp2 : (1048576 : Int) < (s.size : Int) := by omega
    go_enter Tryz.func9, Tryz.ntmps9
    go_wp2
    go_ret
    exact ⟨rfl, HB0.out⟩
  have hp2 : ¬ ((1048576 : Int) < (s.size : Int)) := by omega
  by_cases hs : ((szF f : Nat) : Int) ≤ 1048576
  case neg =>
    have HQ := Lib.hid (less_no hs)
    go_enter Tryz.func9, Tryz.ntmps9
    go_wp2_with fail
    refine (szFs_any f _ _ 1048576 (HR.out.below HB0.out) (by omega) (by omega)).mono ?_
    rintro e w1 ⟨rfl, hb1⟩
    rw [HQ.out]
    have HB1 := Lib.hid (HB0.out.trans (hb1.mono HB0.out.size))
    clear hb1
    go_wp2
    go_ret
    exact ⟨rfl, HB1.out⟩
  have HQ := Lib.hid (less_yes hs)
  have h4 : 0 ≤ (1048576 : Int) - ((szF f : Nat) : Int) := by omega
  have hsz : szF f ≤ 1048576 := by omega
  have HPL := Lib.hid (ldL_len u g s.data.toList hsz)
  obtain ⟨ps, hps⟩ : ∃ ps, ps = (ldL f u g s.data.toList) := ⟨_, rfl⟩
  have HPS := Lib.hid hps
  rw [← hps] at HPL
  have HSPEC : Hid (∀ v9 w9, FsA w9 v9 f → Calls Tryz.prog 42 #[v9, .agg #[.int .i64 u, .int .i64 g], .string s] w9 fun e w' => ∃ lv, e = .returned (.tuple #[lv, .int .i64 (ldC f u g s.data.toList), .bool (askB4 f u g)]) ∧ Lst w' w9.heap.size lv ps ∧ Below w9.heap.size w9 w') := Lib.hid (fun v9 w9 h9 => by rw [hps]; exact specListDir_any f v9 u g s w9 h9 hsz hp)
  have HIMPL : Hid (∀ v9 w9, FsA w9 v9 f → ErrT w9 → Calls Tryz.prog 41 #[v9, .agg #[.int .i64 u, .int .i64 g], .string s] w9 fun e w' => ∃ lv, e = .returned (.tuple #[lv, .int .i64 (ldC f u g s.data.toList), .bool (askB4 f u g)]) ∧ Lst w' w9.heap.size lv ps ∧ Below w9.heap.size w9 w') := Lib.hid (fun v9 w9 h9 h8 => by rw [hps]; exact listDir_any f v9 u g s w9 h9 hsz hp h8)
  clear hps
  go_enter Tryz.func9, Tryz.ntmps9
  go_wp2_with fail
  refine (szFs_any f _ _ 1048576 (HR.out.below HB0.out) (by omega) (by omega)).mono ?_
  rintro e w1 ⟨rfl, hb1⟩
  rw [HQ.out]
  have HB1 := Lib.hid (HB0.out.trans (hb1.mono HB0.out.size))
  have KA1 := Lib.hid ((hb1.block w.heap.size (lt_of_heap KA0.out)).trans KA0.out)
  have KB1 := Lib.hid ((hb1.block (w.heap.size + 1) (lt_of_heap KB0.out)).trans KB0.out)
  have KA1c0 : w1.cell? ⟨w.heap.size, 0, none⟩ = some (.slice o f.nodes.length c) := cell_blk KA1.out 0
  have KA1c1 : w1.cell? ⟨w.heap.size, 1, none⟩ = some (.int .i64 f.room) := cell_blk KA1.out 1
  have KB1c0 : w1.cell? ⟨w.heap.size + 1, 0, none⟩ = some (.int .i64 u) := cell_blk KB1.out 0
  have KB1c1 : w1.cell? ⟨w.heap.size + 1, 1, none⟩ = some (.int .i64 g) := cell_blk KB1.out 1
  have HB1d := Lib.hid HB1.out.drew
  have KA1d : Hid (w1.drew.heap[w.heap.size]? = _) := Lib.hid KA1.out
  have KB1d : Hid (w1.drew.heap[(w.heap.size + 1)]? = _) := Lib.hid KB1.out
  clear hb1
  go_wp2
  go_region_held3 (fun w' => w'.cell? ⟨w.heap.size, 0, none⟩ = some (.slice o f.nodes.length c) ∧ w'.cell? ⟨w.heap.size, 1, none⟩ = some (.int .i64 f.room) ∧ w'.cell? ⟨w.heap.size + 1, 0, none⟩ = some (.int .i64 u) ∧ w'.cell? ⟨w.heap.size + 1, 1, none⟩ = some (.int .i64 g)) (first | exact ⟨KA1c0, KA1c1, KB1c0, KB1c1⟩ | exact ⟨KAac0, KAac1, KBac0, KBac1⟩ | exact ⟨KAbc0, KAbc1, KBbc0, KBbc1⟩ | exact ⟨KAcc0, KAcc1, KBcc0, KBcc1⟩)
    (first
      | (go_at_call 53; refine (toFs_any f _ _ (HR.out.below HB1d.out) hsz).mono ?_; rintro e wa ⟨ua, rfl, hOa, hba⟩; have HAa := Lib.hid (hOa.read HFIT.out); have HBa := Lib.hid (HB1d.out.trans (hba.mono HB1d.out.size)); have KAa := Lib.hid ((hba.block w.heap.size (lt_of_heap KA1d.out)).trans KA1d.out); have KBa := Lib.hid ((hba.block (w.heap.size + 1) (lt_of_heap KB1d.out)).trans KB1d.out); have KAac0 : wa.cell? ⟨w.heap.size, 0, none⟩ = some (.slice o f.nodes.length c) := cell_blk KAa.out 0; have KAac1 : wa.cell? ⟨w.heap.size, 1, none⟩ = some (.int .i64 f.room) := cell_blk KAa.out 1; have KBac0 : wa.cell? ⟨w.heap.size + 1, 0, none⟩ = some (.int .i64 u) := cell_blk KBa.out 0; have KBac1 : wa.cell? ⟨w.heap.size + 1, 1, none⟩ = some (.int .i64 g) := cell_blk KBa.out 1; obtain ⟨nva, rfl, hNa⟩ := hOa; obtain ⟨Ga, ca, psa, rfl, -⟩ := hNa; clear hba)
      | (go_at_call 54; refine (toCred_any u g _).mono ?_; rintro e wb ⟨rfl, hbb⟩; have HAb := Lib.hid (HAa.out.below hbb); have HBb := Lib.hid (HBa.out.trans (hbb.mono HBa.out.size)); have KAb := Lib.hid ((hbb.block w.heap.size (lt_of_heap KAa.out)).trans KAa.out); have KBb := Lib.hid ((hbb.block (w.heap.size + 1) (lt_of_heap KBa.out)).trans KBa.out); have KAbc0 : wb.cell? ⟨w.heap.size, 0, none⟩ = some (.slice o f.nodes.length c) := cell_blk KAb.out 0; have KAbc1 : wb.cell? ⟨w.heap.size, 1, none⟩ = some (.int .i64 f.room) := cell_blk KAb.out 1; have KBbc0 : wb.cell? ⟨w.heap.size + 1, 0, none⟩ = some (.int .i64 u) := cell_blk KBb.out 0; have KBbc1 : wb.cell? ⟨w.heap.size + 1, 1, none⟩ = some (.int .i64 g) := cell_blk KBb.out 1; clear hbb)
      | (go_at_call 42; refine (HSPEC.out _ _ HAb.out).mono ?_; rintro e wc ⟨lvS, rfl, hLS, hbc⟩; have HSc := Lib.hid hLS.read; have HBc := Lib.hid (HBb.out.trans (hbc.mono HBb.out.size)); have KAc := Lib.hid ((hbc.block w.heap.size (lt_of_heap KAb.out)).trans KAb.out); have KBc := Lib.hid ((hbc.block (w.heap.size + 1) (lt_of_heap KBb.out)).trans KBb.out); have KAcc0 : wc.cell? ⟨w.heap.size, 0, none⟩ = some (.slice o f.nodes.length c) := cell_blk KAc.out 0; have KAcc1 : wc.cell? ⟨w.heap.size, 1, none⟩ = some (.int .i64 f.room) := cell_blk KAc.out 1; have KBcc0 : wc.cell? ⟨w.heap.size + 1, 0, none⟩ = some (.int .i64 u) := cell_blk KBc.out 0; have KBcc1 : wc.cell? ⟨w.heap.size + 1, 1, none⟩ = some (.int .i64 g) := cell_blk KBc.out 1; clear hLS hbc))
  go_wp2_with fail
  refine (toFs_any f _ _ (HR.out.below HBc.out) hsz).mono ?_
  rintro e w4 ⟨u4, rfl, hO4, hb4⟩
  have HB4 := Lib.hid (HBc.out.trans (hb4.mono HBc.out.size))
  have KA4 := Lib.hid ((hb4.block w.heap.size (lt_of_heap KAc.out)).trans KAc.out)
  have KB4 := Lib.hid ((hb4.block (w.heap.size + 1) (lt_of_heap KBc.out)).trans KBc.out)
  have KA4c0 : w4.cell? ⟨w.heap.size, 0, none⟩ = some (.slice o f.nodes.length c) := cell_blk KA4.out 0
  have KA4c1 : w4.cell? ⟨w.heap.size, 1, none⟩ = some (.int .i64 f.room) := cell_blk KA4.out 1
  have KB4c0 : w4.cell? ⟨w.heap.size + 1, 0, none⟩ = some (.int .i64 u) := cell_blk KB4.out 0
  have KB4c1 : w4.cell? ⟨w.heap.size + 1, 1, none⟩ = some (.int .i64 g) := cell_blk KB4.out 1
  have HC4 := Lib.hid hb4
  have HO4 := Lib.hid hO4
  have HA4 := Lib.hid (hO4.read HFIT.out)
  obtain ⟨nv4, rfl, hN4⟩ := hO4
  obtain ⟨G4, c4, ps4, rfl, -⟩ := hN4
  have hbx : Below w4.heap.size w4 (w4.alloc (.cells #[.slice (some ⟨G4, 0, none⟩) f.nodes.length c4, .int .i64 f.room] 26)) := (Below.refl _ _).alloc (Nat.le_refl _) _
  have hs4 := HB4.out.size
  have KX0 := Lib.hid (heap_alloc_new w4 (.cells #[.slice (some ⟨G4, 0, none⟩) f.nodes.length c4, .int .i64 f.room] 26))
  have HBx := Lib.hid (HB4.out.trans (hbx.mono hs4))
  have H4x := Lib.hid hbx
  have HCx := Lib.hid (HC4.out.trans (hbx.mono HC4.out.size))
  have KAx := Lib.hid ((hbx.block w.heap.size (lt_of_heap KA4.out)).trans KA4.out)
  have KBx := Lib.hid ((hbx.block (w.heap.size + 1) (lt_of_heap KB4.out)).trans KB4.out)
  have HAx := Lib.hid (HA4.out.below hbx)
  obtain ⟨wx, hwx⟩ : ∃ wx, w4.alloc (.cells #[.slice (some ⟨G4, 0, none⟩) f.nodes.length c4, .int .i64 f.room] 26) = wx := ⟨_, rfl⟩
  have HWX := Lib.hid hwx
  rw [hwx] at KX0 HBx KAx KBx HAx H4x HCx
  have KXx := KX0
  have KAxc0 : wx.cell? ⟨w.heap.size, 0, none⟩ = some (.slice o f.nodes.length c) := cell_blk KAx.out 0
  have KAxc1 : wx.cell? ⟨w.heap.size, 1, none⟩ = some (.int .i64 f.room) := cell_blk KAx.out 1
  have KBxc0 : wx.cell? ⟨w.heap.size + 1, 0, none⟩ = some (.int .i64 u) := cell_blk KBx.out 0
  have KBxc1 : wx.cell? ⟨w.heap.size + 1, 1, none⟩ = some (.int .i64 g) := cell_blk KBx.out 1
  have KXxc0 : wx.cell? ⟨w4.heap.size, 0, none⟩ = some (.slice (some ⟨G4, 0, none⟩) f.nodes.length c4) := cell_blk KXx.out 0
  have KXxc1 : wx.cell? ⟨w4.heap.size, 1, none⟩ = some (.int .i64 f.room) := cell_blk KXx.out 1
  have HBxd := Lib.hid HBx.out.drew
  have KAxd : Hid (wx.drew.heap[w.heap.size]? = _) := Lib.hid KAx.out
  have KBxd : Hid (wx.drew.heap[(w.heap.size + 1)]? = _) := Lib.hid KBx.out
  have KXxd : Hid (wx.drew.heap[w4.heap.size]? = _) := Lib.hid KXx.out
  have H4xd := Lib.hid H4x.out.drew
  have HCxd := Lib.hid HCx.out.drew
  have HAxd := Lib.hid (HAx.out.below (Below.refl _ wx).drew)
  clear hb4 hbx hwx
  go_wp2
  rw [HWX.out]
  go_region_held3 (fun w' => w'.cell? ⟨w.heap.size, 0, none⟩ = some (.slice o f.nodes.length c) ∧ w'.cell? ⟨w.heap.size, 1, none⟩ = some (.int .i64 f.room) ∧ w'.cell? ⟨w.heap.size + 1, 0, none⟩ = some (.int .i64 u) ∧ w'.cell? ⟨w.heap.size + 1, 1, none⟩ = some (.int .i64 g) ∧ w'.cell? ⟨w4.heap.size, 0, none⟩ = some (.slice (some ⟨G4, 0, none⟩) f.nodes.length c4) ∧ w'.cell? ⟨w4.heap.size, 1, none⟩ = some (.int .i64 f.room)) (first | exact ⟨KAxc0, KAxc1, KBxc0, KBxc1, KXxc0, KXxc1⟩ | exact ⟨KAec0, KAec1, KBec0, KBec1, KXec0, KXec1⟩ | exact ⟨KAfc0, KAfc1, KBfc0, KBfc1, KXfc0, KXfc1⟩)
    (first
      | (go_at_call 54; refine (toCred_any u g _).mono ?_; rintro e we ⟨rfl, hbe⟩; have HAe := Lib.hid (HAxd.out.below hbe); have HBe := Lib.hid (HBxd.out.trans (hbe.mono HBxd.out.size)); have KAe := Lib.hid ((hbe.block w.heap.size (lt_of_heap KAxd.out)).trans KAxd.out); have KBe := Lib.hid ((hbe.block (w.heap.size + 1) (lt_of_heap KBxd.out)).trans KBxd.out); have KXe := Lib.hid ((hbe.block w4.heap.size (lt_of_heap KXxd.out)).trans KXxd.out); have KAec0 : we.cell? ⟨w.heap.size, 0, none⟩ = some (.slice o f.nodes.length c) := cell_blk KAe.out 0; have KAec1 : we.cell? ⟨w.heap.size, 1, none⟩ = some (.int .i64 f.room) := cell_blk KAe.out 1; have KBec0 : we.cell? ⟨w.heap.size + 1, 0, none⟩ = some (.int .i64 u) := cell_blk KBe.out 0; have KBec1 : we.cell? ⟨w.heap.size + 1, 1, none⟩ = some (.int .i64 g) := cell_blk KBe.out 1; have KXec0 : we.cell? ⟨w4.heap.size, 0, none⟩ = some (.slice (some ⟨G4, 0, none⟩) f.nodes.length c4) := cell_blk KXe.out 0; have KXec1 : we.cell? ⟨w4.heap.size, 1, none⟩ = some (.int .i64 f.room) := cell_blk KXe.out 1; have H4e := Lib.hid (H4xd.out.trans (hbe.mono H4xd.out.size)); have HCe := Lib.hid (HCxd.out.trans (hbe.mono HCxd.out.size)); clear hbe)
      | (go_at_call 41; refine (HIMPL.out _ _ HAe.out (HET.out.below HBe.out HET.out.1)).mono ?_; rintro e wf ⟨lvG, rfl, hLG, hbf⟩; have HLGf := Lib.hid hLG; have HSZf := Lib.hid hbf.size; have HAf := Lib.hid (HAe.out.below hbf); have HBf := Lib.hid (HBe.out.trans (hbf.mono HBe.out.size)); have KAf := Lib.hid ((hbf.block w.heap.size (lt_of_heap KAe.out)).trans KAe.out); have KBf := Lib.hid ((hbf.block (w.heap.size + 1) (lt_of_heap KBe.out)).trans KBe.out); have KXf := Lib.hid ((hbf.block w4.heap.size (lt_of_heap KXe.out)).trans KXe.out); have KAfc0 : wf.cell? ⟨w.heap.size, 0, none⟩ = some (.slice o f.nodes.length c) := cell_blk KAf.out 0; have KAfc1 : wf.cell? ⟨w.heap.size, 1, none⟩ = some (.int .i64 f.room) := cell_blk KAf.out 1; have KBfc0 : wf.cell? ⟨w.heap.size + 1, 0, none⟩ = some (.int .i64 u) := cell_blk KBf.out 0; have KBfc1 : wf.cell? ⟨w.heap.size + 1, 1, none⟩ = some (.int .i64 g) := cell_blk KBf.out 1; have KXfc0 : wf.cell? ⟨w4.heap.size, 0, none⟩ = some (.slice (some ⟨G4, 0, none⟩) f.nodes.length c4) := cell_blk KXf.out 0; have KXfc1 : wf.cell? ⟨w4.heap.size, 1, none⟩ = some (.int .i64 f.room) := cell_blk KXf.out 1; have H4f := Lib.hid (H4e.out.trans (hbf.mono H4e.out.size)); have HCf := Lib.hid (HCe.out.trans (hbf.mono HCe.out.size)); clear hLG hbf))
  have HSf := Lib.hid (HSc.out.below HCf.out)
  go_wp2_with fail
  refine (eqStringS_same _ _ _ _ HLGf.out.read HSf.out).mono ?_
  rintro e wg ⟨rfl, hbg⟩
  have HBg := Lib.hid (HBf.out.trans (hbg.mono HBf.out.size))
  have KAg := Lib.hid ((hbg.block w.heap.size (lt_of_heap KAf.out)).trans KAf.out)
  have KBg := Lib.hid ((hbg.block (w.heap.size + 1) (lt_of_heap KBf.out)).trans KBf.out)
  have KXg := Lib.hid ((hbg.block w4.heap.size (lt_of_heap KXf.out)).trans KXf.out)
  have KAgc0 : wg.cell? ⟨w.heap.size, 0, none⟩ = some (.slice o f.nodes.length c) := cell_blk KAg.out 0
  have KAgc1 : wg.cell? ⟨w.heap.size, 1, none⟩ = some (.int .i64 f.room) := cell_blk KAg.out 1
  have KBgc0 : wg.cell? ⟨w.heap.size + 1, 0, none⟩ = some (.int .i64 u) := cell_blk KBg.out 0
  have KBgc1 : wg.cell? ⟨w.heap.size + 1, 1, none⟩ = some (.int .i64 g) := cell_blk KBg.out 1
  have KXgc0 : wg.cell? ⟨w4.heap.size, 0, none⟩ = some (.slice (some ⟨G4, 0, none⟩) f.nodes.length c4) := cell_blk KXg.out 0
  have KXgc1 : wg.cell? ⟨w4.heap.size, 1, none⟩ = some (.int .i64 f.room) := cell_blk KXg.out 1
  have H4g := Lib.hid (H4f.out.trans (hbg.mono H4f.out.size))
  have HCg := Lib.hid (HCf.out.trans (hbg.mono HCf.out.size))
  have HAg := Lib.hid (HAf.out.below hbg)
  have HLGg := Lib.hid (lst_below HLGf.out hbg)
  have HSZg := Lib.hid (Nat.le_trans HSZf.out hbg.size)
  have HSZgd : Hid (we.heap.size ≤ wg.drew.heap.size) := Lib.hid HSZg.out
  have HBgd := Lib.hid HBg.out.drew
  have KAgd : Hid (wg.drew.heap[w.heap.size]? = _) := Lib.hid KAg.out
  have KBgd : Hid (wg.drew.heap[(w.heap.size + 1)]? = _) := Lib.hid KBg.out
  have KXgd : Hid (wg.drew.heap[w4.heap.size]? = _) := Lib.hid KXg.out
  have H4gd := Lib.hid H4g.out.drew
  have HCgd := Lib.hid HCg.out.drew
  have HAgd := Lib.hid (HAg.out.below (Below.refl _ wg).drew)
  have HLGgd := Lib.hid (lst_below HLGg.out (Below.refl _ wg).drew)
  clear hbg
  go_wp2
  go_region_held3 (fun w' => w'.cell? ⟨w.heap.size, 0, none⟩ = some (.slice o f.nodes.length c) ∧ w'.cell? ⟨w.heap.size, 1, none⟩ = some (.int .i64 f.room) ∧ w'.cell? ⟨w.heap.size + 1, 0, none⟩ = some (.int .i64 u) ∧ w'.cell? ⟨w.heap.size + 1, 1, none⟩ = some (.int .i64 g) ∧ w'.cell? ⟨w4.heap.size, 0, none⟩ = some (.slice (some ⟨G4, 0, none⟩) f.nodes.length c4) ∧ w'.cell? ⟨w4.heap.size, 1, none⟩ = some (.int .i64 f.room)) (first | exact ⟨KAgc0, KAgc1, KBgc0, KBgc1, KXgc0, KXgc1⟩ | exact ⟨KAic0, KAic1, KBic0, KBic1, KXic0, KXic1⟩ | exact ⟨KAjc0, KAjc1, KBjc0, KBjc1, KXjc0, KXjc1⟩)
    (first
      | (go_at_call 53; refine (toFs_any f _ _ (HR.out.below HBgd.out) hsz).mono ?_; rintro e wi ⟨ui, rfl, hOi, hbi⟩; have HDi := Lib.hid (hOi.read HFIT.out); have HAi := Lib.hid (HAgd.out.below hbi); have HLGi := Lib.hid (lst_below HLGgd.out hbi); have HSZi := Lib.hid (Nat.le_trans HSZgd.out hbi.size); have HBi := Lib.hid (HBgd.out.trans (hbi.mono HBgd.out.size)); have KAi := Lib.hid ((hbi.block w.heap.size (lt_of_heap KAgd.out)).trans KAgd.out); have KBi := Lib.hid ((hbi.block (w.heap.size + 1) (lt_of_heap KBgd.out)).trans KBgd.out); have KXi := Lib.hid ((hbi.block w4.heap.size (lt_of_heap KXgd.out)).trans KXgd.out); have KAic0 : wi.cell? ⟨w.heap.size, 0, none⟩ = some (.slice o f.nodes.length c) := cell_blk KAi.out 0; have KAic1 : wi.cell? ⟨w.heap.size, 1, none⟩ = some (.int .i64 f.room) := cell_blk KAi.out 1; have KBic0 : wi.cell? ⟨w.heap.size + 1, 0, none⟩ = some (.int .i64 u) := cell_blk KBi.out 0; have KBic1 : wi.cell? ⟨w.heap.size + 1, 1, none⟩ = some (.int .i64 g) := cell_blk KBi.out 1; have KXic0 : wi.cell? ⟨w4.heap.size, 0, none⟩ = some (.slice (some ⟨G4, 0, none⟩) f.nodes.length c4) := cell_blk KXi.out 0; have KXic1 : wi.cell? ⟨w4.heap.size, 1, none⟩ = some (.int .i64 f.room) := cell_blk KXi.out 1; have H4i := Lib.hid (H4gd.out.trans (hbi.mono H4gd.out.size)); have HCi := Lib.hid (HCgd.out.trans (hbi.mono HCgd.out.size)); clear hOi hbi)
      | (go_at_call 55; refine (eqFs_same f _ _ _ HAi.out HDi.out).mono ?_; rintro e wj ⟨rfl, hbj⟩; have HLGj := Lib.hid (lst_below HLGi.out hbj); have HSZj := Lib.hid (Nat.le_trans HSZi.out hbj.size); have HBj := Lib.hid (HBi.out.trans (hbj.mono HBi.out.size)); have KAj := Lib.hid ((hbj.block w.heap.size (lt_of_heap KAi.out)).trans KAi.out); have KBj := Lib.hid ((hbj.block (w.heap.size + 1) (lt_of_heap KBi.out)).trans KBi.out); have KXj := Lib.hid ((hbj.block w4.heap.size (lt_of_heap KXi.out)).trans KXi.out); have KAjc0 : wj.cell? ⟨w.heap.size, 0, none⟩ = some (.slice o f.nodes.length c) := cell_blk KAj.out 0; have KAjc1 : wj.cell? ⟨w.heap.size, 1, none⟩ = some (.int .i64 f.room) := cell_blk KAj.out 1; have KBjc0 : wj.cell? ⟨w.heap.size + 1, 0, none⟩ = some (.int .i64 u) := cell_blk KBj.out 0; have KBjc1 : wj.cell? ⟨w.heap.size + 1, 1, none⟩ = some (.int .i64 g) := cell_blk KBj.out 1; have KXjc0 : wj.cell? ⟨w4.heap.size, 0, none⟩ = some (.slice (some ⟨G4, 0, none⟩) f.nodes.length c4) := cell_blk KXj.out 0; have KXjc1 : wj.cell? ⟨w4.heap.size, 1, none⟩ = some (.int .i64 f.room) := cell_blk KXj.out 1; have H4j := Lib.hid (H4i.out.trans (hbj.mono H4i.out.size)); have HCj := Lib.hid (HCi.out.trans (hbj.mono HCi.out.size)); clear hbj))
  all_goals
    go_wp2_with fail
    refine (markFs_own f _ wc.heap.size w4 _ HO4.out H4j.out HC4.out.size hsz).mono ?_
    rintro e wk ⟨mk, hmk0, hmk1, rfl, hbk, huk⟩
    have HJK := Lib.hid hbk.size
    have HLGk := Lib.hid (lst_up HLGj.out H4e.out.size hbk.size huk)
    have HCk := Lib.hid (HCj.out.trans hbk)
    have hcw := HBc.out.size
    have HBk := Lib.hid (HBj.out.trans (hbk.mono hcw))
    have HSk := Lib.hid (HSc.out.below HCk.out)
    have KAk := Lib.hid ((hbk.block w.heap.size (Nat.lt_of_lt_of_le (lt_of_heap KAc.out) (Nat.le_refl _))).trans KAj.out)
    have KBk := Lib.hid ((hbk.block (w.heap.size + 1) (Nat.lt_of_lt_of_le (lt_of_heap KBc.out) (Nat.le_refl _))).trans KBj.out)
    clear hbk huk
    go_wp2_with fail
    refine (eqStringS_same _ _ _ _ HLGk.out.read HSk.out).mono ?_
    rintro e wl ⟨rfl, hbl⟩
    have HBl := Lib.hid (HBk.out.trans (hbl.mono HBk.out.size))
    have HCl := Lib.hid (HCk.out.trans (hbl.mono HCk.out.size))
    have KAl := Lib.hid ((hbl.block w.heap.size (lt_of_heap KAk.out)).trans KAk.out)
    have KBl := Lib.hid ((hbl.block (w.heap.size + 1) (lt_of_heap KBk.out)).trans KBk.out)
    have HLGl := Lib.hid (lst_below HLGk.out hbl)
    have hel : we.heap.size ≤ wl.heap.size := Nat.le_trans HSZj.out (Nat.le_trans HJK.out hbl.size)
    clear hbl
    go_wp2_with fail
    refine (markStringS_any _ _ _ 1 _ HLGl.out (Nat.le_refl _) hel (by have := HPL.out; omega)).mono ?_
    rintro e wm ⟨rfl, hLm, hbm⟩
    have hwe : w.heap.size + 2 ≤ we.heap.size := by have := lt_of_heap KBe.out; omega
    have HBm := Lib.hid (HBl.out.trans (hbm.mono (by omega)))
    have HCm := Lib.hid (HCl.out.trans (hbm.mono HCe.out.size))
    have KAm := Lib.hid ((hbm.block w.heap.size (by omega)).trans KAl.out)
    have KBm := Lib.hid ((hbm.block (w.heap.size + 1) (by omega)).trans KBl.out)
    have HRm := Lib.hid hLm.read
    clear hLm hbm
    obtain ⟨n, hn⟩ : ∃ n, n = ps.length := ⟨_, rfl⟩
    have HN9 : Hid (n ≤ 1048576) := Lib.hid (by rw [hn]; exact HPL.out)
    rw [← hn] at HRm ⊢
    clear hn
    have hn9 := HN9.out
    go_wp2_with fail
    refine (heldStringS_some n 1 _ _ HRm.out (Nat.le_refl _) (by omega)).mono ?_
    rintro e wn ⟨rfl, hbn⟩
    have HRn := Lib.hid (HRm.out.below hbn)
    have HBn := Lib.hid (HBm.out.trans (hbn.mono HBm.out.size))
    have KAn := Lib.hid ((hbn.block w.heap.size (lt_of_heap KAm.out)).trans KAm.out)
    have KBn := Lib.hid ((hbn.block (w.heap.size + 1) (lt_of_heap KBm.out)).trans KBm.out)
    have KAnc0 : wn.cell? ⟨w.heap.size, 0, none⟩ = some (.slice o f.nodes.length c) := cell_blk KAn.out 0
    have KAnc1 : wn.cell? ⟨w.heap.size, 1, none⟩ = some (.int .i64 f.room) := cell_blk KAn.out 1
    have KBnc0 : wn.cell? ⟨w.heap.size + 1, 0, none⟩ = some (.int .i64 u) := cell_blk KBn.out 0
    have KBnc1 : wn.cell? ⟨w.heap.size + 1, 1, none⟩ = some (.int .i64 g) := cell_blk KBn.out 1
    have HCn := Lib.hid (HCm.out.trans (hbn.mono HCm.out.size))
    have HBnd := Lib.hid HBn.out.drew
    have KAnd : Hid (wn.drew.heap[w.heap.size]? = _) := Lib.hid KAn.out
    have KBnd : Hid (wn.drew.heap[(w.heap.size + 1)]? = _) := Lib.hid KBn.out
    have HCnd := Lib.hid HCn.out.drew
    have HRnd := Lib.hid (HRn.out.below (Below.refl _ wn).drew)
    clear hbn
    go_wp2
    go_region_held3 (fun w' => w'.cell? ⟨w.heap.size, 0, none⟩ = some (.slice o f.nodes.length c) ∧ w'.cell? ⟨w.heap.size, 1, none⟩ = some (.int .i64 f.room) ∧ w'.cell? ⟨w.heap.size + 1, 0, none⟩ = some (.int .i64 u) ∧ w'.cell? ⟨w.heap.size + 1, 1, none⟩ = some (.int .i64 g)) (first | exact ⟨KAnc0, KAnc1, KBnc0, KBnc1⟩ | exact ⟨KApc0, KApc1, KBpc0, KBpc1⟩ | exact ⟨KAqc0, KAqc1, KBqc0, KBqc1⟩ | exact ⟨KArc0, KArc1, KBrc0, KBrc1⟩)
      (first
        | (go_at_call 53; refine (toFs_any f _ _ (HR.out.below HBnd.out) hsz).mono ?_; rintro e wp ⟨up, rfl, hOp, hbp⟩; have HAp := Lib.hid (hOp.read HFIT.out); have HRp := Lib.hid (HRnd.out.below hbp); have HBp := Lib.hid (HBnd.out.trans (hbp.mono HBnd.out.size)); have KAp := Lib.hid ((hbp.block w.heap.size (lt_of_heap KAnd.out)).trans KAnd.out); have KBp := Lib.hid ((hbp.block (w.heap.size + 1) (lt_of_heap KBnd.out)).trans KBnd.out); have KApc0 : wp.cell? ⟨w.heap.size, 0, none⟩ = some (.slice o f.nodes.length c) := cell_blk KAp.out 0; have KApc1 : wp.cell? ⟨w.heap.size, 1, none⟩ = some (.int .i64 f.room) := cell_blk KAp.out 1; have KBpc0 : wp.cell? ⟨w.heap.size + 1, 0, none⟩ = some (.int .i64 u) := cell_blk KBp.out 0; have KBpc1 : wp.cell? ⟨w.heap.size + 1, 1, none⟩ = some (.int .i64 g) := cell_blk KBp.out 1; have HCp := Lib.hid (HCnd.out.trans (hbp.mono HCnd.out.size)); obtain ⟨nvp, rfl, hNp⟩ := hOp; obtain ⟨Gp, cp, psp, rfl, -⟩ := hNp; clear hbp)
        | (go_at_call 54; refine (toCred_any u g _).mono ?_; rintro e wq ⟨rfl, hbq⟩; have HAq := Lib.hid (HAp.out.below hbq); have HRq := Lib.hid (HRp.out.below hbq); have HBq := Lib.hid (HBp.out.trans (hbq.mono HBp.out.size)); have KAq := Lib.hid ((hbq.block w.heap.size (lt_of_heap KAp.out)).trans KAp.out); have KBq := Lib.hid ((hbq.block (w.heap.size + 1) (lt_of_heap KBp.out)).trans KBp.out); have KAqc0 : wq.cell? ⟨w.heap.size, 0, none⟩ = some (.slice o f.nodes.length c) := cell_blk KAq.out 0; have KAqc1 : wq.cell? ⟨w.heap.size, 1, none⟩ = some (.int .i64 f.room) := cell_blk KAq.out 1; have KBqc0 : wq.cell? ⟨w.heap.size + 1, 0, none⟩ = some (.int .i64 u) := cell_blk KBq.out 0; have KBqc1 : wq.cell? ⟨w.heap.size + 1, 1, none⟩ = some (.int .i64 g) := cell_blk KBq.out 1; have HCq := Lib.hid (HCp.out.trans (hbq.mono HCp.out.size)); clear hbq)
        | (go_at_call 41; refine (HIMPL.out _ _ HAq.out (HET.out.below HBq.out HET.out.1)).mono ?_; rintro e wr ⟨lvH, rfl, hLH, hbr⟩; have HRr := Lib.hid (HRq.out.below hbr); have HHr := Lib.hid hLH.read; have HBr := Lib.hid (HBq.out.trans (hbr.mono HBq.out.size)); have KAr := Lib.hid ((hbr.block w.heap.size (lt_of_heap KAq.out)).trans KAq.out); have KBr := Lib.hid ((hbr.block (w.heap.size + 1) (lt_of_heap KBq.out)).trans KBq.out); have KArc0 : wr.cell? ⟨w.heap.size, 0, none⟩ = some (.slice o f.nodes.length c) := cell_blk KAr.out 0; have KArc1 : wr.cell? ⟨w.heap.size, 1, none⟩ = some (.int .i64 f.room) := cell_blk KAr.out 1; have KBrc0 : wr.cell? ⟨w.heap.size + 1, 0, none⟩ = some (.int .i64 u) := cell_blk KBr.out 0; have KBrc1 : wr.cell? ⟨w.heap.size + 1, 1, none⟩ = some (.int .i64 g) := cell_blk KBr.out 1; have HCr := Lib.hid (HCq.out.trans (hbr.mono HCq.out.size)); clear hLH hbr))
    have HSr := Lib.hid (HSc.out.below HCr.out)
    go_wp2_with fail
    refine (eqStringS_same _ _ _ _ HHr.out HSr.out).mono ?_
    rintro e wt ⟨rfl, hbt⟩
    have HBt := Lib.hid (HBr.out.trans (hbt.mono HBr.out.size))
    have HRt := Lib.hid (HRr.out.below hbt)
    clear hbt
    go_wp2_with fail
    refine (heldStringS_some n 1 _ _ HRt.out (Nat.le_refl _) (by omega)).mono ?_
    rintro e wu ⟨rfl, hbu⟩
    have HBu := Lib.hid (HBt.out.trans (hbu.mono HBt.out.size))
    clear hbu
    go_wp2
    go_ret
    exact ⟨rfl, HBu.out⟩

set_option maxRecDepth 100000 in
theorem contract (H : Type) (enc : TypeId × Value → H) (W : World) (base : Nat) (args : Array Value) (ds gs : List (DataW H)) (before : List MemPlace)
    (hval : ∀ (j : Nat) t v, Tryz.f9.params[j]? = some t → args[j]? = some v → Value.okWide Tryz.prog W .any base t v)
    (hW : DataW.Whole enc Tryz.prog Tryz.f9.params.toList Rows.fnExactListDirSpec.vars false W args.toList ds gs before) (hL : laidMetH Tryz.prog Rows.fnExactListDirRow.laid W) :
    Calls Tryz.prog 9 args W fun e W' => ∃ v, e = .returned v ∧ Rows.fnExactListDirSpec.post enc Tryz.prog Tryz.f9 false true false false W args v W' := by
  have hW' := hW
  obtain ⟨p, q, hA0, hV, rfl, hfz, hnd⟩ := hW
  have hA : DataW.TrodAll enc Tryz.prog W 0 (fun _ => true) true Tryz.f9.params.toList args.toList ds p := hA0
  rw [Tryz.params9] at hA hval
  obtain ⟨v0, vs0, d0, ds0, p0, q0, hargs, rfl, rfl, h0, r0⟩ := trodAll_cons hA
  obtain ⟨v1, vs1, d1, ds1, p1, q1, rfl, rfl, rfl, h1, r1⟩ := trodAll_cons r0
  obtain ⟨v2, vs2, d2, ds2, p2, q2, rfl, rfl, rfl, h2, r2⟩ := trodAll_cons r1
  obtain ⟨rfl, rfl, rfl⟩ := trodAll_nil r2
  obtain rfl : args = #[v0, v1, v2] := by cases args; simp_all
  obtain ⟨rfl, rfl⟩ := trodVars_none hV
  obtain ⟨f0, hR0, hF0⟩ := open_fsA (hval 0 67 v0 rfl rfl) h0
  obtain ⟨c1, k1, y1, z1, m1, rfl, rfl, rfl, hy1, hz1⟩ := open_agg2 Tryz.underlying68 (by kernel_rfl) (by kernel_rfl) (hval 1 68 v1 rfl rfl) h1
  obtain ⟨a1, e1, ey1, wa1⟩ := DataW.trod_int Tryz.underlying3 hy1
  obtain ⟨b1, f1, ez1, wb1⟩ := DataW.trod_int Tryz.underlying3 hz1
  simp at e1 f1
  subst e1 f1
  obtain ⟨a2, rfl, rfl, rfl, w2⟩ := Go.ChangeMaps.open_string Tryz.underlying9 (hval 2 9 v2 rfl rfl) h2
  refine (walk f0 v0 a1 b1 a2 w2 W hR0 (errT_of hL)).mono fun e W' ⟨he, hb⟩ => ?_
  subst he
  exact ⟨_, rfl, law_post laidOut (by kernel_rfl) (by kernel_rfl) (by kernel_rfl) Tryz.underlying4 hW' rfl hb⟩

theorem laid_met (os : Os) : laidMetH Tryz.prog Rows.fnExactListDirRow.laid ((laidWorld os).forCall (fun _ _ => 0) ⟨#[], #[.agg #[.slice none 0 0, .int .i64 0], .agg #[.int .i64 0, .int .i64 0], .string ⟨#[]⟩], []⟩).memory :=
  laidMetH_of_parts (laidMet_nil _ _) (by kernel_rfl)
theorem reads (os : Os) {H : Type} (enc : TypeId × Value → H) : ∃ places, DataW.whole enc Tryz.prog ((laidWorld os).forCall (fun _ _ => 0) ⟨#[], #[.agg #[.slice none 0 0, .int .i64 0], .agg #[.int .i64 0, .int .i64 0], .string ⟨#[]⟩], []⟩).memory Tryz.f9.params.toList Rows.fnExactListDirSpec.vars false (#[.agg #[.slice none 0 0, .int .i64 0], .agg #[.int .i64 0, .int .i64 0], .string ⟨#[]⟩] : Array Value).toList 8 = some ([.agg [.nil, .lit (.int .i64 0)], .agg [.lit (.int .i64 0), .lit (.int .i64 0)], .lit (.string [])], [], places) :=
  ⟨[], by kernel_rfl⟩

set_option maxRecDepth 100000 in
theorem lifted (os : Os) (started : os.Started) (H : Type) (enc : TypeId × Value → H) (F : Stop.Interp) :
    ReturnsInHanded {} Tryz.checked os 9 .any ((OpenSpec.ofChange Rows.fnExactListDirSpec).preRow enc Tryz.prog Tryz.f9 Rows.fnExactListDirRow.domain false Rows.fnExactListDirRow.laid) (((OpenSpec.ofChange Rows.fnExactListDirSpec).at F).post enc Tryz.prog Tryz.f9 false true false false) := by
  obtain ⟨places, hx⟩ := reads os enc
  refine returnsInHanded_of_row (C := Tryz.checked) (s := OpenSpec.ofChange Rows.fnExactListDirSpec) own started (by kernel_rfl) Tryz.func9
    (witness_row_at (enc := enc) (C := Tryz.checked) false (laidWorld os) #[.agg #[.slice none 0 0, .int .i64 0], .agg #[.int .i64 0, .int .i64 0], .string ⟨#[]⟩] rfl (by kernel_rfl) (by kernel_rfl) (by kernel_rfl)
      (OpenSpec.preRow_of_cond 8 hx (by kernel_rfl) (fun k hk => by cases hk) (by kernel_rfl) (laid_met os))) ?_
  intro W base args ds gs before hval hW _ _ _ hL _ _
  exact contract H enc W base args ds gs before hval hW hL

theorem said : Rows.FnExactListDirSaid :=
  OpenClaim.holds_of_cond 9 Tryz.f9 rfl rfl rfl rfl rfl rfl rfl ⟨rfl, rfl, rfl, rfl, rfl⟩ rfl rfl rfl rfl rfl (by kernel_rfl) Tryz.func9 (by kernel_rfl)
    (of_decide_eq_true (by kernel_rfl)) (by unfold Func.isWrapper; first | (rw [if_pos (by decide +kernel)]; kernel_rfl) | (rw [if_neg (by decide +kernel)]; exact ⟨rfl, rfl⟩))
    (fun os started H enc _ F => by rw [OpenClaim.pre_eq_preRow]; exact lifted os started H enc F)

theorem plain (f : FuncId) (fn : Func) (hf : Tryz.pinned.checked.prog.funcNamed "loop.example/g00756/laws.FnExactListDir" = some f) (hfn : Tryz.pinned.checked.prog.funcs[f]? = some fn) :
    true = Tryz.pinned.checked.prog.looks [] ∧ ∀ (j : Nat) t, fn.params[j]? = some t → Tryz.pinned.checked.prog.wantsStandIn t = false := by
  obtain rfl : f = 9 := Option.some.inj ((show Tryz.prog.funcNamed "loop.example/g00756/laws.FnExactListDir" = some 9 by kernel_rfl).symm.trans hf) |>.symm
  obtain rfl : fn = Tryz.f9 := (Option.some.inj (Tryz.func9.symm.trans hfn)).symm
  refine ⟨by kernel_rfl, fun j t ht => ?_⟩
  rw [Tryz.params9] at ht
  have hm : t = 67 ∨ t = 68 ∨ t = 9 := by simpa using Array.mem_of_getElem? ht
  rcases hm with rfl | rfl | rfl
  · exact (show Tryz.prog.wantsStandIn 67 = false by kernel_rfl)
  · exact (show Tryz.prog.wantsStandIn 68 = false by kernel_rfl)
  · exact (show Tryz.prog.wantsStandIn 9 = false by kernel_rfl)

theorem card : Rows.FnExactListDirCardSaid :=
  Claim7.holds_tied_plain_at .later [] _ _ _ _ said (fun _ h => by cases h) (by kernel_rfl) (fun _ h => by cases h) fnExactListDir_row_tie rfl ⟨rfl, rfl⟩ (by kernel_rfl) rfl plain (by kernel_rfl)
#print axioms card
end Go.Proofs.YtgmkfhhlnhgkhaaGreatDoor.fnExactListDir
