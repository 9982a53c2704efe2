
/-
  Contracts of the program's isUsedNode, isDirNode, BytesIn, FreeNode, LinksOf, ParentOf: the model's answers.
  Conditions: at most 2^20 values and letters together.
-/
import Derived.Test.YtbmbbioanlcioaaInoF
namespace Go.Proofs.Ytbmbbioanlcioaa
open Go.ChangeShapes Go.WideShapes Go.ChangeAt Go.RowKit Go.Joins
set_option linter.unusedVariables false
set_option linter.unusedSimpArgs false

theorem goodF_GoodF {f : FsD} (h : goodF f = true) : GoodF f := by unfold goodF at h; simpa using h
theorem good_lead {f : FsD} (h : goodF f = true) : Lead f.nodes := lead_of (goodF_GoodF h).2.2.2.2.1
theorem good_pos {f : FsD} (h : goodF f = true) : 0 < f.nodes.length := by have := inB_t (goodF_GoodF h).1; omega

set_option maxHeartbeats 2000000 in
theorem isUsedNode_any (f : FsD) (node : Int) (v : Value) (w : World) (hR : FsA w v f) (hs : szF f ≤ 1048576) : Calls Try.prog 36 #[v, .int .i64 node] w fun e w' => e = .returned (.bool (linksK f node)) ∧ Below w.heap.size w w' := by
  have HR := Lib.hid hR
  obtain ⟨nv, rfl, hN⟩ := hR
  have HN := Lib.hid hN
  obtain ⟨o, c, rfl, hm, hH⟩ := hN
  have HH := Lib.hid hH
  unfold maxLen at hm
  have hl : f.nodes.length ≤ 1048576 := (lists_small hs).1
  have HS := Lib.hid hs
  have HSZ : Hid (szNs f.nodes ≤ 1048576) := Lib.hid (by unfold szF at hs; omega)
  have hb0 : Below w.heap.size w (w.alloc (.cells #[.slice o f.nodes.length c, .int .i64 f.room] 31)) := (Below.refl _ _).alloc (Nat.le_refl _) _
  have hk0 := heap_alloc_new w (.cells #[.slice o f.nodes.length c, .int .i64 f.room] 31)
  have HB0 := Lib.hid hb0
  have HK0 := Lib.hid hk0
  clear hb0 hk0 hs hH
  by_cases hg : goodF f = true
  · have HG := Lib.hid hg
    clear hg
    by_cases h0 : 0 ≤ node
    · by_cases h1 : node < f.nodes.length
      · have HIN : Hid (inB 0 ((f.nodes.length : Int) - 1) node = true) := Lib.hid (inB_mk h0 (by omega)).symm
        obtain ⟨m, rfl⟩ : ∃ m : Nat, node = m := ⟨node.toNat, by omega⟩
        have hml : m < f.nodes.length := by omega
        obtain ⟨g, off, nl, rfl, hg, hcc, -, -⟩ := HH.out m hml
        have HC0 := Lib.hid hcc.c0
        have HKD : Hid (kindAt f.nodes (m : Int) = f.nodes[m].kind) := Lib.hid (by simp [kindAt, List.getD, hml])
        obtain ⟨kd, hkd⟩ : ∃ kd, kd = f.nodes[m].kind := ⟨_, rfl⟩
        rw [← hkd] at HC0 HKD
        clear hcc hkd
        by_cases hz : kd = 0
        · have HF : Hid (linksK f (m : Int) = false) := Lib.hid (by unfold linksK isN; rw [HG.out, HIN.out, HKD.out, hz]; rfl)
          subst hz
          go_enter Try.func36, Try.ntmps36
          go_wp2_with fail
          refine (goodFs_any f _ _ (HR.out.below HB0.out) HS.out).mono ?_
          rintro e w1 ⟨rfl, hb1⟩
          rw [HG.out]
          have HB1 := Lib.hid (HB0.out.trans (hb1.mono HB0.out.size))
          have HK1 := Lib.hid ((hb1.block w.heap.size (lt_of_heap HK0.out)).trans HK0.out)
          have x1c0 := (cell_blk HK1.out 0).trans rfl
          have x1c1 := (cell_blk HK1.out 1).trans rfl
          clear hb1
          have d0 := (HB1.out.cell (p := ⟨g, off + m * 7, none⟩) hg).trans HC0.out
          go_wp2
          go_ret
          exact ⟨ret_bool HF.out.symm, HB1.out⟩
        · have HF : Hid (linksK f (m : Int) = true) := Lib.hid (by unfold linksK isN; rw [HG.out, HIN.out, HKD.out]; simp [hz])
          have zb : (kd != 0) = true := by simpa using hz
          go_enter Try.func36, Try.ntmps36
          go_wp2_with fail
          refine (goodFs_any f _ _ (HR.out.below HB0.out) HS.out).mono ?_
          rintro e w1 ⟨rfl, hb1⟩
          rw [HG.out]
          have HB1 := Lib.hid (HB0.out.trans (hb1.mono HB0.out.size))
          have HK1 := Lib.hid ((hb1.block w.heap.size (lt_of_heap HK0.out)).trans HK0.out)
          have x1c0 := (cell_blk HK1.out 0).trans rfl
          have x1c1 := (cell_blk HK1.out 1).trans rfl
          clear hb1
          have d0 := (HB1.out.cell (p := ⟨g, off + m * 7, none⟩) hg).trans HC0.out
          go_wp2
          go_ret
          exact ⟨ret_bool HF.out.symm, HB1.out⟩
      · have HF : Hid (linksK f node = false) := Lib.hid (by unfold linksK isN; rw [← inB_no (.inr (by omega))]; simp)
        go_enter Try.func36, Try.ntmps36
        go_wp2_with fail
        refine (goodFs_any f _ _ (HR.out.below HB0.out) HS.out).mono ?_
        rintro e w1 ⟨rfl, hb1⟩
        rw [HG.out]
        have HB1 := Lib.hid (HB0.out.trans (hb1.mono HB0.out.size))
        have HK1 := Lib.hid ((hb1.block w.heap.size (lt_of_heap HK0.out)).trans HK0.out)
        have x1c0 := (cell_blk HK1.out 0).trans rfl
        have x1c1 := (cell_blk HK1.out 1).trans rfl
        clear hb1
        go_wp2
        go_ret
        exact ⟨ret_bool HF.out.symm, HB1.out⟩
    · have HF : Hid (linksK f node = false) := Lib.hid (by unfold linksK isN; rw [← inB_no (.inl (by omega))]; simp)
      go_enter Try.func36, Try.ntmps36
      go_wp2_with fail
      refine (goodFs_any f _ _ (HR.out.below HB0.out) HS.out).mono ?_
      rintro e w1 ⟨rfl, hb1⟩
      rw [HG.out]
      have HB1 := Lib.hid (HB0.out.trans (hb1.mono HB0.out.size))
      have HK1 := Lib.hid ((hb1.block w.heap.size (lt_of_heap HK0.out)).trans HK0.out)
      have x1c0 := (cell_blk HK1.out 0).trans rfl
      have x1c1 := (cell_blk HK1.out 1).trans rfl
      clear hb1
      go_wp2
      go_ret
      exact ⟨ret_bool HF.out.symm, HB1.out⟩
  · have HG : Hid (goodF f = false) := Lib.hid (by simpa using hg)
    have HF : Hid (linksK f node = false) := Lib.hid (by unfold linksK; rw [HG.out]; rfl)
    go_enter Try.func36, Try.ntmps36
    go_wp2_with fail
    refine (goodFs_any f _ _ (HR.out.below HB0.out) HS.out).mono ?_
    rintro e w1 ⟨rfl, hb1⟩
    rw [HG.out]
    have HB1 := Lib.hid (HB0.out.trans (hb1.mono HB0.out.size))
    have HK1 := Lib.hid ((hb1.block w.heap.size (lt_of_heap HK0.out)).trans HK0.out)
    have x1c0 := (cell_blk HK1.out 0).trans rfl
    have x1c1 := (cell_blk HK1.out 1).trans rfl
    clear hb1
    go_wp2
    go_ret
    exact ⟨ret_bool HF.out.symm, HB1.out⟩

theorem linksK_in {f : FsD} {node : Int} (h : linksK f node = true) : goodF f = true ∧ 0 ≤ node ∧ node < f.nodes.length := by
  unfold linksK isN at h
  simp only [Bool.and_eq_true] at h
  have := inB_t h.2.1
  exact ⟨h.1, by omega, by omega⟩
theorem parK_is (f : FsD) (node : Int) : parK f node = (linksK f node && (kindAt f.nodes node == 2)) := by
  unfold parK linksK isDirN
  rw [Bool.and_assoc]

theorem free_vals {f : FsD} (hg : goodF f = true) {k : Int} (h : freeAt f.nodes = k) : (0 ≤ k → freeF f = k ∧ freeK f = true) ∧ (k < 0 → freeF f = 0 ∧ freeK f = false) := by
  refine ⟨fun h0 => ⟨by unfold freeF; rw [hg, h]; simp; omega, by unfold freeK; rw [hg, h]; simp; omega⟩, fun h0 => ⟨by unfold freeF; rw [hg, h]; simp; omega, by unfold freeK; rw [hg, h]; simp; omega⟩⟩

theorem parK_in {f : FsD} {node : Int} (h : parK f node = true) : goodF f = true ∧ 0 ≤ node ∧ node < f.nodes.length ∧ kindAt f.nodes node = 2 := by
  rw [parK_is, Bool.and_eq_true] at h
  obtain ⟨h1, h2, h3⟩ := linksK_in h.1
  exact ⟨h1, h2, h3, by simpa using h.2⟩
/-- Of a directory the place's directory is the parent. -/
theorem place_parent {f : FsD} {m : Nat} (h : goodF f = true) (hm : m < f.nodes.length) (hk : kindAt f.nodes m = 2) : (placesF f.nodes m).dir = parentOf m f.nodes := by
  have hG := (goodF_GoodF h).2.2.2.2.2 m hm
  rcases Nat.eq_zero_or_pos m with rfl | hp
  · have h0 : links (0 : Int) f.nodes = 0 := hG.1 rfl
    have h1 : placesF f.nodes ((0 : Nat) : Int) = pl0 := pl_none h0
    rw [h1]
    unfold parentOf
    rw [findIdx_not (p := fun n : Nod => hasE ((0 : Nat) : Int) n.list) (fun j hj => by
      cases hh : hasE ((0 : Nat) : Int) f.nodes[j].list with
      | false => rfl
      | true => have h2 : 0 < links (0 : Int) f.nodes := links_pos hj (hasE_iff.1 hh)
                omega)]
    rfl
  · have h1 : links m f.nodes = 1 := hG.2.1 hp hk
    obtain ⟨d, hd, e1, e2, -⟩ := pl_some (ns := f.nodes) (i := m) (by omega)
    rw [e1, parent_is h1 hd e2]

end Go.Proofs.Ytbmbbioanlcioaa
