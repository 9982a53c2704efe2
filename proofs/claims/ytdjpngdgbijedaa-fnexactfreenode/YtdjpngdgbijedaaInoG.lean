
/-
  Contracts of the program's isUsedNode, isDirNode, BytesIn, FreeNode, LinksOf, ParentOf: the model's answers.
  Conditions: at most 2^20 values and letters together.
-/
import Derived.Test.YtdjpngdgbijedaaInoF
namespace Go.Proofs.Ytdjpngdgbijedaa
open Go.ChangeShapes Go.WideShapes Go.ChangeAt Go.RowKit Go.Joins
set_option linter.unusedVariables false
set_option linter.unusedSimpArgs false

theorem goodF_GoodF {f : FsD} (h : goodF f = true) : GoodF f := by unfold goodF at h; simpa using h
theorem good_lead {f : FsD} (h : goodF f = true) : Lead f.nodes := lead_of (goodF_GoodF h).2.2.2.2.1
theorem good_pos {f : FsD} (h : goodF f = true) : 0 < f.nodes.length := by have := inB_t (goodF_GoodF h).1; omega

set_option maxHeartbeats 2000000 in
theorem isUsedNode_any (f : FsD) (node : Int) (v : Value) (w : World) (hR : FsA w v f) (hs : szF f ≤ 1048576) : Calls Try.prog 45 #[v, .int .i64 node] w fun e w' => e = .returned (.bool (linksK f node)) ∧ Below w.heap.size w w' := by
  have HR := Lib.hid hR
  obtain ⟨nv, rfl, hN⟩ := hR
  have HN := Lib.hid hN
  obtain ⟨o, c, rfl, hm, hH⟩ := hN
  have HH := Lib.hid hH
  unfold maxLen at hm
  have hl : f.nodes.length ≤ 1048576 := (lists_small hs).1
  have HS := Lib.hid hs
  have HSZ : Hid (szNs f.nodes ≤ 1048576) := Lib.hid (by unfold szF at hs; omega)
  have hb0 : Below w.heap.size w (w.alloc (.cells #[.slice o f.nodes.length c, .int .i64 f.room] 24)) := (Below.refl _ _).alloc (Nat.le_refl _) _
  have hk0 := heap_alloc_new w (.cells #[.slice o f.nodes.length c, .int .i64 f.room] 24)
  have HB0 := Lib.hid hb0
  have HK0 := Lib.hid hk0
  clear hb0 hk0 hs hH
  by_cases hg : goodF f = true
  · have HG := Lib.hid hg
    clear hg
    by_cases h0 : 0 ≤ node
    · by_cases h1 : node < f.nodes.length
      · have HIN : Hid (inB 0 ((f.nodes.length : Int) - 1) node = true) := Lib.hid (inB_mk h0 (by omega)).symm
        obtain ⟨m, rfl⟩ : ∃ m : Nat, node = m := ⟨node.toNat, by omega⟩
        have hml : m < f.nodes.length := by omega
        obtain ⟨g, off, nl, rfl, hg, hcc, -, -⟩ := HH.out m hml
        have HC0 := Lib.hid hcc.c0
        have HKD : Hid (kindAt f.nodes (m : Int) = f.nodes[m].kind) := Lib.hid (by simp [kindAt, List.getD, hml])
        obtain ⟨kd, hkd⟩ : ∃ kd, kd = f.nodes[m].kind := ⟨_, rfl⟩
        rw [← hkd] at HC0 HKD
        clear hcc hkd
        by_cases hz : kd = 0
        · have HF : Hid (linksK f (m : Int) = false) := Lib.hid (by unfold linksK isN; rw [HG.out, HIN.out, HKD.out, hz]; rfl)
          subst hz
          go_enter Try.func45, Try.ntmps45
          go_wp2_with fail
          refine (goodFs_any f _ _ (HR.out.below HB0.out) HS.out).mono ?_
          rintro e w1 ⟨rfl, hb1⟩
          rw [HG.out]
          have HB1 := Lib.hid (HB0.out.trans (hb1.mono HB0.out.size))
          have HK1 := Lib.hid ((hb1.block w.heap.size (lt_of_heap HK0.out)).trans HK0.out)
          have x1c0 := (cell_blk HK1.out 0).trans rfl
          have x1c1 := (cell_blk HK1.out 1).trans rfl
          clear hb1
          have d0 := (HB1.out.cell (p := ⟨g, off + m * 7, none⟩) hg).trans HC0.out
          go_wp2
          go_ret
          exact ⟨ret_bool HF.out.symm, HB1.out⟩
        · have HF : Hid (linksK f (m : Int) = true) := Lib.hid (by unfold linksK isN; rw [HG.out, HIN.out, HKD.out]; simp [hz])
          have zb : (kd != 0) = true := by simpa using hz
          go_enter Try.func45, Try.ntmps45
          go_wp2_with fail
          refine (goodFs_any f _ _ (HR.out.below HB0.out) HS.out).mono ?_
          rintro e w1 ⟨rfl, hb1⟩
          rw [HG.out]
          have HB1 := Lib.hid (HB0.out.trans (hb1.mono HB0.out.size))
          have HK1 := Lib.hid ((hb1.block w.heap.size (lt_of_heap HK0.out)).trans HK0.out)
          have x1c0 := (cell_blk HK1.out 0).trans rfl
          have x1c1 := (cell_blk HK1.out 1).trans rfl
          clear hb1
          have d0 := (HB1.out.cell (p := ⟨g, off + m * 7, none⟩) hg).trans HC0.out
          go_wp2
          go_ret
          exact ⟨ret_bool HF.out.symm, HB1.out⟩
      · have HF : Hid (linksK f node = false) := Lib.hid (by unfold linksK isN; rw [← inB_no (.inr (by omega))]; simp)
        go_enter Try.func45, Try.ntmps45
        go_wp2_with fail
        refine (goodFs_any f _ _ (HR.out.below HB0.out) HS.out).mono ?_
        rintro e w1 ⟨rfl, hb1⟩
        rw [HG.out]
        have HB1 := Lib.hid (HB0.out.trans (hb1.mono HB0.out.size))
        have HK1 := Lib.hid ((hb1.block w.heap.size (lt_of_heap HK0.out)).trans HK0.out)
        have x1c0 := (cell_blk HK1.out 0).trans rfl
        have x1c1 := (cell_blk HK1.out 1).trans rfl
        clear hb1
        go_wp2
        go_ret
        exact ⟨ret_bool HF.out.symm, HB1.out⟩
    · have HF : Hid (linksK f node = false) := Lib.hid (by unfold linksK isN; rw [← inB_no (.inl (by omega))]; simp)
      go_enter Try.func45, Try.ntmps45
      go_wp2_with fail
      refine (goodFs_any f _ _ (HR.out.below HB0.out) HS.out).mono ?_
      rintro e w1 ⟨rfl, hb1⟩
      rw [HG.out]
      have HB1 := Lib.hid (HB0.out.trans (hb1.mono HB0.out.size))
      have HK1 := Lib.hid ((hb1.block w.heap.size (lt_of_heap HK0.out)).trans HK0.out)
      have x1c0 := (cell_blk HK1.out 0).trans rfl
      have x1c1 := (cell_blk HK1.out 1).trans rfl
      clear hb1
      go_wp2
      go_ret
      exact ⟨ret_bool HF.out.symm, HB1.out⟩
  · have HG : Hid (goodF f = false) := Lib.hid (by simpa using hg)
    have HF : Hid (linksK f node = false) := Lib.hid (by unfold linksK; rw [HG.out]; rfl)
    go_enter Try.func45, Try.ntmps45
    go_wp2_with fail
    refine (goodFs_any f _ _ (HR.out.below HB0.out) HS.out).mono ?_
    rintro e w1 ⟨rfl, hb1⟩
    rw [HG.out]
    have HB1 := Lib.hid (HB0.out.trans (hb1.mono HB0.out.size))
    have HK1 := Lib.hid ((hb1.block w.heap.size (lt_of_heap HK0.out)).trans HK0.out)
    have x1c0 := (cell_blk HK1.out 0).trans rfl
    have x1c1 := (cell_blk HK1.out 1).trans rfl
    clear hb1
    go_wp2
    go_ret
    exact ⟨ret_bool HF.out.symm, HB1.out⟩

theorem linksK_in {f : FsD} {node : Int} (h : linksK f node = true) : goodF f = true ∧ 0 ≤ node ∧ node < f.nodes.length := by
  unfold linksK isN at h
  simp only [Bool.and_eq_true] at h
  have := inB_t h.2.1
  exact ⟨h.1, by omega, by omega⟩
theorem parK_is (f : FsD) (node : Int) : parK f node = (linksK f node && (kindAt f.nodes node == 2)) := by
  unfold parK linksK isDirN
  rw [Bool.and_assoc]

set_option maxHeartbeats 2000000 in
theorem isDirNode_any (f : FsD) (node : Int) (v : Value) (w : World) (hR : FsA w v f) (hs : szF f ≤ 1048576) : Calls Try.prog 49 #[v, .int .i64 node] w fun e w' => e = .returned (.bool (parK f node)) ∧ Below w.heap.size w w' := by
  have HR := Lib.hid hR
  obtain ⟨nv, rfl, hN⟩ := hR
  have HN := Lib.hid hN
  obtain ⟨o, c, rfl, hm, hH⟩ := hN
  have HH := Lib.hid hH
  unfold maxLen at hm
  have hl : f.nodes.length ≤ 1048576 := (lists_small hs).1
  have HS := Lib.hid hs
  have HSZ : Hid (szNs f.nodes ≤ 1048576) := Lib.hid (by unfold szF at hs; omega)
  have hb0 : Below w.heap.size w (w.alloc (.cells #[.slice o f.nodes.length c, .int .i64 f.room] 24)) := (Below.refl _ _).alloc (Nat.le_refl _) _
  have hk0 := heap_alloc_new w (.cells #[.slice o f.nodes.length c, .int .i64 f.room] 24)
  have HB0 := Lib.hid hb0
  have HK0 := Lib.hid hk0
  clear hb0 hk0 hs hH
  by_cases hg : linksK f node = true
  · have HG := Lib.hid hg
    obtain ⟨-, h0, h1⟩ := linksK_in hg
    clear hg
    obtain ⟨m, rfl⟩ : ∃ m : Nat, node = m := ⟨node.toNat, by omega⟩
    have hml : m < f.nodes.length := by omega
    obtain ⟨g, off, nl, rfl, hg, hcc, -, -⟩ := HH.out m hml
    have HC0 := Lib.hid hcc.c0
    have HKD : Hid (kindAt f.nodes (m : Int) = f.nodes[m].kind) := Lib.hid (by simp [kindAt, List.getD, hml])
    obtain ⟨kd, hkd⟩ : ∃ kd, kd = f.nodes[m].kind := ⟨_, rfl⟩
    rw [← hkd] at HC0 HKD
    clear hcc hkd
    have HF : Hid (parK f (m : Int) = (kd == 2)) := Lib.hid (by rw [parK_is, HG.out, HKD.out]; rfl)
    go_enter Try.func49, Try.ntmps49
    go_wp2_with fail
    refine (isUsedNode_any f _ _ _ (HR.out.below HB0.out) HS.out).mono ?_
    rintro e w1 ⟨rfl, hb1⟩
    rw [HG.out]
    have HB1 := Lib.hid (HB0.out.trans (hb1.mono HB0.out.size))
    have HK1 := Lib.hid ((hb1.block w.heap.size (lt_of_heap HK0.out)).trans HK0.out)
    have x1c0 := (cell_blk HK1.out 0).trans rfl
    have x1c1 := (cell_blk HK1.out 1).trans rfl
    clear hb1
    have d0 := (HB1.out.cell (p := ⟨g, off + m * 7, none⟩) hg).trans HC0.out
    go_wp2
    go_ret
    exact ⟨ret_bool HF.out.symm, HB1.out⟩
  · have HG : Hid (linksK f node = false) := Lib.hid (by simpa using hg)
    have HF : Hid (parK f node = false) := Lib.hid (by rw [parK_is, HG.out]; rfl)
    go_enter Try.func49, Try.ntmps49
    go_wp2_with fail
    refine (isUsedNode_any f _ _ _ (HR.out.below HB0.out) HS.out).mono ?_
    rintro e w1 ⟨rfl, hb1⟩
    rw [HG.out]
    have HB1 := Lib.hid (HB0.out.trans (hb1.mono HB0.out.size))
    have HK1 := Lib.hid ((hb1.block w.heap.size (lt_of_heap HK0.out)).trans HK0.out)
    have x1c0 := (cell_blk HK1.out 0).trans rfl
    have x1c1 := (cell_blk HK1.out 1).trans rfl
    clear hb1
    go_wp2
    go_ret
    exact ⟨ret_bool HF.out.symm, HB1.out⟩

set_option maxHeartbeats 2000000 in
theorem bytesIn_any (f : FsD) (v : Value) (w : World) (hR : FsA w v f) (hs : szF f ≤ 1048576) : Calls Try.prog 27 #[v] w fun e w' => e = .returned (.tuple #[.int .i64 (bytesF f), .bool (goodF f)]) ∧ Below w.heap.size w w' := by
  have HR := Lib.hid hR
  obtain ⟨nv, rfl, hN⟩ := hR
  have HN := Lib.hid hN
  obtain ⟨o, c, rfl, hm, hH⟩ := hN
  have HH := Lib.hid hH
  unfold maxLen at hm
  have hl : f.nodes.length ≤ 1048576 := (lists_small hs).1
  have HS := Lib.hid hs
  have HSZ : Hid (szNs f.nodes ≤ 1048576) := Lib.hid (by unfold szF at hs; omega)
  have hb0 : Below w.heap.size w (w.alloc (.cells #[.slice o f.nodes.length c, .int .i64 f.room] 24)) := (Below.refl _ _).alloc (Nat.le_refl _) _
  have hk0 := heap_alloc_new w (.cells #[.slice o f.nodes.length c, .int .i64 f.room] 24)
  have HB0 := Lib.hid hb0
  have HK0 := Lib.hid hk0
  clear hb0 hk0 hs hH
  by_cases hg : goodF f = true
  · have HG := Lib.hid hg
    have HV : Hid (bytesF f = (sumD f.nodes : Int)) := Lib.hid (by unfold bytesF; rw [HG.out]; rfl)
    go_enter Try.func27, Try.ntmps27
    go_wp2_with fail
    refine (goodFs_any f _ _ (HR.out.below HB0.out) HS.out).mono ?_
    rintro e w1 ⟨rfl, hb1⟩
    rw [HG.out]
    have HB1 := Lib.hid (HB0.out.trans (hb1.mono HB0.out.size))
    have HK1 := Lib.hid ((hb1.block w.heap.size (lt_of_heap HK0.out)).trans HK0.out)
    have x1c0 := (cell_blk HK1.out 0).trans rfl
    have x1c1 := (cell_blk HK1.out 1).trans rfl
    clear hb1
    go_wp2_with fail
    refine (bytesOf_b (HN.out.below HB1.out) HSZ.out hl).mono ?_
    rintro e w2 ⟨rfl, hb2⟩
    have HB2 := Lib.hid (HB1.out.trans (hb2.mono HB1.out.size))
    have HK2 := Lib.hid ((hb2.block w.heap.size (lt_of_heap HK1.out)).trans HK1.out)
    have x2c0 := (cell_blk HK2.out 0).trans rfl
    have x2c1 := (cell_blk HK2.out 1).trans rfl
    clear hb2
    go_wp2
    go_ret2
    exact ⟨tupIB HV.out.symm HG.out.symm, HB2.out⟩
  · have HG : Hid (goodF f = false) := Lib.hid (by simpa using hg)
    have HV : Hid (bytesF f = 0) := Lib.hid (by unfold bytesF; rw [HG.out]; rfl)
    go_enter Try.func27, Try.ntmps27
    go_wp2_with fail
    refine (goodFs_any f _ _ (HR.out.below HB0.out) HS.out).mono ?_
    rintro e w1 ⟨rfl, hb1⟩
    rw [HG.out]
    have HB1 := Lib.hid (HB0.out.trans (hb1.mono HB0.out.size))
    have HK1 := Lib.hid ((hb1.block w.heap.size (lt_of_heap HK0.out)).trans HK0.out)
    have x1c0 := (cell_blk HK1.out 0).trans rfl
    have x1c1 := (cell_blk HK1.out 1).trans rfl
    clear hb1
    go_wp2
    go_ret2
    exact ⟨tupIB HV.out.symm HG.out.symm, HB1.out⟩

theorem free_vals {f : FsD} (hg : goodF f = true) {k : Int} (h : freeAt f.nodes = k) : (0 ≤ k → freeF f = k ∧ freeK f = true) ∧ (k < 0 → freeF f = 0 ∧ freeK f = false) := by
  refine ⟨fun h0 => ⟨by unfold freeF; rw [hg, h]; simp; omega, by unfold freeK; rw [hg, h]; simp; omega⟩, fun h0 => ⟨by unfold freeF; rw [hg, h]; simp; omega, by unfold freeK; rw [hg, h]; simp; omega⟩⟩

set_option maxHeartbeats 2000000 in
theorem freeNode_any (f : FsD) (v : Value) (w : World) (hR : FsA w v f) (hs : szF f ≤ 1048576) : Calls Try.prog 29 #[v] w fun e w' => e = .returned (.tuple #[.int .i64 (freeF f), .bool (freeK f)]) ∧ Below w.heap.size w w' := by
  have HR := Lib.hid hR
  obtain ⟨nv, rfl, hN⟩ := hR
  have HN := Lib.hid hN
  obtain ⟨o, c, rfl, hm, hH⟩ := hN
  have HH := Lib.hid hH
  unfold maxLen at hm
  have hl : f.nodes.length ≤ 1048576 := (lists_small hs).1
  have HS := Lib.hid hs
  have HSZ : Hid (szNs f.nodes ≤ 1048576) := Lib.hid (by unfold szF at hs; omega)
  have hb0 : Below w.heap.size w (w.alloc (.cells #[.slice o f.nodes.length c, .int .i64 f.room] 24)) := (Below.refl _ _).alloc (Nat.le_refl _) _
  have hk0 := heap_alloc_new w (.cells #[.slice o f.nodes.length c, .int .i64 f.room] 24)
  have HB0 := Lib.hid hb0
  have HK0 := Lib.hid hk0
  clear hb0 hk0 hs hH
  by_cases hg : goodF f = true
  · have HG := Lib.hid hg
    go_enter Try.func29, Try.ntmps29
    go_wp2_with fail
    refine (goodFs_any f _ _ (HR.out.below HB0.out) HS.out).mono ?_
    rintro e w1 ⟨rfl, hb1⟩
    rw [HG.out]
    have HB1 := Lib.hid (HB0.out.trans (hb1.mono HB0.out.size))
    have HK1 := Lib.hid ((hb1.block w.heap.size (lt_of_heap HK0.out)).trans HK0.out)
    have x1c0 := (cell_blk HK1.out 0).trans rfl
    have x1c1 := (cell_blk HK1.out 1).trans rfl
    clear hb1
    go_wp2
    go_loop [11] (fun i => ∃ k : Nat, k ≤ f.nodes.length ∧ i = .int .i64 k ∧ ∀ j (hj : j < f.nodes.length), j < k → (f.nodes[j].kind == 0) = false) (fun i => f.nodes.length - (intOf i).toNat)
    case atStart => exact ⟨0, Nat.zero_le _, rfl, fun j hj h => absurd h (Nat.not_lt_zero _)⟩
    case round =>
      obtain ⟨k, hk, rfl, hJ⟩ := hrel
      have HJ := Lib.hid hJ
      clear hJ
      by_cases hlt : k < f.nodes.length
      · obtain ⟨g, off, lv, rfl, hgg, hc, he, hml⟩ := HH.out k hlt
        have d0 := (hc.below HB1.out hgg).c0
        obtain ⟨kd, hkd⟩ : ∃ kd, kd = f.nodes[k].kind := ⟨_, rfl⟩
        have HQ := Lib.hid hkd
        rw [← hkd] at d0
        clear hc he hml hkd
        by_cases hz : kd = 0
        · have HFA : Hid (freeAt f.nodes = k) := Lib.hid (by
            unfold freeAt
            rw [findIdx_is hlt (by rw [← HQ.out, hz]; rfl) HJ.out])
          have HV := Lib.hid ((free_vals HG.out HFA.out).1 (by omega))
          subst hz
          go_wp2
          go_ret2
          exact ⟨tupIB HV.out.1.symm HV.out.2.symm, HB1.out⟩
        · have zb : (kd == 0) = false := beq_eq_false_iff_ne.2 hz
          have HJ2 : Hid (∀ j (hj : j < f.nodes.length), j < k + 1 → (f.nodes[j].kind == 0) = false) := Lib.hid (by
            intro j hj h
            rcases Nat.lt_succ_iff_lt_or_eq.1 h with h1 | rfl
            · exact HJ.out j hj h1
            · rw [← HQ.out]; exact zb)
          go_wp2
          go_round
          case rel => exact ⟨k + 1, hlt, by go_num, HJ2.out⟩
          case measure => simp [intOf]; omega
      · have HNI : Hid (f.nodes.findIdx? (fun n => n.kind == 0) = none) := Lib.hid (findIdx_not (fun j hj => HJ.out j hj (by omega)))
        by_cases h40 : f.nodes.length = 40
        · have HFA : Hid (freeAt f.nodes = -1) := Lib.hid (by unfold freeAt; rw [HNI.out]; simp [h40])
          have HV := Lib.hid ((free_vals HG.out HFA.out).2 (by omega))
          have h41 : (f.nodes.length : Int) = 40 := by omega
          go_wp2
          go_ret2
          exact ⟨tupIB HV.out.1.symm HV.out.2.symm, HB1.out⟩
        · have HFA : Hid (freeAt f.nodes = f.nodes.length) := Lib.hid (by unfold freeAt; rw [HNI.out]; simp [h40])
          have HV := Lib.hid ((free_vals HG.out HFA.out).1 (by omega))
          have h41 : ((f.nodes.length : Int) == 40) = false := by rw [beq_eq_false_iff_ne]; omega
          go_wp2
          go_ret2
          exact ⟨tupIB HV.out.1.symm HV.out.2.symm, HB1.out⟩
  · have HG : Hid (goodF f = false) := Lib.hid (by simpa using hg)
    have HV : Hid (freeF f = 0) := Lib.hid (by unfold freeF; rw [HG.out]; simp)
    have HW : Hid (freeK f = false) := Lib.hid (by unfold freeK; rw [HG.out]; rfl)
    go_enter Try.func29, Try.ntmps29
    go_wp2_with fail
    refine (goodFs_any f _ _ (HR.out.below HB0.out) HS.out).mono ?_
    rintro e w1 ⟨rfl, hb1⟩
    rw [HG.out]
    have HB1 := Lib.hid (HB0.out.trans (hb1.mono HB0.out.size))
    have HK1 := Lib.hid ((hb1.block w.heap.size (lt_of_heap HK0.out)).trans HK0.out)
    have x1c0 := (cell_blk HK1.out 0).trans rfl
    have x1c1 := (cell_blk HK1.out 1).trans rfl
    clear hb1
    go_wp2
    go_ret2
    exact ⟨tupIB HV.out.symm HW.out.symm, HB1.out⟩

set_option maxHeartbeats 2000000 in
theorem linksOf_any (f : FsD) (node : Int) (v : Value) (w : World) (hR : FsA w v f) (hs : szF f ≤ 1048576) : Calls Try.prog 21 #[v, .int .i64 node] w fun e w' => e = .returned (.tuple #[.int .i64 (linksF f node), .bool (linksK f node)]) ∧ Below w.heap.size w w' := by
  have HR := Lib.hid hR
  obtain ⟨nv, rfl, hN⟩ := hR
  have HN := Lib.hid hN
  obtain ⟨o, c, rfl, hm, hH⟩ := hN
  have HH := Lib.hid hH
  unfold maxLen at hm
  have hl : f.nodes.length ≤ 1048576 := (lists_small hs).1
  have HS := Lib.hid hs
  have HSZ : Hid (szNs f.nodes ≤ 1048576) := Lib.hid (by unfold szF at hs; omega)
  have hb0 : Below w.heap.size w (w.alloc (.cells #[.slice o f.nodes.length c, .int .i64 f.room] 24)) := (Below.refl _ _).alloc (Nat.le_refl _) _
  have hk0 := heap_alloc_new w (.cells #[.slice o f.nodes.length c, .int .i64 f.room] 24)
  have HB0 := Lib.hid hb0
  have HK0 := Lib.hid hk0
  clear hb0 hk0 hs hH
  by_cases hg : linksK f node = true
  · have HG := Lib.hid hg
    obtain ⟨hgd, h0, h1⟩ := linksK_in hg
    have HLD := Lib.hid (good_lead hgd)
    obtain ⟨m, rfl⟩ : ∃ m : Nat, node = m := ⟨node.toNat, by omega⟩
    have hml : m < f.nodes.length := by omega
    have HV : Hid (linksF f (m : Int) = ((placesF f.nodes m).links : Int)) := Lib.hid (by unfold linksF; rw [HG.out, pl_links]; rfl)
    clear hg hgd
    go_enter Try.func21, Try.ntmps21
    go_wp2_with fail
    refine (isUsedNode_any f _ _ _ (HR.out.below HB0.out) HS.out).mono ?_
    rintro e w1 ⟨rfl, hb1⟩
    rw [HG.out]
    have HB1 := Lib.hid (HB0.out.trans (hb1.mono HB0.out.size))
    have HK1 := Lib.hid ((hb1.block w.heap.size (lt_of_heap HK0.out)).trans HK0.out)
    have x1c0 := (cell_blk HK1.out 0).trans rfl
    have x1c1 := (cell_blk HK1.out 1).trans rfl
    clear hb1
    go_wp2_with fail
    refine (placesIn_any f.nodes _ _ (HN.out.below HB1.out) HSZ.out hl HLD.out).mono ?_
    rintro e w2 ⟨u, rfl, hp, hb2⟩
    have HB2 := Lib.hid (HB1.out.trans (hb2.mono HB1.out.size))
    obtain ⟨G, cp, rfl, hcp, hcm, -, hr⟩ := hp
    unfold maxLen at hcm
    have b0 := hr.cell (j := m * 3) (by omega)
    rw [plF0] at b0
    clear hb2 hr
    go_wp2
    go_ret2
    exact ⟨tupIB HV.out.symm HG.out.symm, HB2.out⟩
  · have HG : Hid (linksK f node = false) := Lib.hid (by simpa using hg)
    have HV : Hid (linksF f node = 0) := Lib.hid (by unfold linksF; rw [HG.out]; rfl)
    go_enter Try.func21, Try.ntmps21
    go_wp2_with fail
    refine (isUsedNode_any f _ _ _ (HR.out.below HB0.out) HS.out).mono ?_
    rintro e w1 ⟨rfl, hb1⟩
    rw [HG.out]
    have HB1 := Lib.hid (HB0.out.trans (hb1.mono HB0.out.size))
    have HK1 := Lib.hid ((hb1.block w.heap.size (lt_of_heap HK0.out)).trans HK0.out)
    have x1c0 := (cell_blk HK1.out 0).trans rfl
    have x1c1 := (cell_blk HK1.out 1).trans rfl
    clear hb1
    go_wp2
    go_ret2
    exact ⟨tupIB HV.out.symm HG.out.symm, HB1.out⟩

theorem parK_in {f : FsD} {node : Int} (h : parK f node = true) : goodF f = true ∧ 0 ≤ node ∧ node < f.nodes.length ∧ kindAt f.nodes node = 2 := by
  rw [parK_is, Bool.and_eq_true] at h
  obtain ⟨h1, h2, h3⟩ := linksK_in h.1
  exact ⟨h1, h2, h3, by simpa using h.2⟩
/-- Of a directory the place's directory is the parent. -/
theorem place_parent {f : FsD} {m : Nat} (h : goodF f = true) (hm : m < f.nodes.length) (hk : kindAt f.nodes m = 2) : (placesF f.nodes m).dir = parentOf m f.nodes := by
  have hG := (goodF_GoodF h).2.2.2.2.2 m hm
  rcases Nat.eq_zero_or_pos m with rfl | hp
  · have h0 : links (0 : Int) f.nodes = 0 := hG.1 rfl
    have h1 : placesF f.nodes ((0 : Nat) : Int) = pl0 := pl_none h0
    rw [h1]
    unfold parentOf
    rw [findIdx_not (p := fun n : Nod => hasE ((0 : Nat) : Int) n.list) (fun j hj => by
      cases hh : hasE ((0 : Nat) : Int) f.nodes[j].list with
      | false => rfl
      | true => have h2 : 0 < links (0 : Int) f.nodes := links_pos hj (hasE_iff.1 hh)
                omega)]
    rfl
  · have h1 : links m f.nodes = 1 := hG.2.1 hp hk
    obtain ⟨d, hd, e1, e2, -⟩ := pl_some (ns := f.nodes) (i := m) (by omega)
    rw [e1, parent_is h1 hd e2]

set_option maxHeartbeats 2000000 in
theorem parentOfI_any (f : FsD) (node : Int) (v : Value) (w : World) (hR : FsA w v f) (hs : szF f ≤ 1048576) : Calls Try.prog 23 #[v, .int .i64 node] w fun e w' => e = .returned (.tuple #[.int .i64 (parF f node), .bool (parK f node)]) ∧ Below w.heap.size w w' := by
  have HR := Lib.hid hR
  obtain ⟨nv, rfl, hN⟩ := hR
  have HN := Lib.hid hN
  obtain ⟨o, c, rfl, hm, hH⟩ := hN
  have HH := Lib.hid hH
  unfold maxLen at hm
  have hl : f.nodes.length ≤ 1048576 := (lists_small hs).1
  have HS := Lib.hid hs
  have HSZ : Hid (szNs f.nodes ≤ 1048576) := Lib.hid (by unfold szF at hs; omega)
  have hb0 : Below w.heap.size w (w.alloc (.cells #[.slice o f.nodes.length c, .int .i64 f.room] 24)) := (Below.refl _ _).alloc (Nat.le_refl _) _
  have hk0 := heap_alloc_new w (.cells #[.slice o f.nodes.length c, .int .i64 f.room] 24)
  have HB0 := Lib.hid hb0
  have HK0 := Lib.hid hk0
  clear hb0 hk0 hs hH
  by_cases hg : parK f node = true
  · have HG := Lib.hid hg
    obtain ⟨hgd, h0, h1, hk2⟩ := parK_in hg
    have HLD := Lib.hid (good_lead hgd)
    obtain ⟨m, rfl⟩ : ∃ m : Nat, node = m := ⟨node.toNat, by omega⟩
    have hml : m < f.nodes.length := by omega
    have HV : Hid (parF f (m : Int) = ((placesF f.nodes m).dir : Int)) := Lib.hid (by unfold parF; rw [HG.out, place_parent hgd hml hk2]; rfl)
    clear hg hgd hk2
    go_enter Try.func23, Try.ntmps23
    go_wp2_with fail
    refine (isDirNode_any f _ _ _ (HR.out.below HB0.out) HS.out).mono ?_
    rintro e w1 ⟨rfl, hb1⟩
    rw [HG.out]
    have HB1 := Lib.hid (HB0.out.trans (hb1.mono HB0.out.size))
    have HK1 := Lib.hid ((hb1.block w.heap.size (lt_of_heap HK0.out)).trans HK0.out)
    have x1c0 := (cell_blk HK1.out 0).trans rfl
    have x1c1 := (cell_blk HK1.out 1).trans rfl
    clear hb1
    go_wp2_with fail
    refine (placesIn_any f.nodes _ _ (HN.out.below HB1.out) HSZ.out hl HLD.out).mono ?_
    rintro e w2 ⟨u, rfl, hp, hb2⟩
    have HB2 := Lib.hid (HB1.out.trans (hb2.mono HB1.out.size))
    obtain ⟨G, cp, rfl, hcp, hcm, -, hr⟩ := hp
    unfold maxLen at hcm
    have b1 := hr.cell (j := m * 3 + 1) (by omega)
    rw [plF1] at b1
    clear hb2 hr
    go_wp2
    go_ret2
    exact ⟨tupIB HV.out.symm HG.out.symm, HB2.out⟩
  · have HG : Hid (parK f node = false) := Lib.hid (by simpa using hg)
    have HV : Hid (parF f node = 0) := Lib.hid (by unfold parF; rw [HG.out]; rfl)
    go_enter Try.func23, Try.ntmps23
    go_wp2_with fail
    refine (isDirNode_any f _ _ _ (HR.out.below HB0.out) HS.out).mono ?_
    rintro e w1 ⟨rfl, hb1⟩
    rw [HG.out]
    have HB1 := Lib.hid (HB0.out.trans (hb1.mono HB0.out.size))
    have HK1 := Lib.hid ((hb1.block w.heap.size (lt_of_heap HK0.out)).trans HK0.out)
    have x1c0 := (cell_blk HK1.out 0).trans rfl
    have x1c1 := (cell_blk HK1.out 1).trans rfl
    clear hb1
    go_wp2
    go_ret2
    exact ⟨tupIB HV.out.symm HG.out.symm, HB1.out⟩
end Go.Proofs.Ytdjpngdgbijedaa
