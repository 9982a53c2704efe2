
/-
  The model's GoodFs, LinksOf, ParentOf, BytesIn, FreeNode.
  Conditions: at most 2^20 values and letters together.
-/
import Derived.Test.YtdjpngdgbijedaaFsZ
namespace Go.Proofs.Ytdjpngdgbijedaa
open Go.ChangeShapes Go.WideShapes Go.ChangeAt Go.RowKit Go.Joins
set_option linter.unusedVariables false

theorem tupIB {a a' : Int} {b b' : Bool} (h1 : a = a') (h2 : b = b') : Ending.returned (.tuple #[.int .i64 a, .bool b]) = .returned (.tuple #[.int .i64 a', .bool b']) := by rw [h1, h2]

set_option maxHeartbeats 1000000 in
theorem specGoodFs_any (f : FsD) (v : Value) (w : World) (hR : FsA w v f) (hs : szF f ≤ 1048576) : Calls Try.prog 17 #[v] w fun e w' => e = .returned (.bool (goodF f)) ∧ Below w.heap.size w w' := by
  have HR := Lib.hid hR
  obtain ⟨nv, rfl, hN⟩ := hR
  obtain ⟨o, c, rfl, hm, -⟩ := hN
  have HB : Hid (∀ oo, Below w.heap.size w (w.alloc oo)) := Lib.hid (fun oo => (Below.refl _ _).alloc (Nat.le_refl _) _)
  go_enter Try.func17, Try.ntmps17
  go_wp2_with fail
  refine (l3Good_any f _ _ (by first | exact HR.out | exact HR.out.below (HB.out _)) hs).mono ?_
  rintro e w1 ⟨rfl, hb1⟩
  have HB1 : Hid (Below w.heap.size w w1) := Lib.hid (by first | exact hb1 | exact (HB.out _).trans (hb1.mono (HB.out _).size))
  clear hb1
  go_wp2
  go_ret
  exact ⟨rfl, HB1.out⟩

def isN (ns : List Nod) (node : Int) : Bool := inB 0 ((ns.length : Int) - 1) node && !(kindAt ns node == 0)

set_option maxHeartbeats 2000000 in
theorem l3Is_any (f : FsD) (node : Int) (v : Value) (w : World) (hR : FsA w v f) (hs : f.nodes.length ≤ 1048576) : Calls Try.prog 43 #[v, .int .i64 node] w fun e w' => e = .returned (.bool (isN f.nodes node)) ∧ Below w.heap.size w w' := by
  obtain ⟨nv, rfl, hN⟩ := hR
  obtain ⟨o, c, rfl, hm, hH⟩ := hN
  unfold maxLen at hm
  have hbw : Below w.heap.size w (w.alloc (.cells #[.slice o f.nodes.length c, .int .i64 f.room] 24)) := (Below.refl _ _).alloc (Nat.le_refl _) _
  by_cases hc : inB 0 ((f.nodes.length : Int) - 1) node = true
  · have HC := Lib.hid hc
    obtain ⟨r1, r2⟩ := inB_t hc
    obtain ⟨m, rfl⟩ : ∃ m : Nat, node = m := ⟨node.toNat, by omega⟩
    have hml : m < f.nodes.length := by omega
    obtain ⟨g, off, nl, rfl, hg, hcc, -, -⟩ := hH m hml
    have d0 := (hbw.cell (p := ⟨g, off + m * 7, none⟩) hg).trans hcc.c0
    obtain ⟨kd, hkd⟩ : ∃ kd, kd = f.nodes[m].kind := ⟨_, rfl⟩
    rw [← hkd] at d0
    have HKD : Hid (kindAt f.nodes (m : Int) = kd) := Lib.hid (by rw [hkd]; simp [kindAt, List.getD, hml])
    have HB := Lib.hid hbw
    clear hcc hkd hc hH hbw
    by_cases hz : kd = 0
    · have HF : Hid (isN f.nodes (m : Int) = false) := Lib.hid (by unfold isN; rw [HC.out, HKD.out, hz]; rfl)
      subst hz
      go_enter Try.func43, Try.ntmps43
      go_wp2_with (go_at_call 32; refine (l1In_eq HC.out _).mono ?_; rintro e w' ⟨rfl, rfl⟩)
      go_ret
      exact ⟨ret_bool HF.out.symm, HB.out⟩
    · have HF : Hid (isN f.nodes (m : Int) = true) := Lib.hid (by unfold isN; rw [HC.out, HKD.out]; simp [hz])
      have zb : (kd != 0) = true := by simpa using hz
      go_enter Try.func43, Try.ntmps43
      go_wp2_with (go_at_call 32; refine (l1In_eq HC.out _).mono ?_; rintro e w' ⟨rfl, rfl⟩)
      go_ret
      exact ⟨ret_bool HF.out.symm, HB.out⟩
  · have HC : Hid (inB 0 ((f.nodes.length : Int) - 1) node = false) := Lib.hid (by simpa using hc)
    have HF : Hid (isN f.nodes node = false) := Lib.hid (by unfold isN; rw [HC.out]; rfl)
    have HB := Lib.hid hbw
    clear hc hH hbw
    go_enter Try.func43, Try.ntmps43
    go_wp2_with (go_at_call 32; refine (l1In_eq HC.out _).mono ?_; rintro e w' ⟨rfl, rfl⟩)
    go_ret
    exact ⟨ret_bool HF.out.symm, HB.out⟩

noncomputable def bytesF (f : FsD) : Int := if goodF f = true then (sumD f.nodes : Int) else 0

set_option maxHeartbeats 2000000 in
theorem specBytesIn_any (f : FsD) (v : Value) (w : World) (hR : FsA w v f) (hs : szF f ≤ 1048576) : Calls Try.prog 26 #[v] w fun e w' => e = .returned (.tuple #[.int .i64 (bytesF f), .bool (goodF f)]) ∧ Below w.heap.size w w' := by
  have HR := Lib.hid hR
  obtain ⟨nv, rfl, hN⟩ := hR
  obtain ⟨o, c, rfl, hm, -⟩ := hN
  have hl : f.nodes.length ≤ 1048576 := (lists_small hs).1
  have HS := Lib.hid hs
  have hbw : Below w.heap.size w (w.alloc (.cells #[.slice o f.nodes.length c, .int .i64 f.room] 24)) := (Below.refl _ _).alloc (Nat.le_refl _) _
  have hk0 := heap_alloc_new w (.cells #[.slice o f.nodes.length c, .int .i64 f.room] 24)
  have HB := Lib.hid hbw
  have HK := Lib.hid hk0
  clear hbw hk0 hs
  by_cases hg : goodF f = true
  · have HG := Lib.hid hg
    have HV : Hid (bytesF f = (sumD f.nodes : Int)) := Lib.hid (by unfold bytesF; rw [HG.out]; rfl)
    go_enter Try.func26, Try.ntmps26
    go_wp2_with fail
    refine (l3Good_any f _ _ (HR.out.below HB.out) HS.out).mono ?_
    rintro e w1 ⟨rfl, hb1⟩
    rw [HG.out]
    have HB1 := Lib.hid (HB.out.trans (hb1.mono HB.out.size))
    have HK1 := Lib.hid ((hb1.block w.heap.size (lt_of_heap HK.out)).trans HK.out)
    have x1 := (cell_blk HK1.out 0).trans rfl
    have y1 := (cell_blk HK1.out 1).trans rfl
    clear hb1
    go_wp2_with fail
    refine (l3Bytes_any f _ _ (HR.out.below HB1.out) HS.out).mono ?_
    rintro e w2 ⟨rfl, hb2⟩
    have HB2 := Lib.hid (HB1.out.trans (hb2.mono HB1.out.size))
    have HK2 := Lib.hid ((hb2.block w.heap.size (lt_of_heap HK1.out)).trans HK1.out)
    have x2 := (cell_blk HK2.out 0).trans rfl
    have y2 := (cell_blk HK2.out 1).trans rfl
    clear hb2
    go_wp2
    go_ret2
    exact ⟨tupIB HV.out.symm HG.out.symm, HB2.out⟩
  · have HG := Lib.hid (show goodF f = false by simpa using hg)
    have HV : Hid (bytesF f = 0) := Lib.hid (by unfold bytesF; rw [HG.out]; rfl)
    go_enter Try.func26, Try.ntmps26
    go_wp2_with fail
    refine (l3Good_any f _ _ (HR.out.below HB.out) HS.out).mono ?_
    rintro e w1 ⟨rfl, hb1⟩
    rw [HG.out]
    have HB1 := Lib.hid (HB.out.trans (hb1.mono HB.out.size))
    have HK1 := Lib.hid ((hb1.block w.heap.size (lt_of_heap HK.out)).trans HK.out)
    have x1 := (cell_blk HK1.out 0).trans rfl
    have y1 := (cell_blk HK1.out 1).trans rfl
    clear hb1
    go_wp2
    go_ret2
    exact ⟨tupIB HV.out.symm HG.out.symm, HB1.out⟩

noncomputable def freeF (f : FsD) : Int := if goodF f = true ∧ 0 ≤ freeAt f.nodes then freeAt f.nodes else 0
noncomputable def freeK (f : FsD) : Bool := goodF f && decide (0 ≤ freeAt f.nodes)

set_option maxHeartbeats 2000000 in
theorem specFreeNode_any (f : FsD) (v : Value) (w : World) (hR : FsA w v f) (hs : szF f ≤ 1048576) : Calls Try.prog 28 #[v] w fun e w' => e = .returned (.tuple #[.int .i64 (freeF f), .bool (freeK f)]) ∧ Below w.heap.size w w' := by
  have HR := Lib.hid hR
  obtain ⟨nv, rfl, hN⟩ := hR
  obtain ⟨o, c, rfl, hm, -⟩ := hN
  have hl : f.nodes.length ≤ 1048576 := (lists_small hs).1
  have HS := Lib.hid hs
  have hbw : Below w.heap.size w (w.alloc (.cells #[.slice o f.nodes.length c, .int .i64 f.room] 24)) := (Below.refl _ _).alloc (Nat.le_refl _) _
  have hk0 := heap_alloc_new w (.cells #[.slice o f.nodes.length c, .int .i64 f.room] 24)
  have HB := Lib.hid hbw
  have HK := Lib.hid hk0
  clear hbw hk0 hs
  obtain ⟨fa, hfa⟩ : ∃ fa, freeAt f.nodes = fa := ⟨_, rfl⟩
  have HFA := Lib.hid hfa
  clear hfa
  by_cases hg : goodF f = true
  · have HG := Lib.hid hg
    by_cases h0 : 0 ≤ fa
    · skip
      have HV : Hid (freeF f = fa) := Lib.hid (by unfold freeF; rw [HG.out, HFA.out]; simp [h0])
      have HW : Hid (freeK f = true) := Lib.hid (by unfold freeK; rw [HG.out, HFA.out]; simp [h0])
      have hlt : ¬ fa < 0 := by omega
      go_enter Try.func28, Try.ntmps28
      go_wp2_with fail
      refine (l3Good_any f _ _ (HR.out.below HB.out) HS.out).mono ?_
      rintro e w1 ⟨rfl, hb1⟩
      rw [HG.out]
      have HB1 := Lib.hid (HB.out.trans (hb1.mono HB.out.size))
      have HK1 := Lib.hid ((hb1.block w.heap.size (lt_of_heap HK.out)).trans HK.out)
      have x1 := (cell_blk HK1.out 0).trans rfl
      have y1 := (cell_blk HK1.out 1).trans rfl
      clear hb1
      go_wp2_with fail
      refine (l3Free_any f _ _ (HR.out.below HB1.out) hl).mono ?_
      rintro e w2 ⟨rfl, hb2⟩
      rw [HFA.out]
      have HB2 := Lib.hid (HB1.out.trans (hb2.mono HB1.out.size))
      have HK2 := Lib.hid ((hb2.block w.heap.size (lt_of_heap HK1.out)).trans HK1.out)
      have x2 := (cell_blk HK2.out 0).trans rfl
      have y2 := (cell_blk HK2.out 1).trans rfl
      clear hb2
      go_wp2_with fail
      refine (l3Free_any f _ _ (HR.out.below HB2.out) hl).mono ?_
      rintro e w3 ⟨rfl, hb3⟩
      rw [HFA.out]
      have HB3 := Lib.hid (HB2.out.trans (hb3.mono HB2.out.size))
      have HK3 := Lib.hid ((hb3.block w.heap.size (lt_of_heap HK2.out)).trans HK2.out)
      have x3 := (cell_blk HK3.out 0).trans rfl
      have y3 := (cell_blk HK3.out 1).trans rfl
      clear hb3
      go_wp2
      go_ret2
      exact ⟨tupIB HV.out.symm HW.out.symm, HB3.out⟩
    · skip
      have HV : Hid (freeF f = 0) := Lib.hid (by unfold freeF; rw [HG.out, HFA.out]; simp [h0])
      have HW : Hid (freeK f = false) := Lib.hid (by unfold freeK; rw [HG.out, HFA.out]; simp [h0])
      have hlt : fa < 0 := by omega
      go_enter Try.func28, Try.ntmps28
      go_wp2_with fail
      refine (l3Good_any f _ _ (HR.out.below HB.out) HS.out).mono ?_
      rintro e w1 ⟨rfl, hb1⟩
      rw [HG.out]
      have HB1 := Lib.hid (HB.out.trans (hb1.mono HB.out.size))
      have HK1 := Lib.hid ((hb1.block w.heap.size (lt_of_heap HK.out)).trans HK.out)
      have x1 := (cell_blk HK1.out 0).trans rfl
      have y1 := (cell_blk HK1.out 1).trans rfl
      clear hb1
      go_wp2_with fail
      refine (l3Free_any f _ _ (HR.out.below HB1.out) hl).mono ?_
      rintro e w2 ⟨rfl, hb2⟩
      rw [HFA.out]
      have HB2 := Lib.hid (HB1.out.trans (hb2.mono HB1.out.size))
      have HK2 := Lib.hid ((hb2.block w.heap.size (lt_of_heap HK1.out)).trans HK1.out)
      have x2 := (cell_blk HK2.out 0).trans rfl
      have y2 := (cell_blk HK2.out 1).trans rfl
      clear hb2
      go_wp2
      go_ret2
      exact ⟨tupIB HV.out.symm HW.out.symm, HB2.out⟩
  · have HG : Hid (goodF f = false) := Lib.hid (by simpa using hg)
    have HV : Hid (freeF f = 0) := Lib.hid (by unfold freeF; rw [HG.out]; simp)
    have HW : Hid (freeK f = false) := Lib.hid (by unfold freeK; rw [HG.out]; rfl)
    go_enter Try.func28, Try.ntmps28
    go_wp2_with fail
    refine (l3Good_any f _ _ (HR.out.below HB.out) HS.out).mono ?_
    rintro e w1 ⟨rfl, hb1⟩
    rw [HG.out]
    have HB1 := Lib.hid (HB.out.trans (hb1.mono HB.out.size))
    have HK1 := Lib.hid ((hb1.block w.heap.size (lt_of_heap HK.out)).trans HK.out)
    have x1 := (cell_blk HK1.out 0).trans rfl
    have y1 := (cell_blk HK1.out 1).trans rfl
    clear hb1
    go_wp2
    go_ret2
    exact ⟨tupIB HV.out.symm HW.out.symm, HB1.out⟩

noncomputable def linksK (f : FsD) (node : Int) : Bool := goodF f && isN f.nodes node
noncomputable def linksF (f : FsD) (node : Int) : Int := if linksK f node = true then (links node f.nodes : Int) else 0

set_option maxHeartbeats 2000000 in
theorem specLinksOf_any (f : FsD) (node : Int) (v : Value) (w : World) (hR : FsA w v f) (hs : szF f ≤ 1048576) : Calls Try.prog 20 #[v, .int .i64 node] w fun e w' => e = .returned (.tuple #[.int .i64 (linksF f node), .bool (linksK f node)]) ∧ Below w.heap.size w w' := by
  have HR := Lib.hid hR
  obtain ⟨nv, rfl, hN⟩ := hR
  obtain ⟨o, c, rfl, hm, -⟩ := hN
  have hl : f.nodes.length ≤ 1048576 := (lists_small hs).1
  have HS := Lib.hid hs
  have hbw : Below w.heap.size w (w.alloc (.cells #[.slice o f.nodes.length c, .int .i64 f.room] 24)) := (Below.refl _ _).alloc (Nat.le_refl _) _
  have hk0 := heap_alloc_new w (.cells #[.slice o f.nodes.length c, .int .i64 f.room] 24)
  have HB := Lib.hid hbw
  have HK := Lib.hid hk0
  clear hbw hk0 hs
  by_cases hg : goodF f = true
  · have HG := Lib.hid hg
    by_cases hi : isN f.nodes node = true
    · have HI := Lib.hid hi
      have HW : Hid (linksK f node = true) := Lib.hid (by unfold linksK; rw [HG.out, HI.out]; rfl)
      have HV : Hid (linksF f node = (links node f.nodes : Int)) := Lib.hid (by unfold linksF; rw [HW.out]; rfl)
      go_enter Try.func20, Try.ntmps20
      go_wp2_with fail
      refine (l3Good_any f _ _ (HR.out.below HB.out) HS.out).mono ?_
      rintro e w1 ⟨rfl, hb1⟩
      rw [HG.out]
      have HB1 := Lib.hid (HB.out.trans (hb1.mono HB.out.size))
      have HK1 := Lib.hid ((hb1.block w.heap.size (lt_of_heap HK.out)).trans HK.out)
      have x1 := (cell_blk HK1.out 0).trans rfl
      have y1 := (cell_blk HK1.out 1).trans rfl
      clear hb1
      go_wp2_with fail
      refine (l3Is_any f node _ _ (HR.out.below HB1.out) hl).mono ?_
      rintro e w2 ⟨rfl, hb2⟩
      rw [HI.out]
      have HB2 := Lib.hid (HB1.out.trans (hb2.mono HB1.out.size))
      have HK2 := Lib.hid ((hb2.block w.heap.size (lt_of_heap HK1.out)).trans HK1.out)
      have x2 := (cell_blk HK2.out 0).trans rfl
      have y2 := (cell_blk HK2.out 1).trans rfl
      clear hb2
      go_wp2_with fail
      refine (l3Links_any f node _ _ (HR.out.below HB2.out) HS.out).mono ?_
      rintro e w3 ⟨rfl, hb3⟩
      have HB3 := Lib.hid (HB2.out.trans (hb3.mono HB2.out.size))
      have HK3 := Lib.hid ((hb3.block w.heap.size (lt_of_heap HK2.out)).trans HK2.out)
      have x3 := (cell_blk HK3.out 0).trans rfl
      have y3 := (cell_blk HK3.out 1).trans rfl
      clear hb3
      go_wp2
      go_ret2
      exact ⟨tupIB HV.out.symm HW.out.symm, HB3.out⟩
    · have HI : Hid (isN f.nodes node = false) := Lib.hid (by simpa using hi)
      have HW : Hid (linksK f node = false) := Lib.hid (by unfold linksK; rw [HG.out, HI.out]; rfl)
      have HV : Hid (linksF f node = 0) := Lib.hid (by unfold linksF; rw [HW.out]; rfl)
      go_enter Try.func20, Try.ntmps20
      go_wp2_with fail
      refine (l3Good_any f _ _ (HR.out.below HB.out) HS.out).mono ?_
      rintro e w1 ⟨rfl, hb1⟩
      rw [HG.out]
      have HB1 := Lib.hid (HB.out.trans (hb1.mono HB.out.size))
      have HK1 := Lib.hid ((hb1.block w.heap.size (lt_of_heap HK.out)).trans HK.out)
      have x1 := (cell_blk HK1.out 0).trans rfl
      have y1 := (cell_blk HK1.out 1).trans rfl
      clear hb1
      go_wp2_with fail
      refine (l3Is_any f node _ _ (HR.out.below HB1.out) hl).mono ?_
      rintro e w2 ⟨rfl, hb2⟩
      rw [HI.out]
      have HB2 := Lib.hid (HB1.out.trans (hb2.mono HB1.out.size))
      have HK2 := Lib.hid ((hb2.block w.heap.size (lt_of_heap HK1.out)).trans HK1.out)
      have x2 := (cell_blk HK2.out 0).trans rfl
      have y2 := (cell_blk HK2.out 1).trans rfl
      clear hb2
      go_wp2
      go_ret2
      exact ⟨tupIB HV.out.symm HW.out.symm, HB2.out⟩
  · have HG : Hid (goodF f = false) := Lib.hid (by simpa using hg)
    have HW : Hid (linksK f node = false) := Lib.hid (by unfold linksK; rw [HG.out]; rfl)
    have HV : Hid (linksF f node = 0) := Lib.hid (by unfold linksF; rw [HW.out]; rfl)
    go_enter Try.func20, Try.ntmps20
    go_wp2_with fail
    refine (l3Good_any f _ _ (HR.out.below HB.out) HS.out).mono ?_
    rintro e w1 ⟨rfl, hb1⟩
    rw [HG.out]
    have HB1 := Lib.hid (HB.out.trans (hb1.mono HB.out.size))
    have HK1 := Lib.hid ((hb1.block w.heap.size (lt_of_heap HK.out)).trans HK.out)
    have x1 := (cell_blk HK1.out 0).trans rfl
    have y1 := (cell_blk HK1.out 1).trans rfl
    clear hb1
    go_wp2
    go_ret2
    exact ⟨tupIB HV.out.symm HW.out.symm, HB1.out⟩

def isDirN (ns : List Nod) (node : Int) : Bool := isN ns node && (kindAt ns node == 2)
set_option maxHeartbeats 2000000 in
theorem l3IsDir_any (f : FsD) (node : Int) (v : Value) (w : World) (hR : FsA w v f) (hs : f.nodes.length ≤ 1048576) : Calls Try.prog 47 #[v, .int .i64 node] w fun e w' => e = .returned (.bool (isDirN f.nodes node)) ∧ Below w.heap.size w w' := by
  have HR := Lib.hid hR
  obtain ⟨nv, rfl, hN⟩ := hR
  obtain ⟨o, c, rfl, hm, hH⟩ := hN
  unfold maxLen at hm
  have hbw : Below w.heap.size w (w.alloc (.cells #[.slice o f.nodes.length c, .int .i64 f.room] 24)) := (Below.refl _ _).alloc (Nat.le_refl _) _
  have hk0 := heap_alloc_new w (.cells #[.slice o f.nodes.length c, .int .i64 f.room] 24)
  have HB := Lib.hid hbw
  have HK := Lib.hid hk0
  have HH := Lib.hid hH
  clear hH hbw hk0
  by_cases hc : isN f.nodes node = true
  · have HC := Lib.hid hc
    have hin : inB 0 ((f.nodes.length : Int) - 1) node = true := by unfold isN at hc; simp only [Bool.and_eq_true] at hc; exact hc.1
    obtain ⟨r1, r2⟩ := inB_t hin
    obtain ⟨m, rfl⟩ : ∃ m : Nat, node = m := ⟨node.toNat, by omega⟩
    have hml : m < f.nodes.length := by omega
    obtain ⟨g, off, nl, rfl, hg, hcc, -, -⟩ := HH.out m hml
    have HC0 := Lib.hid hcc.c0
    have HKD : Hid (kindAt f.nodes (m : Int) = f.nodes[m].kind) := Lib.hid (by simp [kindAt, List.getD, hml])
    obtain ⟨kd, hkd⟩ : ∃ kd, kd = f.nodes[m].kind := ⟨_, rfl⟩
    rw [← hkd] at HC0 HKD
    have HF : Hid (isDirN f.nodes (m : Int) = (kd == 2)) := Lib.hid (by unfold isDirN; rw [HC.out, HKD.out]; rfl)
    clear hcc hkd hc hin
    go_enter Try.func47, Try.ntmps47
    go_wp2_with fail
    refine (l3Is_any f _ _ _ (HR.out.below HB.out) hs).mono ?_
    rintro e w1 ⟨rfl, hb1⟩
    rw [HC.out]
    have HB1 := Lib.hid (HB.out.trans (hb1.mono HB.out.size))
    have HK1 := Lib.hid ((hb1.block w.heap.size (lt_of_heap HK.out)).trans HK.out)
    have x1 := (cell_blk HK1.out 0).trans rfl
    have d0 := (HB1.out.cell (p := ⟨g, off + m * 7, none⟩) hg).trans HC0.out
    clear hb1
    go_wp2
    go_ret
    exact ⟨ret_bool HF.out.symm, HB1.out⟩
  · have HC : Hid (isN f.nodes node = false) := Lib.hid (by simpa using hc)
    have HF : Hid (isDirN f.nodes node = false) := Lib.hid (by unfold isDirN; rw [HC.out]; rfl)
    clear hc
    go_enter Try.func47, Try.ntmps47
    go_wp2_with fail
    refine (l3Is_any f _ _ _ (HR.out.below HB.out) hs).mono ?_
    rintro e w1 ⟨rfl, hb1⟩
    rw [HC.out]
    have HB1 := Lib.hid (HB.out.trans (hb1.mono HB.out.size))
    clear hb1
    go_wp2
    go_ret
    exact ⟨ret_bool HF.out.symm, HB1.out⟩

noncomputable def parK (f : FsD) (node : Int) : Bool := goodF f && isDirN f.nodes node
noncomputable def parF (f : FsD) (node : Int) : Int := if parK f node = true then (parentOf node f.nodes : Int) else 0

set_option maxHeartbeats 2000000 in
theorem specParentOf_any (f : FsD) (node : Int) (v : Value) (w : World) (hR : FsA w v f) (hs : szF f ≤ 1048576) : Calls Try.prog 22 #[v, .int .i64 node] w fun e w' => e = .returned (.tuple #[.int .i64 (parF f node), .bool (parK f node)]) ∧ Below w.heap.size w w' := by
  have HR := Lib.hid hR
  obtain ⟨nv, rfl, hN⟩ := hR
  obtain ⟨o, c, rfl, hm, -⟩ := hN
  have hl : f.nodes.length ≤ 1048576 := (lists_small hs).1
  have HS := Lib.hid hs
  have hbw : Below w.heap.size w (w.alloc (.cells #[.slice o f.nodes.length c, .int .i64 f.room] 24)) := (Below.refl _ _).alloc (Nat.le_refl _) _
  have hk0 := heap_alloc_new w (.cells #[.slice o f.nodes.length c, .int .i64 f.room] 24)
  have HB := Lib.hid hbw
  have HK := Lib.hid hk0
  clear hbw hk0 hs
  by_cases hg : goodF f = true
  · have HG := Lib.hid hg
    by_cases hi : isDirN f.nodes node = true
    · have HI := Lib.hid hi
      have HW : Hid (parK f node = true) := Lib.hid (by unfold parK; rw [HG.out, HI.out]; rfl)
      have HV : Hid (parF f node = (parentOf node f.nodes : Int)) := Lib.hid (by unfold parF; rw [HW.out]; rfl)
      go_enter Try.func22, Try.ntmps22
      go_wp2_with fail
      refine (l3Good_any f _ _ (HR.out.below HB.out) HS.out).mono ?_
      rintro e w1 ⟨rfl, hb1⟩
      rw [HG.out]
      have HB1 := Lib.hid (HB.out.trans (hb1.mono HB.out.size))
      have HK1 := Lib.hid ((hb1.block w.heap.size (lt_of_heap HK.out)).trans HK.out)
      have x1 := (cell_blk HK1.out 0).trans rfl
      have y1 := (cell_blk HK1.out 1).trans rfl
      clear hb1
      go_wp2_with fail
      refine (l3IsDir_any f node _ _ (HR.out.below HB1.out) hl).mono ?_
      rintro e w2 ⟨rfl, hb2⟩
      rw [HI.out]
      have HB2 := Lib.hid (HB1.out.trans (hb2.mono HB1.out.size))
      have HK2 := Lib.hid ((hb2.block w.heap.size (lt_of_heap HK1.out)).trans HK1.out)
      have x2 := (cell_blk HK2.out 0).trans rfl
      have y2 := (cell_blk HK2.out 1).trans rfl
      clear hb2
      go_wp2_with fail
      refine (l3Parent_any f node _ _ (HR.out.below HB2.out) HS.out).mono ?_
      rintro e w3 ⟨rfl, hb3⟩
      have HB3 := Lib.hid (HB2.out.trans (hb3.mono HB2.out.size))
      have HK3 := Lib.hid ((hb3.block w.heap.size (lt_of_heap HK2.out)).trans HK2.out)
      have x3 := (cell_blk HK3.out 0).trans rfl
      have y3 := (cell_blk HK3.out 1).trans rfl
      clear hb3
      go_wp2
      go_ret2
      exact ⟨tupIB HV.out.symm HW.out.symm, HB3.out⟩
    · have HI : Hid (isDirN f.nodes node = false) := Lib.hid (by simpa using hi)
      have HW : Hid (parK f node = false) := Lib.hid (by unfold parK; rw [HG.out, HI.out]; rfl)
      have HV : Hid (parF f node = 0) := Lib.hid (by unfold parF; rw [HW.out]; rfl)
      go_enter Try.func22, Try.ntmps22
      go_wp2_with fail
      refine (l3Good_any f _ _ (HR.out.below HB.out) HS.out).mono ?_
      rintro e w1 ⟨rfl, hb1⟩
      rw [HG.out]
      have HB1 := Lib.hid (HB.out.trans (hb1.mono HB.out.size))
      have HK1 := Lib.hid ((hb1.block w.heap.size (lt_of_heap HK.out)).trans HK.out)
      have x1 := (cell_blk HK1.out 0).trans rfl
      have y1 := (cell_blk HK1.out 1).trans rfl
      clear hb1
      go_wp2_with fail
      refine (l3IsDir_any f node _ _ (HR.out.below HB1.out) hl).mono ?_
      rintro e w2 ⟨rfl, hb2⟩
      rw [HI.out]
      have HB2 := Lib.hid (HB1.out.trans (hb2.mono HB1.out.size))
      have HK2 := Lib.hid ((hb2.block w.heap.size (lt_of_heap HK1.out)).trans HK1.out)
      have x2 := (cell_blk HK2.out 0).trans rfl
      have y2 := (cell_blk HK2.out 1).trans rfl
      clear hb2
      go_wp2
      go_ret2
      exact ⟨tupIB HV.out.symm HW.out.symm, HB2.out⟩
  · have HG : Hid (goodF f = false) := Lib.hid (by simpa using hg)
    have HW : Hid (parK f node = false) := Lib.hid (by unfold parK; rw [HG.out]; rfl)
    have HV : Hid (parF f node = 0) := Lib.hid (by unfold parF; rw [HW.out]; rfl)
    go_enter Try.func22, Try.ntmps22
    go_wp2_with fail
    refine (l3Good_any f _ _ (HR.out.below HB.out) HS.out).mono ?_
    rintro e w1 ⟨rfl, hb1⟩
    rw [HG.out]
    have HB1 := Lib.hid (HB.out.trans (hb1.mono HB.out.size))
    have HK1 := Lib.hid ((hb1.block w.heap.size (lt_of_heap HK.out)).trans HK.out)
    have x1 := (cell_blk HK1.out 0).trans rfl
    have y1 := (cell_blk HK1.out 1).trans rfl
    clear hb1
    go_wp2
    go_ret2
    exact ⟨tupIB HV.out.symm HW.out.symm, HB1.out⟩
end Go.Proofs.Ytdjpngdgbijedaa
