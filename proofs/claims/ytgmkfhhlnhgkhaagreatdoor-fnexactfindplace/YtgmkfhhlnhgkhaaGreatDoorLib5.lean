/-
  Joined: FsG PlcM ModeC MayC LookM LookA.
  Conditions: as each states.
-/
import Derived.Laws.Cover1
import Derived.Test.YtgmkfhhlnhgkhaaGreatDoorLib1
import Derived.Test.YtgmkfhhlnhgkhaaGreatDoorLib4

/-
  The model's GoodFs, LinksOf, ParentOf, BytesIn, FreeNode.
  Conditions: at most 2^20 values and letters together.
-/
namespace Go.Proofs.YtgmkfhhlnhgkhaaGreatDoor
open Go.ChangeShapes Go.WideShapes Go.ChangeAt Go.RowKit Go.Joins
set_option linter.unusedVariables false

theorem tupIB {a a' : Int} {b b' : Bool} (h1 : a = a') (h2 : b = b') : Ending.returned (.tuple #[.int .i64 a, .bool b]) = .returned (.tuple #[.int .i64 a', .bool b']) := by rw [h1, h2]

set_option maxHeartbeats 1000000 in
theorem specGoodFs_any (f : FsD) (v : Value) (w : World) (hR : FsA w v f) (hs : szF f ≤ 1048576) : Calls Tryz.prog 20 #[v] w fun e w' => e = .returned (.bool (goodF f)) ∧ Below w.heap.size w w' := by
  have HR := Lib.hid hR
  obtain ⟨nv, rfl, hN⟩ := hR
  obtain ⟨o, c, rfl, hm, -⟩ := hN
  have HB : Hid (∀ oo, Below w.heap.size w (w.alloc oo)) := Lib.hid (fun oo => (Below.refl _ _).alloc (Nat.le_refl _) _)
  go_enter Tryz.func20, Tryz.ntmps20
  go_wp2_with fail
  refine (l3Good_any f _ _ (by first | exact HR.out | exact HR.out.below (HB.out _)) hs).mono ?_
  rintro e w1 ⟨rfl, hb1⟩
  have HB1 : Hid (Below w.heap.size w w1) := Lib.hid (by first | exact hb1 | exact (HB.out _).trans (hb1.mono (HB.out _).size))
  clear hb1
  go_wp2
  go_ret
  exact ⟨rfl, HB1.out⟩

def isN (ns : List Nod) (node : Int) : Bool := inB 0 ((ns.length : Int) - 1) node && !(kindAt ns node == 0)

set_option maxHeartbeats 2000000 in
theorem l3Is_any (f : FsD) (node : Int) (v : Value) (w : World) (hR : FsA w v f) (hs : f.nodes.length ≤ 1048576) : Calls Tryz.prog 69 #[v, .int .i64 node] w fun e w' => e = .returned (.bool (isN f.nodes node)) ∧ Below w.heap.size w w' := by
  obtain ⟨nv, rfl, hN⟩ := hR
  obtain ⟨o, c, rfl, hm, hH⟩ := hN
  unfold maxLen at hm
  have hbw : Below w.heap.size w (w.alloc (.cells #[.slice o f.nodes.length c, .int .i64 f.room] 26)) := (Below.refl _ _).alloc (Nat.le_refl _) _
  by_cases hc : inB 0 ((f.nodes.length : Int) - 1) node = true
  · have HC := Lib.hid hc
    obtain ⟨r1, r2⟩ := inB_t hc
    obtain ⟨m, rfl⟩ : ∃ m : Nat, node = m := ⟨node.toNat, by omega⟩
    have hml : m < f.nodes.length := by omega
    obtain ⟨g, off, nl, rfl, hg, hcc, -, -⟩ := hH m hml
    have d0 := (hbw.cell (p := ⟨g, off + m * 7, none⟩) hg).trans hcc.c0
    obtain ⟨kd, hkd⟩ : ∃ kd, kd = f.nodes[m].kind := ⟨_, rfl⟩
    rw [← hkd] at d0
    have HKD : Hid (kindAt f.nodes (m : Int) = kd) := Lib.hid (by rw [hkd]; simp [kindAt, List.getD, hml])
    have HB := Lib.hid hbw
    clear hcc hkd hc hH hbw
    by_cases hz : kd = 0
    · have HF : Hid (isN f.nodes (m : Int) = false) := Lib.hid (by unfold isN; rw [HC.out, HKD.out, hz]; rfl)
      subst hz
      go_enter Tryz.func69, Tryz.ntmps69
      go_wp2_with (go_at_call 86; refine (l1In_eq HC.out _).mono ?_; rintro e w' ⟨rfl, rfl⟩)
      go_ret
      exact ⟨ret_bool HF.out.symm, HB.out⟩
    · have HF : Hid (isN f.nodes (m : Int) = true) := Lib.hid (by unfold isN; rw [HC.out, HKD.out]; simp [hz])
      have zb : (kd != 0) = true := by simpa using hz
      go_enter Tryz.func69, Tryz.ntmps69
      go_wp2_with (go_at_call 86; refine (l1In_eq HC.out _).mono ?_; rintro e w' ⟨rfl, rfl⟩)
      go_ret
      exact ⟨ret_bool HF.out.symm, HB.out⟩
  · have HC : Hid (inB 0 ((f.nodes.length : Int) - 1) node = false) := Lib.hid (by simpa using hc)
    have HF : Hid (isN f.nodes node = false) := Lib.hid (by unfold isN; rw [HC.out]; rfl)
    have HB := Lib.hid hbw
    clear hc hH hbw
    go_enter Tryz.func69, Tryz.ntmps69
    go_wp2_with (go_at_call 86; refine (l1In_eq HC.out _).mono ?_; rintro e w' ⟨rfl, rfl⟩)
    go_ret
    exact ⟨ret_bool HF.out.symm, HB.out⟩

noncomputable def bytesF (f : FsD) : Int := if goodF f = true then (sumD f.nodes : Int) else 0

set_option maxHeartbeats 2000000 in
theorem specBytesIn_any (f : FsD) (v : Value) (w : World) (hR : FsA w v f) (hs : szF f ≤ 1048576) : Calls Tryz.prog 25 #[v] w fun e w' => e = .returned (.tuple #[.int .i64 (bytesF f), .bool (goodF f)]) ∧ Below w.heap.size w w' := by
  have HR := Lib.hid hR
  obtain ⟨nv, rfl, hN⟩ := hR
  obtain ⟨o, c, rfl, hm, -⟩ := hN
  have hl : f.nodes.length ≤ 1048576 := (lists_small hs).1
  have HS := Lib.hid hs
  have hbw : Below w.heap.size w (w.alloc (.cells #[.slice o f.nodes.length c, .int .i64 f.room] 26)) := (Below.refl _ _).alloc (Nat.le_refl _) _
  have hk0 := heap_alloc_new w (.cells #[.slice o f.nodes.length c, .int .i64 f.room] 26)
  have HB := Lib.hid hbw
  have HK := Lib.hid hk0
  clear hbw hk0 hs
  by_cases hg : goodF f = true
  · have HG := Lib.hid hg
    have HV : Hid (bytesF f = (sumD f.nodes : Int)) := Lib.hid (by unfold bytesF; rw [HG.out]; rfl)
    go_enter Tryz.func25, Tryz.ntmps25
    go_wp2_with fail
    refine (l3Good_any f _ _ (HR.out.below HB.out) HS.out).mono ?_
    rintro e w1 ⟨rfl, hb1⟩
    rw [HG.out]
    have HB1 := Lib.hid (HB.out.trans (hb1.mono HB.out.size))
    have HK1 := Lib.hid ((hb1.block w.heap.size (lt_of_heap HK.out)).trans HK.out)
    have x1 := (cell_blk HK1.out 0).trans rfl
    have y1 := (cell_blk HK1.out 1).trans rfl
    clear hb1
    go_wp2_with fail
    refine (l3Bytes_any f _ _ (HR.out.below HB1.out) HS.out).mono ?_
    rintro e w2 ⟨rfl, hb2⟩
    have HB2 := Lib.hid (HB1.out.trans (hb2.mono HB1.out.size))
    have HK2 := Lib.hid ((hb2.block w.heap.size (lt_of_heap HK1.out)).trans HK1.out)
    have x2 := (cell_blk HK2.out 0).trans rfl
    have y2 := (cell_blk HK2.out 1).trans rfl
    clear hb2
    go_wp2
    go_ret2
    exact ⟨tupIB HV.out.symm HG.out.symm, HB2.out⟩
  · have HG := Lib.hid (show goodF f = false by simpa using hg)
    have HV : Hid (bytesF f = 0) := Lib.hid (by unfold bytesF; rw [HG.out]; rfl)
    go_enter Tryz.func25, Tryz.ntmps25
    go_wp2_with fail
    refine (l3Good_any f _ _ (HR.out.below HB.out) HS.out).mono ?_
    rintro e w1 ⟨rfl, hb1⟩
    rw [HG.out]
    have HB1 := Lib.hid (HB.out.trans (hb1.mono HB.out.size))
    have HK1 := Lib.hid ((hb1.block w.heap.size (lt_of_heap HK.out)).trans HK.out)
    have x1 := (cell_blk HK1.out 0).trans rfl
    have y1 := (cell_blk HK1.out 1).trans rfl
    clear hb1
    go_wp2
    go_ret2
    exact ⟨tupIB HV.out.symm HG.out.symm, HB1.out⟩

noncomputable def freeF (f : FsD) : Int := if goodF f = true ∧ 0 ≤ freeAt f.nodes then freeAt f.nodes else 0
noncomputable def freeK (f : FsD) : Bool := goodF f && decide (0 ≤ freeAt f.nodes)

set_option maxHeartbeats 2000000 in
theorem specFreeNode_any (f : FsD) (v : Value) (w : World) (hR : FsA w v f) (hs : szF f ≤ 1048576) : Calls Tryz.prog 27 #[v] w fun e w' => e = .returned (.tuple #[.int .i64 (freeF f), .bool (freeK f)]) ∧ Below w.heap.size w w' := by
  have HR := Lib.hid hR
  obtain ⟨nv, rfl, hN⟩ := hR
  obtain ⟨o, c, rfl, hm, -⟩ := hN
  have hl : f.nodes.length ≤ 1048576 := (lists_small hs).1
  have HS := Lib.hid hs
  have hbw : Below w.heap.size w (w.alloc (.cells #[.slice o f.nodes.length c, .int .i64 f.room] 26)) := (Below.refl _ _).alloc (Nat.le_refl _) _
  have hk0 := heap_alloc_new w (.cells #[.slice o f.nodes.length c, .int .i64 f.room] 26)
  have HB := Lib.hid hbw
  have HK := Lib.hid hk0
  clear hbw hk0 hs
  obtain ⟨fa, hfa⟩ : ∃ fa, freeAt f.nodes = fa := ⟨_, rfl⟩
  have HFA := Lib.hid hfa
  clear hfa
  by_cases hg : goodF f = true
  · have HG := Lib.hid hg
    by_cases h0 : 0 ≤ fa
    · skip
      have HV : Hid (freeF f = fa) := Lib.hid (by unfold freeF; rw [HG.out, HFA.out]; simp [h0])
      have HW : Hid (freeK f = true) := Lib.hid (by unfold freeK; rw [HG.out, HFA.out]; simp [h0])
      have hlt : ¬ fa < 0 := by omega
      go_enter Tryz.func27, Tryz.ntmps27
      go_wp2_with fail
      refine (l3Good_any f _ _ (HR.out.below HB.out) HS.out).mono ?_
      rintro e w1 ⟨rfl, hb1⟩
      rw [HG.out]
      have HB1 := Lib.hid (HB.out.trans (hb1.mono HB.out.size))
      have HK1 := Lib.hid ((hb1.block w.heap.size (lt_of_heap HK.out)).trans HK.out)
      have x1 := (cell_blk HK1.out 0).trans rfl
      have y1 := (cell_blk HK1.out 1).trans rfl
      clear hb1
      go_wp2_with fail
      refine (l3Free_any f _ _ (HR.out.below HB1.out) hl).mono ?_
      rintro e w2 ⟨rfl, hb2⟩
      rw [HFA.out]
      have HB2 := Lib.hid (HB1.out.trans (hb2.mono HB1.out.size))
      have HK2 := Lib.hid ((hb2.block w.heap.size (lt_of_heap HK1.out)).trans HK1.out)
      have x2 := (cell_blk HK2.out 0).trans rfl
      have y2 := (cell_blk HK2.out 1).trans rfl
      clear hb2
      go_wp2_with fail
      refine (l3Free_any f _ _ (HR.out.below HB2.out) hl).mono ?_
      rintro e w3 ⟨rfl, hb3⟩
      rw [HFA.out]
      have HB3 := Lib.hid (HB2.out.trans (hb3.mono HB2.out.size))
      have HK3 := Lib.hid ((hb3.block w.heap.size (lt_of_heap HK2.out)).trans HK2.out)
      have x3 := (cell_blk HK3.out 0).trans rfl
      have y3 := (cell_blk HK3.out 1).trans rfl
      clear hb3
      go_wp2
      go_ret2
      exact ⟨tupIB HV.out.symm HW.out.symm, HB3.out⟩
    · skip
      have HV : Hid (freeF f = 0) := Lib.hid (by unfold freeF; rw [HG.out, HFA.out]; simp [h0])
      have HW : Hid (freeK f = false) := Lib.hid (by unfold freeK; rw [HG.out, HFA.out]; simp [h0])
      have hlt : fa < 0 := by omega
      go_enter Tryz.func27, Tryz.ntmps27
      go_wp2_with fail
      refine (l3Good_any f _ _ (HR.out.below HB.out) HS.out).mono ?_
      rintro e w1 ⟨rfl, hb1⟩
      rw [HG.out]
      have HB1 := Lib.hid (HB.out.trans (hb1.mono HB.out.size))
      have HK1 := Lib.hid ((hb1.block w.heap.size (lt_of_heap HK.out)).trans HK.out)
      have x1 := (cell_blk HK1.out 0).trans rfl
      have y1 := (cell_blk HK1.out 1).trans rfl
      clear hb1
      go_wp2_with fail
      refine (l3Free_any f _ _ (HR.out.below HB1.out) hl).mono ?_
      rintro e w2 ⟨rfl, hb2⟩
      rw [HFA.out]
      have HB2 := Lib.hid (HB1.out.trans (hb2.mono HB1.out.size))
      have HK2 := Lib.hid ((hb2.block w.heap.size (lt_of_heap HK1.out)).trans HK1.out)
      have x2 := (cell_blk HK2.out 0).trans rfl
      have y2 := (cell_blk HK2.out 1).trans rfl
      clear hb2
      go_wp2
      go_ret2
      exact ⟨tupIB HV.out.symm HW.out.symm, HB2.out⟩
  · have HG : Hid (goodF f = false) := Lib.hid (by simpa using hg)
    have HV : Hid (freeF f = 0) := Lib.hid (by unfold freeF; rw [HG.out]; simp)
    have HW : Hid (freeK f = false) := Lib.hid (by unfold freeK; rw [HG.out]; rfl)
    go_enter Tryz.func27, Tryz.ntmps27
    go_wp2_with fail
    refine (l3Good_any f _ _ (HR.out.below HB.out) HS.out).mono ?_
    rintro e w1 ⟨rfl, hb1⟩
    rw [HG.out]
    have HB1 := Lib.hid (HB.out.trans (hb1.mono HB.out.size))
    have HK1 := Lib.hid ((hb1.block w.heap.size (lt_of_heap HK.out)).trans HK.out)
    have x1 := (cell_blk HK1.out 0).trans rfl
    have y1 := (cell_blk HK1.out 1).trans rfl
    clear hb1
    go_wp2
    go_ret2
    exact ⟨tupIB HV.out.symm HW.out.symm, HB1.out⟩

noncomputable def linksK (f : FsD) (node : Int) : Bool := goodF f && isN f.nodes node
noncomputable def linksF (f : FsD) (node : Int) : Int := if linksK f node = true then (links node f.nodes : Int) else 0

set_option maxHeartbeats 2000000 in
theorem specLinksOf_any (f : FsD) (node : Int) (v : Value) (w : World) (hR : FsA w v f) (hs : szF f ≤ 1048576) : Calls Tryz.prog 18 #[v, .int .i64 node] w fun e w' => e = .returned (.tuple #[.int .i64 (linksF f node), .bool (linksK f node)]) ∧ Below w.heap.size w w' := by
  have HR := Lib.hid hR
  obtain ⟨nv, rfl, hN⟩ := hR
  obtain ⟨o, c, rfl, hm, -⟩ := hN
  have hl : f.nodes.length ≤ 1048576 := (lists_small hs).1
  have HS := Lib.hid hs
  have hbw : Below w.heap.size w (w.alloc (.cells #[.slice o f.nodes.length c, .int .i64 f.room] 26)) := (Below.refl _ _).alloc (Nat.le_refl _) _
  have hk0 := heap_alloc_new w (.cells #[.slice o f.nodes.length c, .int .i64 f.room] 26)
  have HB := Lib.hid hbw
  have HK := Lib.hid hk0
  clear hbw hk0 hs
  by_cases hg : goodF f = true
  · have HG := Lib.hid hg
    by_cases hi : isN f.nodes node = true
    · have HI := Lib.hid hi
      have HW : Hid (linksK f node = true) := Lib.hid (by unfold linksK; rw [HG.out, HI.out]; rfl)
      have HV : Hid (linksF f node = (links node f.nodes : Int)) := Lib.hid (by unfold linksF; rw [HW.out]; rfl)
      go_enter Tryz.func18, Tryz.ntmps18
      go_wp2_with fail
      refine (l3Good_any f _ _ (HR.out.below HB.out) HS.out).mono ?_
      rintro e w1 ⟨rfl, hb1⟩
      rw [HG.out]
      have HB1 := Lib.hid (HB.out.trans (hb1.mono HB.out.size))
      have HK1 := Lib.hid ((hb1.block w.heap.size (lt_of_heap HK.out)).trans HK.out)
      have x1 := (cell_blk HK1.out 0).trans rfl
      have y1 := (cell_blk HK1.out 1).trans rfl
      clear hb1
      go_wp2_with fail
      refine (l3Is_any f node _ _ (HR.out.below HB1.out) hl).mono ?_
      rintro e w2 ⟨rfl, hb2⟩
      rw [HI.out]
      have HB2 := Lib.hid (HB1.out.trans (hb2.mono HB1.out.size))
      have HK2 := Lib.hid ((hb2.block w.heap.size (lt_of_heap HK1.out)).trans HK1.out)
      have x2 := (cell_blk HK2.out 0).trans rfl
      have y2 := (cell_blk HK2.out 1).trans rfl
      clear hb2
      go_wp2_with fail
      refine (l3Links_any f node _ _ (HR.out.below HB2.out) HS.out).mono ?_
      rintro e w3 ⟨rfl, hb3⟩
      have HB3 := Lib.hid (HB2.out.trans (hb3.mono HB2.out.size))
      have HK3 := Lib.hid ((hb3.block w.heap.size (lt_of_heap HK2.out)).trans HK2.out)
      have x3 := (cell_blk HK3.out 0).trans rfl
      have y3 := (cell_blk HK3.out 1).trans rfl
      clear hb3
      go_wp2
      go_ret2
      exact ⟨tupIB HV.out.symm HW.out.symm, HB3.out⟩
    · have HI : Hid (isN f.nodes node = false) := Lib.hid (by simpa using hi)
      have HW : Hid (linksK f node = false) := Lib.hid (by unfold linksK; rw [HG.out, HI.out]; rfl)
      have HV : Hid (linksF f node = 0) := Lib.hid (by unfold linksF; rw [HW.out]; rfl)
      go_enter Tryz.func18, Tryz.ntmps18
      go_wp2_with fail
      refine (l3Good_any f _ _ (HR.out.below HB.out) HS.out).mono ?_
      rintro e w1 ⟨rfl, hb1⟩
      rw [HG.out]
      have HB1 := Lib.hid (HB.out.trans (hb1.mono HB.out.size))
      have HK1 := Lib.hid ((hb1.block w.heap.size (lt_of_heap HK.out)).trans HK.out)
      have x1 := (cell_blk HK1.out 0).trans rfl
      have y1 := (cell_blk HK1.out 1).trans rfl
      clear hb1
      go_wp2_with fail
      refine (l3Is_any f node _ _ (HR.out.below HB1.out) hl).mono ?_
      rintro e w2 ⟨rfl, hb2⟩
      rw [HI.out]
      have HB2 := Lib.hid (HB1.out.trans (hb2.mono HB1.out.size))
      have HK2 := Lib.hid ((hb2.block w.heap.size (lt_of_heap HK1.out)).trans HK1.out)
      have x2 := (cell_blk HK2.out 0).trans rfl
      have y2 := (cell_blk HK2.out 1).trans rfl
      clear hb2
      go_wp2
      go_ret2
      exact ⟨tupIB HV.out.symm HW.out.symm, HB2.out⟩
  · have HG : Hid (goodF f = false) := Lib.hid (by simpa using hg)
    have HW : Hid (linksK f node = false) := Lib.hid (by unfold linksK; rw [HG.out]; rfl)
    have HV : Hid (linksF f node = 0) := Lib.hid (by unfold linksF; rw [HW.out]; rfl)
    go_enter Tryz.func18, Tryz.ntmps18
    go_wp2_with fail
    refine (l3Good_any f _ _ (HR.out.below HB.out) HS.out).mono ?_
    rintro e w1 ⟨rfl, hb1⟩
    rw [HG.out]
    have HB1 := Lib.hid (HB.out.trans (hb1.mono HB.out.size))
    have HK1 := Lib.hid ((hb1.block w.heap.size (lt_of_heap HK.out)).trans HK.out)
    have x1 := (cell_blk HK1.out 0).trans rfl
    have y1 := (cell_blk HK1.out 1).trans rfl
    clear hb1
    go_wp2
    go_ret2
    exact ⟨tupIB HV.out.symm HW.out.symm, HB1.out⟩

def isDirN (ns : List Nod) (node : Int) : Bool := isN ns node && (kindAt ns node == 2)
set_option maxHeartbeats 2000000 in
theorem l3IsDir_any (f : FsD) (node : Int) (v : Value) (w : World) (hR : FsA w v f) (hs : f.nodes.length ≤ 1048576) : Calls Tryz.prog 64 #[v, .int .i64 node] w fun e w' => e = .returned (.bool (isDirN f.nodes node)) ∧ Below w.heap.size w w' := by
  have HR := Lib.hid hR
  obtain ⟨nv, rfl, hN⟩ := hR
  obtain ⟨o, c, rfl, hm, hH⟩ := hN
  unfold maxLen at hm
  have hbw : Below w.heap.size w (w.alloc (.cells #[.slice o f.nodes.length c, .int .i64 f.room] 26)) := (Below.refl _ _).alloc (Nat.le_refl _) _
  have hk0 := heap_alloc_new w (.cells #[.slice o f.nodes.length c, .int .i64 f.room] 26)
  have HB := Lib.hid hbw
  have HK := Lib.hid hk0
  have HH := Lib.hid hH
  clear hH hbw hk0
  by_cases hc : isN f.nodes node = true
  · have HC := Lib.hid hc
    have hin : inB 0 ((f.nodes.length : Int) - 1) node = true := by unfold isN at hc; simp only [Bool.and_eq_true] at hc; exact hc.1
    obtain ⟨r1, r2⟩ := inB_t hin
    obtain ⟨m, rfl⟩ : ∃ m : Nat, node = m := ⟨node.toNat, by omega⟩
    have hml : m < f.nodes.length := by omega
    obtain ⟨g, off, nl, rfl, hg, hcc, -, -⟩ := HH.out m hml
    have HC0 := Lib.hid hcc.c0
    have HKD : Hid (kindAt f.nodes (m : Int) = f.nodes[m].kind) := Lib.hid (by simp [kindAt, List.getD, hml])
    obtain ⟨kd, hkd⟩ : ∃ kd, kd = f.nodes[m].kind := ⟨_, rfl⟩
    rw [← hkd] at HC0 HKD
    have HF : Hid (isDirN f.nodes (m : Int) = (kd == 2)) := Lib.hid (by unfold isDirN; rw [HC.out, HKD.out]; rfl)
    clear hcc hkd hc hin
    go_enter Tryz.func64, Tryz.ntmps64
    go_wp2_with fail
    refine (l3Is_any f _ _ _ (HR.out.below HB.out) hs).mono ?_
    rintro e w1 ⟨rfl, hb1⟩
    rw [HC.out]
    have HB1 := Lib.hid (HB.out.trans (hb1.mono HB.out.size))
    have HK1 := Lib.hid ((hb1.block w.heap.size (lt_of_heap HK.out)).trans HK.out)
    have x1 := (cell_blk HK1.out 0).trans rfl
    have d0 := (HB1.out.cell (p := ⟨g, off + m * 7, none⟩) hg).trans HC0.out
    clear hb1
    go_wp2
    go_ret
    exact ⟨ret_bool HF.out.symm, HB1.out⟩
  · have HC : Hid (isN f.nodes node = false) := Lib.hid (by simpa using hc)
    have HF : Hid (isDirN f.nodes node = false) := Lib.hid (by unfold isDirN; rw [HC.out]; rfl)
    clear hc
    go_enter Tryz.func64, Tryz.ntmps64
    go_wp2_with fail
    refine (l3Is_any f _ _ _ (HR.out.below HB.out) hs).mono ?_
    rintro e w1 ⟨rfl, hb1⟩
    rw [HC.out]
    have HB1 := Lib.hid (HB.out.trans (hb1.mono HB.out.size))
    clear hb1
    go_wp2
    go_ret
    exact ⟨ret_bool HF.out.symm, HB1.out⟩

noncomputable def parK (f : FsD) (node : Int) : Bool := goodF f && isDirN f.nodes node
noncomputable def parF (f : FsD) (node : Int) : Int := if parK f node = true then (parentOf node f.nodes : Int) else 0

set_option maxHeartbeats 2000000 in
theorem specParentOf_any (f : FsD) (node : Int) (v : Value) (w : World) (hR : FsA w v f) (hs : szF f ≤ 1048576) : Calls Tryz.prog 16 #[v, .int .i64 node] w fun e w' => e = .returned (.tuple #[.int .i64 (parF f node), .bool (parK f node)]) ∧ Below w.heap.size w w' := by
  have HR := Lib.hid hR
  obtain ⟨nv, rfl, hN⟩ := hR
  obtain ⟨o, c, rfl, hm, -⟩ := hN
  have hl : f.nodes.length ≤ 1048576 := (lists_small hs).1
  have HS := Lib.hid hs
  have hbw : Below w.heap.size w (w.alloc (.cells #[.slice o f.nodes.length c, .int .i64 f.room] 26)) := (Below.refl _ _).alloc (Nat.le_refl _) _
  have hk0 := heap_alloc_new w (.cells #[.slice o f.nodes.length c, .int .i64 f.room] 26)
  have HB := Lib.hid hbw
  have HK := Lib.hid hk0
  clear hbw hk0 hs
  by_cases hg : goodF f = true
  · have HG := Lib.hid hg
    by_cases hi : isDirN f.nodes node = true
    · have HI := Lib.hid hi
      have HW : Hid (parK f node = true) := Lib.hid (by unfold parK; rw [HG.out, HI.out]; rfl)
      have HV : Hid (parF f node = (parentOf node f.nodes : Int)) := Lib.hid (by unfold parF; rw [HW.out]; rfl)
      go_enter Tryz.func16, Tryz.ntmps16
      go_wp2_with fail
      refine (l3Good_any f _ _ (HR.out.below HB.out) HS.out).mono ?_
      rintro e w1 ⟨rfl, hb1⟩
      rw [HG.out]
      have HB1 := Lib.hid (HB.out.trans (hb1.mono HB.out.size))
      have HK1 := Lib.hid ((hb1.block w.heap.size (lt_of_heap HK.out)).trans HK.out)
      have x1 := (cell_blk HK1.out 0).trans rfl
      have y1 := (cell_blk HK1.out 1).trans rfl
      clear hb1
      go_wp2_with fail
      refine (l3IsDir_any f node _ _ (HR.out.below HB1.out) hl).mono ?_
      rintro e w2 ⟨rfl, hb2⟩
      rw [HI.out]
      have HB2 := Lib.hid (HB1.out.trans (hb2.mono HB1.out.size))
      have HK2 := Lib.hid ((hb2.block w.heap.size (lt_of_heap HK1.out)).trans HK1.out)
      have x2 := (cell_blk HK2.out 0).trans rfl
      have y2 := (cell_blk HK2.out 1).trans rfl
      clear hb2
      go_wp2_with fail
      refine (l3Parent_any f node _ _ (HR.out.below HB2.out) HS.out).mono ?_
      rintro e w3 ⟨rfl, hb3⟩
      have HB3 := Lib.hid (HB2.out.trans (hb3.mono HB2.out.size))
      have HK3 := Lib.hid ((hb3.block w.heap.size (lt_of_heap HK2.out)).trans HK2.out)
      have x3 := (cell_blk HK3.out 0).trans rfl
      have y3 := (cell_blk HK3.out 1).trans rfl
      clear hb3
      go_wp2
      go_ret2
      exact ⟨tupIB HV.out.symm HW.out.symm, HB3.out⟩
    · have HI : Hid (isDirN f.nodes node = false) := Lib.hid (by simpa using hi)
      have HW : Hid (parK f node = false) := Lib.hid (by unfold parK; rw [HG.out, HI.out]; rfl)
      have HV : Hid (parF f node = 0) := Lib.hid (by unfold parF; rw [HW.out]; rfl)
      go_enter Tryz.func16, Tryz.ntmps16
      go_wp2_with fail
      refine (l3Good_any f _ _ (HR.out.below HB.out) HS.out).mono ?_
      rintro e w1 ⟨rfl, hb1⟩
      rw [HG.out]
      have HB1 := Lib.hid (HB.out.trans (hb1.mono HB.out.size))
      have HK1 := Lib.hid ((hb1.block w.heap.size (lt_of_heap HK.out)).trans HK.out)
      have x1 := (cell_blk HK1.out 0).trans rfl
      have y1 := (cell_blk HK1.out 1).trans rfl
      clear hb1
      go_wp2_with fail
      refine (l3IsDir_any f node _ _ (HR.out.below HB1.out) hl).mono ?_
      rintro e w2 ⟨rfl, hb2⟩
      rw [HI.out]
      have HB2 := Lib.hid (HB1.out.trans (hb2.mono HB1.out.size))
      have HK2 := Lib.hid ((hb2.block w.heap.size (lt_of_heap HK1.out)).trans HK1.out)
      have x2 := (cell_blk HK2.out 0).trans rfl
      have y2 := (cell_blk HK2.out 1).trans rfl
      clear hb2
      go_wp2
      go_ret2
      exact ⟨tupIB HV.out.symm HW.out.symm, HB2.out⟩
  · have HG : Hid (goodF f = false) := Lib.hid (by simpa using hg)
    have HW : Hid (parK f node = false) := Lib.hid (by unfold parK; rw [HG.out]; rfl)
    have HV : Hid (parF f node = 0) := Lib.hid (by unfold parF; rw [HW.out]; rfl)
    go_enter Tryz.func16, Tryz.ntmps16
    go_wp2_with fail
    refine (l3Good_any f _ _ (HR.out.below HB.out) HS.out).mono ?_
    rintro e w1 ⟨rfl, hb1⟩
    rw [HG.out]
    have HB1 := Lib.hid (HB.out.trans (hb1.mono HB.out.size))
    have HK1 := Lib.hid ((hb1.block w.heap.size (lt_of_heap HK.out)).trans HK.out)
    have x1 := (cell_blk HK1.out 0).trans rfl
    have y1 := (cell_blk HK1.out 1).trans rfl
    clear hb1
    go_wp2
    go_ret2
    exact ⟨tupIB HV.out.symm HW.out.symm, HB1.out⟩
end Go.Proofs.YtgmkfhhlnhgkhaaGreatDoor


/-
  Where the nodes of a file system are (in how many entries, in which directory, by which name), as plain data; the program's way to say that a file system is good says the same as the model's.
  Conditions: as each states.
-/
namespace Go.Proofs.YtgmkfhhlnhgkhaaGreatDoor
open Go.ChangeShapes Go.WideShapes Go.ChangeAt Go.RowKit Go.Joins
set_option linter.unusedVariables false

structure Pl where
  links : Nat
  dir : Nat
  name : List UInt8
def pl0 : Pl := ⟨0, 0, []⟩
/-- One entry of the directory d more. -/
def putP (d : Nat) (P : Int → Pl) (e : Ent) : Int → Pl := fun i => if i = e.node then ⟨(P i).links + 1, d, e.name⟩ else P i
def putsP (d : Nat) (P : Int → Pl) (es : List Ent) : Int → Pl := es.foldl (putP d) P
/-- Behind the first k nodes. -/
def plc (ns : List Nod) : Nat → Int → Pl
  | 0 => fun _ => pl0
  | k + 1 => putsP k (plc ns k) (ns.getD k ⟨0, 0, 0, 0, 0, [], []⟩).list
def lastN (i : Int) (s : List UInt8) (es : List Ent) : List UInt8 := es.foldl (fun s e => if e.node = i then e.name else s) s

theorem putsP_take {d : Nat} {P : Int → Pl} {es : List Ent} {j : Nat} (h : j < es.length) : putsP d P (es.take (j + 1)) = putP d (putsP d P (es.take j)) es[j] := by
  unfold putsP
  rw [List.take_succ_eq_append_getElem h, List.foldl_append]
  rfl
theorem linksE_cons (i : Int) (e : Ent) (es : List Ent) : linksE i (e :: es) = one i e + linksE i es := by simp [linksE, tot]
theorem puts_links (d : Nat) (i : Int) : ∀ (es : List Ent) (P : Int → Pl), (putsP d P es i).links = (P i).links + linksE i es
  | [], P => by simp [putsP, linksE, tot]
  | e :: es, P => by
    have h := puts_links d i es (putP d P e)
    have h1 : putsP d P (e :: es) = putsP d (putP d P e) es := rfl
    rw [h1, h, linksE_cons]
    unfold putP one
    by_cases he : i = e.node
    · rw [if_pos he, if_pos he.symm]; simp; omega
    · rw [if_neg he, if_neg (fun x => he x.symm)]; omega
theorem puts_none (d : Nat) (i : Int) : ∀ (es : List Ent) (P : Int → Pl), linksE i es = 0 → putsP d P es i = P i
  | [], P, _ => rfl
  | e :: es, P, h => by
    rw [linksE_cons] at h
    have h1 : putsP d P (e :: es) = putsP d (putP d P e) es := rfl
    rw [h1, puts_none d i es _ (by omega)]
    have h2 : one i e = 0 := by omega
    unfold one at h2
    have h3 : ¬ e.node = i := fun x => by rw [if_pos x] at h2; omega
    unfold putP
    rw [if_neg (fun x => h3 x.symm)]
theorem puts_dir (d : Nat) (i : Int) : ∀ (es : List Ent) (P : Int → Pl), 0 < linksE i es → (putsP d P es i).dir = d
  | [], P, h => by simp [linksE, tot] at h
  | e :: es, P, h => by
    have h1 : putsP d P (e :: es) = putsP d (putP d P e) es := rfl
    rw [h1]
    by_cases h2 : 0 < linksE i es
    · exact puts_dir d i es _ h2
    · rw [puts_none d i es _ (by omega)]
      rw [linksE_cons] at h
      have h3 : 0 < one i e := by omega
      unfold one at h3
      by_cases he : e.node = i
      · unfold putP; rw [if_pos he.symm]
      · rw [if_neg he] at h3; omega
theorem puts_name (d : Nat) (i : Int) : ∀ (es : List Ent) (P : Int → Pl), (putsP d P es i).name = lastN i (P i).name es
  | [], P => rfl
  | e :: es, P => by
    have h1 : putsP d P (e :: es) = putsP d (putP d P e) es := rfl
    rw [h1, puts_name d i es]
    unfold lastN
    rw [List.foldl_cons]
    unfold putP
    by_cases he : e.node = i
    · rw [if_pos he.symm, if_pos he]
    · rw [if_neg (fun x => he x.symm), if_neg he]
theorem lastN_any (i : Int) : ∀ (es : List Ent) (s t : List UInt8), 0 < linksE i es → lastN i s es = lastN i t es
  | [], s, t, h => by simp [linksE, tot] at h
  | e :: es, s, t, h => by
    unfold lastN
    rw [List.foldl_cons, List.foldl_cons]
    by_cases he : e.node = i
    · rw [if_pos he, if_pos he]
    · rw [if_neg he, if_neg he]
      rw [linksE_cons] at h
      have : one i e = 0 := by unfold one; rw [if_neg he]
      exact lastN_any i es s t (by omega)
theorem hasE_iff {i : Int} {es : List Ent} : hasE i es = true ↔ 0 < linksE i es := by
  induction es with
  | nil => simp [hasE, linksE, tot]
  | cons e es ih =>
    have h1 : hasE i (e :: es) = ((e.node == i) || hasE i es) := by simp [hasE]
    rw [h1, linksE_cons, Bool.or_eq_true, ih]
    unfold one
    by_cases he : e.node = i
    · rw [if_pos he]; simp [he]; omega
    · rw [if_neg he]; simp [he]
theorem hasE_mem {i : Int} {es : List Ent} : hasE i es = true ↔ ∃ e ∈ es, e.node = i := by simp [hasE]

theorem getD_at {ns : List Nod} {k : Nat} (h : k < ns.length) : ns.getD k ⟨0, 0, 0, 0, 0, [], []⟩ = ns[k] := by simp [List.getD, h]
theorem links_take {ns : List Nod} {k : Nat} (i : Int) (h : k < ns.length) : links i (ns.take (k + 1)) = links i (ns.take k) + linksE i ns[k].list := tot_take _ h
theorem plc_links (ns : List Nod) (i : Int) : ∀ k, k ≤ ns.length → (plc ns k i).links = links i (ns.take k)
  | 0, _ => by simp [plc, pl0, links, tot]
  | k + 1, h => by
    rw [plc, puts_links, plc_links ns i k (by omega), links_take i (by omega), getD_at (by omega)]
theorem plc_none (ns : List Nod) (i : Int) : ∀ k, k ≤ ns.length → links i (ns.take k) = 0 → plc ns k i = pl0
  | 0, _, _ => rfl
  | k + 1, h, h0 => by
    rw [links_take i (by omega)] at h0
    rw [plc, puts_none _ _ _ _ (by rw [getD_at (by omega)]; omega), plc_none ns i k (by omega) (by omega)]
theorem plc_some (ns : List Nod) (i : Int) : ∀ k, k ≤ ns.length → 0 < links i (ns.take k) → ∃ d, ∃ h : d < ns.length, d < k ∧ (plc ns k i).dir = d ∧ 0 < linksE i ns[d].list ∧ (plc ns k i).name = lastN i [] ns[d].list
  | 0, _, h0 => by simp [links, tot] at h0
  | k + 1, h, h0 => by
    by_cases hk : 0 < linksE i (ns[k]'(by omega)).list
    · refine ⟨k, by omega, by omega, ?_, hk, ?_⟩
      · rw [plc]; exact puts_dir _ _ _ _ (by rw [getD_at (by omega)]; exact hk)
      · rw [plc, puts_name, getD_at (by omega)]; exact lastN_any _ _ _ _ hk
    · rw [links_take i (by omega)] at h0
      obtain ⟨d, hd, h1, h2, h3, h4⟩ := plc_some ns i k (by omega) (by omega)
      refine ⟨d, hd, by omega, ?_, h3, ?_⟩
      · rw [plc, puts_none _ _ _ _ (by rw [getD_at (by omega)]; omega)]; exact h2
      · rw [plc, puts_none _ _ _ _ (by rw [getD_at (by omega)]; omega)]; exact h4
theorem take_all (ns : List Nod) : ns.take ns.length = ns := List.take_of_length_le (Nat.le_refl _)

/-- Two places of one node in two directories are two. -/
theorem tot_two {α : Type} (g : α → Nat) {l : List α} {a b : Nat} (hb : b < l.length) (hab : a < b) : g (l[a]'(by omega)) + g l[b] ≤ tot g l := by
  have h1 := tot_take g hb
  have h2 := tot_pre g l (b + 1)
  have h3 := tot_take g (l := l) (k := a) (by omega)
  have h4 := tot_pre g (l.take b) (a + 1)
  rw [List.take_take, Nat.min_eq_left (by omega)] at h4
  omega
theorem one_dir {ns : List Nod} {i : Int} (h : links i ns = 1) {a b : Nat} (ha : a < ns.length) (hb : b < ns.length) (h1 : 0 < linksE i ns[a].list) (h2 : 0 < linksE i ns[b].list) : a = b := by
  rcases Nat.lt_trichotomy a b with hab | hab | hab
  · have h3 := tot_two (fun n : Nod => linksE i n.list) hb hab
    have h4 : tot (fun n : Nod => linksE i n.list) ns = 1 := h
    omega
  · exact hab
  · have h3 := tot_two (fun n : Nod => linksE i n.list) ha hab
    have h4 : tot (fun n : Nod => linksE i n.list) ns = 1 := h
    omega
theorem parent_is {ns : List Nod} {i : Int} (h : links i ns = 1) {d : Nat} (hd : d < ns.length) (h1 : 0 < linksE i ns[d].list) : parentOf i ns = d := by
  unfold parentOf
  rw [findIdx_is (p := fun n => hasE i n.list) hd (hasE_iff.2 h1) (fun j hj hjd => by
    cases hh : hasE i ns[j].list with
    | false => rfl
    | true => exact absurd (one_dir h hj hd (hasE_iff.1 hh) h1) (by omega))]

/-- The way up, n steps. -/
def upN (P : Int → Pl) : Nat → Int → Int
  | 0, i => i
  | n + 1, i => ((P (upN P n i)).dir : Int)
theorem upN_add (P : Int → Pl) (i : Int) (m : Nat) : ∀ n, upN P (n + m) i = upN P n (upN P m i)
  | 0 => by rw [Nat.zero_add]; rfl
  | n + 1 => by
    rw [show n + 1 + m = (n + m) + 1 by omega, upN, upN_add P i m n, upN]
theorem upN_one (P : Int → Pl) (i : Int) (n : Nat) : upN P (n + 1) i = upN P n ((P i).dir : Int) := upN_add P i 1 n
theorem upN_zero {P : Int → Pl} (h : (P 0).dir = 0) : ∀ n, upN P n 0 = 0
  | 0 => rfl
  | n + 1 => by rw [upN, upN_zero h n, h]; rfl

theorem kids_at {ns : List Nod} {d : Nat} (h : d < ns.length) (i : Int) : i ∈ kids ns (d : Int) ↔ 0 < linksE i ns[d].list := by
  rw [← hasE_iff, hasE_mem]
  unfold kids
  rw [show ((d : Int)).toNat = d by simp, getD_at h, List.mem_map]
theorem links_pos {ns : List Nod} {i : Int} {d : Nat} (h : d < ns.length) (h1 : 0 < linksE i ns[d].list) : 0 < links i ns := by
  have h2 := tot_take (fun n : Nod => linksE i n.list) h
  have h3 := tot_pre (fun n : Nod => linksE i n.list) ns (d + 1)
  have h4 : tot (fun n : Nod => linksE i n.list) ns = links i ns := rfl
  omega

def entOkI (count : Int) (es : List Ent) (k : Nat) : Bool :=
  nameB (es.getD k ⟨[], 0⟩).name && (k == 0 || Op.bytesLess (es.getD (k - 1) ⟨[], 0⟩).name (es.getD k ⟨[], 0⟩).name) && inB 0 (count - 1) (es.getD k ⟨[], 0⟩).node
def entsOkI (count : Int) (es : List Ent) : Bool := (List.range es.length).all (entOkI count es)
def nodOkI (count : Int) (x : Nod) : Bool :=
  if x.kind = 0 then x.mode == 0 && (x.uid == 0 && (x.gid == 0 && (x.time == 0 && (x.data.isEmpty && x.list.isEmpty))))
  else inB 0 511 x.mode && (inB 0 99 x.uid && (inB 0 99 x.gid && (inB 0 1000000 x.time &&
    (if x.kind = 1 then decide (x.data.length ≤ 60) && x.list.isEmpty
     else if x.kind = 2 then x.data.isEmpty && entsOkI count x.list
     else x.kind == 3 && (goodB x.data && x.list.isEmpty)))))

theorem entsOk_iff {ns : List Nod} {es : List Ent} : entsOk ns es = true ↔ entsOkI ns.length es = true ∧ ∀ e ∈ es, e.node ≠ 0 ∧ kindAt ns e.node ≠ 0 := by
  unfold entsOk entsOkI
  simp only [List.all_eq_true, List.mem_range]
  constructor
  · intro h
    refine ⟨fun k hk => ?_, fun e he => ?_⟩
    · have := h k hk
      unfold entOk at this
      unfold entOkI
      simp only [Bool.and_eq_true] at this ⊢
      refine ⟨this.1.1, ?_⟩
      have h2 := inB_t this.1.2
      exact (inB_mk (by omega) (by omega)).symm
    · obtain ⟨k, hk, rfl⟩ := List.getElem_of_mem he
      have := h k hk
      unfold entOk at this
      simp only [Bool.and_eq_true, List.getD, hk, List.getElem?_eq_getElem, Option.getD_some] at this
      have h2 := inB_t this.1.2
      refine ⟨by omega, ?_⟩
      have h3 := this.2
      simp at h3
      exact h3
  · rintro ⟨h, h2⟩ k hk
    have h1 := h k hk
    obtain ⟨h3, h4⟩ := h2 es[k] (List.getElem_mem hk)
    unfold entOk
    unfold entOkI at h1
    simp only [Bool.and_eq_true] at h1 ⊢
    have e1 : es.getD k ⟨[], 0⟩ = es[k] := by simp [List.getD, hk]
    rw [e1] at h1 ⊢
    have h5 := inB_t h1.2
    refine ⟨⟨h1.1, (inB_mk (by omega) (by omega)).symm⟩, ?_⟩
    simp [h4]
theorem nodOk_iff {ns : List Nod} {x : Nod} : nodOk ns x = true ↔ nodOkI ns.length x = true ∧ ∀ e ∈ x.list, e.node ≠ 0 ∧ kindAt ns e.node ≠ 0 := by
  unfold nodOk nodOkI
  by_cases h0 : x.kind = 0
  · rw [if_pos h0, if_pos h0]
    constructor
    · intro h
      refine ⟨h, fun e he => ?_⟩
      simp only [Bool.and_eq_true, List.isEmpty_iff] at h
      rw [h.2.2.2.2.2] at he; cases he
    · exact fun h => h.1
  · rw [if_neg h0, if_neg h0]
    by_cases h1 : x.kind = 1
    · rw [if_pos h1, if_pos h1]
      constructor
      · intro h
        refine ⟨h, fun e he => ?_⟩
        simp only [Bool.and_eq_true, List.isEmpty_iff] at h
        rw [h.2.2.2.2.2] at he; cases he
      · exact fun h => h.1
    · rw [if_neg h1, if_neg h1]
      by_cases h2 : x.kind = 2
      · rw [if_pos h2, if_pos h2]
        simp only [Bool.and_eq_true, entsOk_iff, and_assoc]
      · rw [if_neg h2, if_neg h2]
        constructor
        · intro h
          refine ⟨h, fun e he => ?_⟩
          simp only [Bool.and_eq_true, List.isEmpty_iff] at h
          rw [h.2.2.2.2.2.2] at he; cases he
        · exact fun h => h.1
theorem nodOkI_dir {c : Int} {x : Nod} (h : nodOkI c x = true) (hl : x.list ≠ []) : x.kind = 2 ∧ entsOkI c x.list = true := by
  unfold nodOkI at h
  by_cases h0 : x.kind = 0
  · rw [if_pos h0] at h
    simp only [Bool.and_eq_true, List.isEmpty_iff] at h
    exact absurd h.2.2.2.2.2 hl
  · rw [if_neg h0] at h
    by_cases h1 : x.kind = 1
    · rw [if_pos h1] at h
      simp only [Bool.and_eq_true, List.isEmpty_iff] at h
      exact absurd h.2.2.2.2.2 hl
    · rw [if_neg h1] at h
      by_cases h2 : x.kind = 2
      · rw [if_pos h2] at h
        simp only [Bool.and_eq_true] at h
        exact ⟨h2, h.2.2.2.2.2⟩
      · rw [if_neg h2] at h
        simp only [Bool.and_eq_true, List.isEmpty_iff] at h
        exact absurd h.2.2.2.2.2.2 hl
theorem entsOkI_in {c : Int} {es : List Ent} (h : entsOkI c es = true) {e : Ent} (he : e ∈ es) : 0 ≤ e.node ∧ e.node < c := by
  obtain ⟨k, hk, rfl⟩ := List.getElem_of_mem he
  unfold entsOkI at h
  rw [List.all_eq_true] at h
  have h1 := h k (List.mem_range.2 hk)
  unfold entOkI at h1
  simp only [Bool.and_eq_true] at h1
  have e1 : es.getD k ⟨[], 0⟩ = es[k] := by simp [List.getD, hk]
  rw [e1] at h1
  have := inB_t h1.2
  omega
/-- Where all nodes are good each entry leads to a node. -/
theorem leadI {ns : List Nod} (h : ∀ n ∈ ns, nodOkI ns.length n = true) : Lead ns := by
  intro n hn e he
  have h1 := (nodOkI_dir (h n hn) (fun x => by rw [x] at he; cases he)).2
  exact entsOkI_in h1 he

/-- Node k is where it may be. -/
def wellB (ns : List Nod) (P : Int → Pl) (k : Nat) : Bool :=
  if k = 0 ∨ kindAt ns k = 0 then (P k).links == 0
  else if kindAt ns k = 2 then (P k).links == 1 && upN P ns.length k == 0
  else decide (1 ≤ (P k).links)
def placesF (ns : List Nod) : Int → Pl := plc ns ns.length
def GoodI (f : FsD) : Prop :=
  inB 1 40 (f.nodes.length : Int) = true ∧ inB 0 1000 f.room = true ∧ (∀ n ∈ f.nodes, nodOkI f.nodes.length n = true) ∧ kindAt f.nodes 0 = 2 ∧ (∀ k, k < f.nodes.length → wellB f.nodes (placesF f.nodes) k = true) ∧ (sumD f.nodes : Int) ≤ f.room

theorem pl_links (ns : List Nod) (i : Int) : (placesF ns i).links = links i ns := by
  unfold placesF; rw [plc_links ns i _ (Nat.le_refl _), take_all]
theorem pl_none {ns : List Nod} {i : Int} (h : links i ns = 0) : placesF ns i = pl0 := plc_none ns i _ (Nat.le_refl _) (by rw [take_all]; exact h)
theorem pl_some {ns : List Nod} {i : Int} (h : 0 < links i ns) : ∃ d, ∃ h : d < ns.length, (placesF ns i).dir = d ∧ 0 < linksE i ns[d].list ∧ (placesF ns i).name = lastN i [] ns[d].list := by
  obtain ⟨d, h1, _, h2⟩ := plc_some ns i _ (Nat.le_refl _) (by rw [take_all]; exact h)
  exact ⟨d, h1, h2⟩
theorem pl_dir_lt {ns : List Nod} (hn : 0 < ns.length) (i : Int) : (placesF ns i).dir < ns.length := by
  by_cases h : 0 < links i ns
  · obtain ⟨d, hd, e, _⟩ := pl_some h
    rw [e]; exact hd
  · rw [pl_none (by omega)]; exact hn
theorem upN_in {ns : List Nod} (hn : 0 < ns.length) {i : Int} (h0 : 0 ≤ i) (h1 : i < ns.length) : ∀ n, 0 ≤ upN (placesF ns) n i ∧ upN (placesF ns) n i < ns.length
  | 0 => ⟨h0, h1⟩
  | n + 1 => by
    have := pl_dir_lt hn (upN (placesF ns) n i)
    rw [upN]; omega

/-- Where the way up ends at 0 it has ended there before the nodes are used up. -/
theorem upN_short {ns : List Nod} (hn : 0 < ns.length) (hz : (placesF ns 0).dir = 0) {i : Int} (h0 : 0 ≤ i) (h1 : i < ns.length) {m : Nat} (hm : upN (placesF ns) m i = 0) : upN (placesF ns) ns.length i = 0 := by
  obtain ⟨P, hP⟩ : ∃ P, P = placesF ns := ⟨_, rfl⟩
  have hin := upN_in hn h0 h1
  rw [← hP] at hm hz hin ⊢
  have more : ∀ a b, upN P a i = 0 → a ≤ b → upN P b i = 0 := fun a b ha hab => by
    have := upN_add P i a (b - a)
    rw [show b - a + a = b by omega, ha, upN_zero hz] at this
    exact this
  by_cases hfirst : ∃ m, upN P m i = 0 ∧ ∀ j, j < m → upN P j i ≠ 0
  · obtain ⟨m, h2, h3⟩ := hfirst
    have hno : Nums ns.length ((List.range m).map fun j => upN P j i) := by
      refine ⟨?_, fun x hx => ?_⟩
      · rw [List.Nodup, List.pairwise_map]
        refine List.Pairwise.imp_of_mem ?_ (List.pairwise_lt_range (n := m))
        intro a b ha hb hab e
        rw [List.mem_range] at ha hb
        have h4 := upN_add P i a (m - b)
        have h5 := upN_add P i b (m - b)
        rw [← e, ← h4, show m - b + b = m by omega, h2] at h5
        exact h3 (m - b + a) (by omega) h5.symm
      · obtain ⟨j, _, rfl⟩ := List.mem_map.1 hx
        exact hin j
    have := hno.len
    simp at this
    exact more m _ h2 this
  · exfalso
    have all : ∀ k, ∀ j, j < k → upN P j i ≠ 0 := by
      intro k
      induction k with
      | zero => intro j hj; omega
      | succ k ih =>
        intro j hj e
        exact hfirst ⟨j, e, fun a ha => ih a (by omega)⟩
    exact all (m + 1) m (by omega) hm

theorem good_iff (f : FsD) : GoodI f ↔ GoodF f := by
  obtain ⟨ns, room⟩ := f
  constructor
  · rintro ⟨h1, h2, h3, h4, h5, h6⟩
    simp only at h1 h2 h3 h4 h5 h6
    have hn : 0 < ns.length := by have := inB_t h1; omega
    have hlead := leadI h3
    have hw : ∀ k, k < ns.length → (k = 0 ∨ kindAt ns k = 0 → links k ns = 0) ∧ (k ≠ 0 → kindAt ns k = 2 → links k ns = 1 ∧ upN (placesF ns) ns.length k = 0) ∧ (k ≠ 0 → kindAt ns k ≠ 0 → 1 ≤ links k ns) := by
      intro k hk
      have h := h5 k hk
      unfold wellB at h
      rw [pl_links] at h
      by_cases ha : k = 0 ∨ kindAt ns k = 0
      · rw [if_pos ha] at h
        have h7 : links k ns = 0 := by simpa using h
        refine ⟨fun _ => h7, fun hk0 hk2 => ?_, fun hk0 hkk => ?_⟩
        · rcases ha with ha | ha
          · exact absurd ha hk0
          · rw [ha] at hk2; omega
        · rcases ha with ha | ha
          · exact absurd ha hk0
          · exact absurd ha hkk
      · rw [if_neg ha] at h
        refine ⟨fun hb => absurd hb ha, fun hk0 hk2 => ?_, fun hk0 hkk => ?_⟩
        · rw [if_pos hk2] at h
          simpa using h
        · by_cases hk2 : kindAt ns k = 2
          · rw [if_pos hk2] at h
            have : links k ns = 1 := by simp at h; exact h.1
            omega
          · rw [if_neg hk2] at h
            simpa using h
    have hpos : ∀ n ∈ ns, ∀ e ∈ n.list, 0 < links e.node ns := by
      intro n hn e he
      obtain ⟨d, hd, rfl⟩ := List.getElem_of_mem hn
      exact links_pos hd (hasE_iff.1 (hasE_mem.2 ⟨e, he, rfl⟩))
    have hent : ∀ n ∈ ns, ∀ e ∈ n.list, e.node ≠ 0 ∧ kindAt ns e.node ≠ 0 := by
      intro n hn e he
      obtain ⟨l0, l1⟩ := hlead n hn e he
      have hp := hpos n hn e he
      obtain ⟨k, hk⟩ : ∃ k : Nat, e.node = k := ⟨e.node.toNat, by omega⟩
      rw [hk] at l1 hp ⊢
      have hw0 := (hw k (by omega)).1
      refine ⟨fun h => ?_, fun h => ?_⟩
      · have := hw0 (.inl (by omega)); omega
      · have := hw0 (.inr h); omega
    have hnod : ∀ n ∈ ns, nodOk ns n = true := fun n hn => nodOk_iff.2 ⟨h3 n hn, hent n hn⟩
    have h00 : links 0 ns = 0 := (hw 0 hn).1 (.inl rfl)
    -- all that is not free comes from 0
    have climb : ∀ m, ∀ k : Nat, k < ns.length → kindAt ns k ≠ 0 → upN (placesF ns) m k = 0 → Reach ns 0 k := by
      intro m
      induction m with
      | zero =>
        intro k hk _ h
        rw [upN] at h
        rw [h]; exact .refl
      | succ m ih =>
        intro k hk hkk h
        by_cases hk0 : k = 0
        · subst hk0; exact .refl
        · have hl := (hw k hk).2.2 hk0 hkk
          obtain ⟨d, hd, e1, e2, _⟩ := pl_some (ns := ns) (i := k) (by omega)
          rw [upN_one, e1] at h
          have hdir : ns[d].kind = 2 := (nodOkI_dir (h3 _ (List.getElem_mem hd)) (fun x => by rw [x] at e2; simp [linksE, tot] at e2)).1
          have hdk : kindAt ns d = 2 := by rw [← hdir]; simp [kindAt, List.getD, hd]
          exact .step (ih d hd (by omega) h) ((kids_at hd _).2 e2)
    refine ⟨h1, h2, h6, h4, hnod, fun k hk => ⟨fun h => by subst h; exact h00, fun hk0 hk2 => ((hw k hk).2.1 (by omega) hk2).1, fun hkk => ?_⟩⟩
    by_cases hk0 : k = 0
    · subst hk0; exact .refl
    · by_cases hk2 : kindAt ns k = 2
      · exact climb _ k hk hkk ((hw k hk).2.1 hk0 hk2).2
      · have hl := (hw k hk).2.2 hk0 hkk
        obtain ⟨d, hd, e1, e2, _⟩ := pl_some (ns := ns) (i := k) (by omega)
        have hdir : ns[d].kind = 2 := (nodOkI_dir (h3 _ (List.getElem_mem hd)) (fun x => by rw [x] at e2; simp [linksE, tot] at e2)).1
        have hdk : kindAt ns d = 2 := by rw [← hdir]; simp [kindAt, List.getD, hd]
        refine .step (b := d) ?_ ((kids_at hd _).2 e2)
        by_cases hd0 : d = 0
        · subst hd0; exact .refl
        · exact climb _ d hd (by omega) ((hw d hd).2.1 hd0 hdk).2
  · rintro ⟨h1, h2, h3, h4, h5, h6⟩
    simp only at h1 h2 h3 h4 h5 h6
    have hn : 0 < ns.length := by have := inB_t h1; omega
    have h00 : links 0 ns = 0 := (h6 0 hn).1 rfl
    have hz : (placesF ns 0).dir = 0 := by rw [pl_none h00]; rfl
    have hfree : ∀ k : Nat, k < ns.length → kindAt ns k = 0 → links k ns = 0 := by
      intro k hk hkk
      rcases Nat.eq_zero_or_pos (links k ns) with h | h
      · exact h
      · obtain ⟨d, hd, _, e2, _⟩ := pl_some h
        obtain ⟨e, he, hek⟩ := hasE_mem.1 (hasE_iff.2 e2)
        have := ((nodOk_iff.1 (h5 _ (List.getElem_mem hd))).2 e he).2
        rw [hek] at this
        exact absurd hkk this
    have hdirs : ∀ d : Nat, ∀ h : d < ns.length, ns[d].list ≠ [] → kindAt ns d = 2 := by
      intro d hd hl
      have := (nodOkI_dir ((nodOk_iff.1 (h5 _ (List.getElem_mem hd))).1) hl).1
      rw [← this]; simp [kindAt, List.getD, hd]
    have hlead := leadI (ns := ns) (fun n hn => (nodOk_iff.1 (h5 n hn)).1)
    have down : ∀ x, Reach ns 0 x → (x = 0 ∨ links x ns = 1) → ∃ m, upN (placesF ns) m x = 0 := by
      intro x hr
      induction hr with
      | refl => exact fun _ => ⟨0, rfl⟩
      | @step b c hb hc ih =>
        intro hx
        rcases hx with hx | hx
        · subst hx; exact ⟨0, rfl⟩
        · -- b is a directory
          have hbd : ∃ d : Nat, ∃ h : d < ns.length, b = d := by
            cases hb with
            | refl => exact ⟨0, hn, rfl⟩
            | @step b' _ hb' hbk =>
              unfold kids at hbk
              obtain ⟨e, he, heb⟩ := List.mem_map.1 hbk
              have hlt : b'.toNat < ns.length := by
                by_cases hq : b'.toNat < ns.length
                · exact hq
                · have : ns.getD b'.toNat ⟨0, 0, 0, 0, 0, [], []⟩ = ⟨0, 0, 0, 0, 0, [], []⟩ := by simp [List.getD, List.getElem?_eq_none (Nat.le_of_not_lt hq)]
                  rw [this] at he; cases he
              rw [getD_at hlt] at he
              obtain ⟨l0, l1⟩ := hlead _ (List.getElem_mem hlt) e he
              exact ⟨b.toNat, by omega, by omega⟩
          obtain ⟨d, hd, rfl⟩ := hbd
          have e2 := (kids_at hd c).1 hc
          have hdk := hdirs d hd (fun x => by rw [x] at e2; simp [linksE, tot] at e2)
          obtain ⟨d2, hd2, e3, e4, _⟩ := pl_some (ns := ns) (i := c) (by omega)
          have hdd := one_dir hx hd2 hd e4 e2
          subst hdd
          obtain ⟨m, hm⟩ := ih (by
            by_cases hd0 : d2 = 0
            · exact .inl (by omega)
            · exact .inr ((h6 d2 hd).2.1 (by omega) hdk))
          exact ⟨m + 1, by rw [upN_one, e3]; exact hm⟩
    refine ⟨h1, h2, fun n hn => (nodOk_iff.1 (h5 n hn)).1, h4, fun k hk => ?_, h3⟩
    simp only at hk ⊢
    unfold wellB
    rw [pl_links]
    by_cases ha : k = 0 ∨ kindAt ns k = 0
    · rw [if_pos ha]
      rcases ha with ha | ha
      · subst ha; simpa using h00
      · simpa using hfree k hk ha
    · rw [if_neg ha]
      have hk0 : k ≠ 0 := fun h => ha (.inl h)
      have hkk : kindAt ns k ≠ 0 := fun h => ha (.inr h)
      have hreach := (h6 k hk).2.2 hkk
      by_cases hk2 : kindAt ns k = 2
      · rw [if_pos hk2]
        have hl := (h6 k hk).2.1 (by omega) hk2
        obtain ⟨m, hm⟩ := down k hreach (.inr hl)
        have := upN_short hn hz (by omega) (by omega) hm
        simp [hl, this]
      · rw [if_neg hk2]
        cases hreach with
        | refl => exact absurd rfl hk0
        | @step b _ hb hbk =>
          unfold kids at hbk
          obtain ⟨e, he, heb⟩ := List.mem_map.1 hbk
          have hlt : b.toNat < ns.length := by
            by_cases hq : b.toNat < ns.length
            · exact hq
            · have : ns.getD b.toNat ⟨0, 0, 0, 0, 0, [], []⟩ = ⟨0, 0, 0, 0, 0, [], []⟩ := by simp [List.getD, List.getElem?_eq_none (Nat.le_of_not_lt hq)]
              rw [this] at he; cases he
          rw [getD_at hlt] at he
          have := links_pos (i := k) hlt (hasE_iff.1 (hasE_mem.2 ⟨e, he, heb⟩))
          simp; omega
theorem goodF_of {f : FsD} (h : GoodI f) : true = goodF f := goodF_yes ((good_iff f).1 h)
theorem goodF_not {f : FsD} (h : ¬ GoodI f) : false = goodF f := goodF_no (fun x => h ((good_iff f).2 x))
end Go.Proofs.YtgmkfhhlnhgkhaaGreatDoor


/-
  Contracts of the range tests and of impl.triplesOf, at this seat's translation: what each returns, for every argument.
  Conditions: none but the ranges that each contract names.
-/
namespace Go.Proofs.YtgmkfhhlnhgkhaaGreatDoor
open Go.ChangeShapes Go.WideShapes Go.ChangeAt Go.RowKit Go.Joins
set_option linter.unusedVariables false

set_option maxHeartbeats 400000 in
theorem isMode_any (n : Int) (w : World) : Calls Tryz.prog 174 #[.int .i64 n] w fun e w' => e = .returned (.bool (inB 0 511 n)) ∧ w = w' := by
  by_cases h0 : 0 ≤ n
  · by_cases h1 : n ≤ 511
    · go_enter Tryz.func174, Tryz.ntmps174
      go_wp2
      go_ret
      exact ⟨ret_bool (inB_mk h0 h1), rfl⟩
    · go_enter Tryz.func174, Tryz.ntmps174
      go_wp2
      go_ret
      exact ⟨ret_bool (inB_no (by omega)), rfl⟩
  · go_enter Tryz.func174, Tryz.ntmps174
    go_wp2
    go_ret
    exact ⟨ret_bool (inB_no (by omega)), rfl⟩

set_option maxHeartbeats 400000 in
theorem l1Mode_any (n : Int) (w : World) : Calls Tryz.prog 143 #[.int .i64 n] w fun e w' => e = .returned (.bool (inB 0 511 n)) ∧ w = w' := by
  go_enter Tryz.func143, Tryz.ntmps143
  go_wp2_with (go_at_call 86; refine (l1In_any _ _ _ _).mono ?_; rintro e w' ⟨rfl, rfl⟩)
  go_ret
  exact ⟨rfl, rfl⟩

set_option maxHeartbeats 400000 in
theorem triples (m : Int) (w : World) (h0 : 0 ≤ m) (h1 : m ≤ 511) :
    Calls Tryz.prog 193 #[.int .i64 m] w fun e w' => e = .returned (.tuple #[.int .i64 (m / 64), .int .i64 (m / 8 % 8), .int .i64 (m % 8)]) ∧ w = w' := by
  have H1 := and7 (m / 64) (by omega) (by omega)
  have H2 := and7 (m / 8) (by omega) (by omega)
  have H3 := and7 m (by omega) (by omega)
  have H4 : m / 64 % 8 = m / 64 := by omega
  go_enter Tryz.func193, Tryz.ntmps193
  go_wp2
  go_ret3
  exact ⟨rfl, rfl⟩
end Go.Proofs.YtgmkfhhlnhgkhaaGreatDoor


/-
  Contracts of impl.May, spec.May and all that they call, at this seat's translation: what each returns, for every argument.
  Conditions: none but the ranges that each contract names.
-/
namespace Go.Proofs.YtgmkfhhlnhgkhaaGreatDoor
open Go.ChangeShapes Go.WideShapes Go.ChangeAt Go.RowKit Go.Joins
set_option linter.unusedVariables false

set_option maxHeartbeats 400000 in
theorem isId_any (n : Int) (w : World) : Calls Tryz.prog 154 #[.int .i64 n] w fun e w' => e = .returned (.bool (inB 0 99 n)) ∧ w = w' := by
  by_cases h0 : 0 ≤ n
  · by_cases h1 : n ≤ 99
    · go_enter Tryz.func154, Tryz.ntmps154
      go_wp2
      go_ret
      exact ⟨ret_bool (inB_mk h0 h1), rfl⟩
    · go_enter Tryz.func154, Tryz.ntmps154
      go_wp2
      go_ret
      exact ⟨ret_bool (inB_no (by omega)), rfl⟩
  · go_enter Tryz.func154, Tryz.ntmps154
    go_wp2
    go_ret
    exact ⟨ret_bool (inB_no (by omega)), rfl⟩

set_option maxHeartbeats 400000 in
theorem isTriple_any (n : Int) (w : World) : Calls Tryz.prog 190 #[.int .i64 n] w fun e w' => e = .returned (.bool (inB 0 7 n)) ∧ w = w' := by
  by_cases h0 : 0 ≤ n
  · by_cases h1 : n ≤ 7
    · go_enter Tryz.func190, Tryz.ntmps190
      go_wp2
      go_ret
      exact ⟨ret_bool (inB_mk h0 h1), rfl⟩
    · go_enter Tryz.func190, Tryz.ntmps190
      go_wp2
      go_ret
      exact ⟨ret_bool (inB_no (by omega)), rfl⟩
  · go_enter Tryz.func190, Tryz.ntmps190
    go_wp2
    go_ret
    exact ⟨ret_bool (inB_no (by omega)), rfl⟩

def credB (u g : Int) : Bool := inB 0 99 u && inB 0 99 g

set_option maxHeartbeats 400000 in
theorem goodCred_any (u g : Int) (w : World) : Calls Tryz.prog 116 #[.agg #[.int .i64 u, .int .i64 g]] w fun e w' => e = .returned (.bool (credB u g)) ∧ Below w.heap.size w w' := by
  by_cases h0 : inB 0 99 u = true
  · go_enter Tryz.func116, Tryz.ntmps116
    go_wp2_with (go_at_call 154; refine (isId_any _ _).mono ?_; rintro e w' ⟨rfl, rfl⟩)
    go_ret
    exact ⟨ret_bool (by simp [credB, h0]), by go_grown⟩
  · have h0' : inB 0 99 u = false := by simpa using h0
    go_enter Tryz.func116, Tryz.ntmps116
    go_wp2_with (go_at_call 154; refine (isId_any _ _).mono ?_; rintro e w' ⟨rfl, rfl⟩)
    go_ret
    exact ⟨ret_bool (by simp [credB, h0']), by go_grown⟩

set_option maxHeartbeats 400000 in
theorem l1Cred_any (u g : Int) (w : World) : Calls Tryz.prog 129 #[.agg #[.int .i64 u, .int .i64 g]] w fun e w' => e = .returned (.bool (credB u g)) ∧ Below w.heap.size w w' := by
  by_cases h0 : inB 0 99 u = true
  · go_enter Tryz.func129, Tryz.ntmps129
    go_wp2_with (go_at_call 86; refine (l1In_any _ _ _ _).mono ?_; rintro e w' ⟨rfl, rfl⟩)
    go_ret
    exact ⟨ret_bool (by simp [credB, h0]), by go_grown⟩
  · have h0' : inB 0 99 u = false := by simpa using h0
    go_enter Tryz.func129, Tryz.ntmps129
    go_wp2_with (go_at_call 86; refine (l1In_any _ _ _ _).mono ?_; rintro e w' ⟨rfl, rfl⟩)
    go_ret
    exact ⟨ret_bool (by simp [credB, h0']), by go_grown⟩

/-- The three bits that count for a cred: the owner's, else the group's, else the others'. -/
def tri (u g m uid gid : Int) : Int := if u = uid then m / 64 else if g = gid then m / 8 % 8 else m % 8
theorem tri_own {u g m uid gid : Int} (h : u = uid) : tri u g m uid gid = m / 64 := by simp [tri, h]
theorem tri_grp {u g m uid gid : Int} (h : u ≠ uid) (k : g = gid) : tri u g m uid gid = m / 8 % 8 := by simp [tri, h, k]
theorem tri_oth {u g m uid gid : Int} (h : u ≠ uid) (k : g ≠ gid) : tri u g m uid gid = m % 8 := by simp [tri, h, k]

set_option maxHeartbeats 400000 in
theorem tripleFor_any (u g m uid gid : Int) (w : World) (h0 : 0 ≤ m) (h1 : m ≤ 511) :
    Calls Tryz.prog 191 #[.agg #[.int .i64 u, .int .i64 g], .int .i64 m, .int .i64 uid, .int .i64 gid] w fun e w' => e = .returned (.int .i64 (tri u g m uid gid)) ∧ Below w.heap.size w w' := by
  by_cases hu : u = uid
  · have hb : (u == uid) = true := by simpa using hu
    have HU := Lib.hid hu
    clear hu
    go_enter Tryz.func191, Tryz.ntmps191
    go_wp2_with (go_at_call 193; refine (triples _ _ h0 h1).mono ?_; rintro e w' ⟨rfl, rfl⟩)
    go_ret
    exact ⟨ret_int (tri_own HU.out).symm, by go_grown⟩
  · have hb : (u == uid) = false := by simpa using hu
    have HU := Lib.hid hu
    clear hu
    by_cases hg : g = gid
    · have hb2 : (g == gid) = true := by simpa using hg
      have HG := Lib.hid hg
      clear hg
      go_enter Tryz.func191, Tryz.ntmps191
      go_wp2_with (go_at_call 193; refine (triples _ _ h0 h1).mono ?_; rintro e w' ⟨rfl, rfl⟩)
      go_ret
      exact ⟨ret_int (tri_grp HU.out HG.out).symm, by go_grown⟩
    · have hb2 : (g == gid) = false := by simpa using hg
      have HG := Lib.hid hg
      clear hg
      go_enter Tryz.func191, Tryz.ntmps191
      go_wp2_with (go_at_call 193; refine (triples _ _ h0 h1).mono ?_; rintro e w' ⟨rfl, rfl⟩)
      go_ret
      exact ⟨ret_int (tri_oth HU.out HG.out).symm, by go_grown⟩

/-- Whether a cred may all bits of want. -/
def mayB (u g m uid gid want : Int) : Bool := u == 0 || bits BinOp.and IntKind.i64 (tri u g m uid gid) want == want
theorem mayB_zero {u g m uid gid want : Int} (h : u = 0) : mayB u g m uid gid want = true := by simp [mayB, h]
theorem mayB_else {u g m uid gid want : Int} (h : u ≠ 0) : mayB u g m uid gid want = (bits BinOp.and IntKind.i64 (tri u g m uid gid) want == want) := by simp [mayB, h]

set_option maxHeartbeats 400000 in
theorem l1May_any (u g m uid gid want : Int) (w : World) (h0 : 0 ≤ m) (h1 : m ≤ 511) :
    Calls Tryz.prog 138 #[.agg #[.int .i64 u, .int .i64 g], .int .i64 m, .int .i64 uid, .int .i64 gid, .int .i64 want] w fun e w' => e = .returned (.bool (mayB u g m uid gid want)) ∧ Below w.heap.size w w' := by
  have H2 := and7 (m / 8) (by omega) (by omega)
  have H3 := and7 m (by omega) (by omega)
  by_cases hz : u = 0
  · have hz1 : (u == 0) = true := by simpa using hz
    have HZ := Lib.hid hz
    clear hz
    go_enter Tryz.func138, Tryz.ntmps138
    go_wp2
    go_ret
    exact ⟨ret_bool (mayB_zero HZ.out).symm, by go_grown⟩
  · have hz1 : (u == 0) = false := by simpa using hz
    have HZ := Lib.hid hz
    clear hz
    by_cases hu : u = uid
    · have hb : (u == uid) = true := by simpa using hu
      have HU := Lib.hid hu
      clear hu
      go_enter Tryz.func138, Tryz.ntmps138
      go_wp2
      go_ret
      exact ⟨ret_bool (by rw [mayB_else HZ.out, tri_own HU.out]), by go_grown⟩
    · have hb : (u == uid) = false := by simpa using hu
      have HU := Lib.hid hu
      clear hu
      by_cases hg : g = gid
      · have hb2 : (g == gid) = true := by simpa using hg
        have HG := Lib.hid hg
        clear hg
        go_enter Tryz.func138, Tryz.ntmps138
        go_wp2
        go_ret
        exact ⟨ret_bool (by rw [mayB_else HZ.out, tri_grp HU.out HG.out]), by go_grown⟩
      · have hb2 : (g == gid) = false := by simpa using hg
        have HG := Lib.hid hg
        clear hg
        go_enter Tryz.func138, Tryz.ntmps138
        go_wp2
        go_ret
        exact ⟨ret_bool (by rw [mayB_else HZ.out, tri_oth HU.out HG.out]), by go_grown⟩
end Go.Proofs.YtgmkfhhlnhgkhaaGreatDoor


/-
  Looking a path up in a file system, as plain data: one step, all steps, what is found.
  Conditions: as each states.
-/
namespace Go.Proofs.YtgmkfhhlnhgkhaaGreatDoor
open Go.ChangeShapes Go.WideShapes Go.ChangeAt Go.RowKit Go.Joins
set_option linter.unusedVariables false

def nodeAt (ns : List Nod) (i : Nat) : Nod := ns.getD i ⟨0, 0, 0, 0, 0, [], []⟩
/-- The node of a name in a list, -1 where it is not there. -/
def atE : List Ent → List UInt8 → Int
  | [], _ => -1
  | e :: es, p => if e.name = p then e.node else atE es p
/-- Where a look is: the node so far, the parts to come, how many links there were. -/
structure Lk where
  node : Nat
  parts : List (List UInt8)
  hops : Nat
/-- One step at the part p with r behind it: a code, and where the look is then. -/
def lkStep (ns : List Nod) (u g : Int) (fol : Bool) (node : Nat) (p : List UInt8) (r : List (List UInt8)) (hops : Nat) : Int × Lk :=
  if (nodeAt ns node).kind ≠ 2 then (3, ⟨0, [], 0⟩)
  else if mayB u g (nodeAt ns node).mode (nodeAt ns node).uid (nodeAt ns node).gid 1 = false then (4, ⟨0, [], 0⟩)
  else if p = [46] then (0, ⟨node, r, hops⟩)
  else if p = [46, 46] then (0, ⟨parentOf (node : Int) ns, r, hops⟩)
  else if atE (nodeAt ns node).list p < 0 then (2, ⟨0, [], 0⟩)
  else if (nodeAt ns (atE (nodeAt ns node).list p).toNat).kind ≠ 3 ∨ (r = [] ∧ fol = false) then (0, ⟨(atE (nodeAt ns node).list p).toNat, r, hops⟩)
  else if hops = 8 then (5, ⟨0, [], 0⟩)
  else (0, ⟨if wholeB (nodeAt ns (atE (nodeAt ns node).list p).toNat).data = true then 0 else node, parts (nodeAt ns (atE (nodeAt ns node).list p).toNat).data ++ r, hops + 1⟩)
/-- All steps, n at most. -/
def lkRun (ns : List Nod) (u g : Int) (fol : Bool) : Nat → Lk → Int × Nat
  | 0, s => (0, s.node)
  | n + 1, ⟨node, [], _⟩ => (0, node)
  | n + 1, ⟨node, p :: r, hops⟩ => if (lkStep ns u g fol node p r hops).1 ≠ 0 then ((lkStep ns u g fol node p r hops).1, 0) else lkRun ns u g fol n (lkStep ns u g fol node p r hops).2
def lkW (s : Lk) : Nat := (8 - s.hops) * 64 + s.parts.length
def lkGo (ns : List Nod) (u g : Int) (fol : Bool) (s : Lk) : Int × Nat := lkRun ns u g fol (lkW s + 1) s

/-- Every link's text is short. -/
def LinksFit (ns : List Nod) : Prop := ∀ i, (nodeAt ns i).kind = 3 → (parts (nodeAt ns i).data).length ≤ 61
theorem step_less {ns : List Nod} (hf : LinksFit ns) {u g : Int} {fol : Bool} {node : Nat} {p : List UInt8} {r : List (List UInt8)} {hops : Nat} (hh : hops ≤ 8) (h0 : (lkStep ns u g fol node p r hops).1 = 0) :
    lkW (lkStep ns u g fol node p r hops).2 < lkW ⟨node, p :: r, hops⟩ ∧ (lkStep ns u g fol node p r hops).2.hops ≤ 8 := by
  unfold lkStep at h0 ⊢
  by_cases h1 : (nodeAt ns node).kind ≠ 2
  · rw [if_pos h1] at h0; simp at h0
  rw [if_neg h1] at h0 ⊢
  by_cases h2 : mayB u g (nodeAt ns node).mode (nodeAt ns node).uid (nodeAt ns node).gid 1 = false
  · rw [if_pos h2] at h0; simp at h0
  rw [if_neg h2] at h0 ⊢
  by_cases h3 : p = [46]
  · rw [if_pos h3]; simp [lkW]; omega
  rw [if_neg h3] at h0 ⊢
  by_cases h4 : p = [46, 46]
  · rw [if_pos h4]; simp [lkW]; omega
  rw [if_neg h4] at h0 ⊢
  by_cases h5 : atE (nodeAt ns node).list p < 0
  · rw [if_pos h5] at h0; simp at h0
  rw [if_neg h5] at h0 ⊢
  by_cases h6 : (nodeAt ns (atE (nodeAt ns node).list p).toNat).kind ≠ 3 ∨ (r = [] ∧ fol = false)
  · rw [if_pos h6]; simp [lkW]; omega
  rw [if_neg h6] at h0 ⊢
  by_cases h7 : hops = 8
  · rw [if_pos h7] at h0; simp at h0
  rw [if_neg h7]
  have h8 := hf (atE (nodeAt ns node).list p).toNat (by
    by_cases hk : (nodeAt ns (atE (nodeAt ns node).list p).toNat).kind = 3
    · exact hk
    · exact absurd (.inl hk) h6)
  simp [lkW]
  omega
theorem lkRun_more {ns : List Nod} (hf : LinksFit ns) (u g : Int) (fol : Bool) : ∀ (n m : Nat) (s : Lk), s.hops ≤ 8 → lkW s < n → lkW s < m → lkRun ns u g fol n s = lkRun ns u g fol m s
  | 0, _, _, _, h, _ => absurd h (Nat.not_lt_zero _)
  | n + 1, 0, _, _, _, h => absurd h (Nat.not_lt_zero _)
  | n + 1, m + 1, ⟨node, [], hops⟩, _, _, _ => rfl
  | n + 1, m + 1, ⟨node, p :: r, hops⟩, hh, hn, hm => by
    rw [lkRun, lkRun]
    by_cases h0 : (lkStep ns u g fol node p r hops).1 = 0
    · rw [if_neg (by rw [h0]; simp), if_neg (by rw [h0]; simp)]
      obtain ⟨h1, h2⟩ := step_less (hops := hops) hf (show hops ≤ 8 from hh) h0
      exact lkRun_more hf u g fol n m _ h2 (by omega) (by omega)
    · rw [if_pos h0, if_pos h0]
theorem lkGo_nil (ns : List Nod) (u g : Int) (fol : Bool) (node hops : Nat) : lkGo ns u g fol ⟨node, [], hops⟩ = (0, node) := rfl
theorem lkGo_stop {ns : List Nod} {u g : Int} {fol : Bool} {node : Nat} {p : List UInt8} {r : List (List UInt8)} {hops : Nat} (h : (lkStep ns u g fol node p r hops).1 ≠ 0) :
    lkGo ns u g fol ⟨node, p :: r, hops⟩ = ((lkStep ns u g fol node p r hops).1, 0) := by
  unfold lkGo
  rw [lkRun, if_pos h]
theorem lkGo_step {ns : List Nod} (hf : LinksFit ns) {u g : Int} {fol : Bool} {node : Nat} {p : List UInt8} {r : List (List UInt8)} {hops : Nat} (hh : hops ≤ 8) (h : (lkStep ns u g fol node p r hops).1 = 0) :
    lkGo ns u g fol ⟨node, p :: r, hops⟩ = lkGo ns u g fol (lkStep ns u g fol node p r hops).2 := by
  obtain ⟨h1, h2⟩ := step_less hf hh h
  unfold lkGo
  rw [lkRun, if_neg (by rw [h]; simp)]
  exact lkRun_more hf u g fol _ _ _ h2 (by omega) (by omega)

def slashB (l : List UInt8) : Bool := l.getLast? == some 47
/-- What FindNode finds: a code and a node. -/
def lkFind (ns : List Nod) (u g : Int) (l : List UInt8) (fol : Bool) : Int × Nat :=
  if goodB l = true ∧ wholeB l = true then
    if (lkGo ns u g (fol || slashB l) ⟨0, parts l, 0⟩).1 ≠ 0 then ((lkGo ns u g (fol || slashB l) ⟨0, parts l, 0⟩).1, 0)
    else if slashB l = true ∧ (nodeAt ns (lkGo ns u g (fol || slashB l) ⟨0, parts l, 0⟩).2).kind ≠ 2 then (3, 0)
    else (0, (lkGo ns u g (fol || slashB l) ⟨0, parts l, 0⟩).2)
  else (1, 0)
theorem linksFit_of {ns : List Nod} (h : ∀ n ∈ ns, nodOkI ns.length n = true) : LinksFit ns := by
  intro i hk
  have hi : i < ns.length := by
    by_cases hi : i < ns.length
    · exact hi
    · unfold nodeAt at hk
      simp [List.getD, List.getElem?_eq_none (Nat.le_of_not_lt hi)] at hk
  have e : nodeAt ns i = ns[i] := getD_at hi
  rw [e] at hk ⊢
  have h1 := h _ (List.getElem_mem hi)
  unfold nodOkI at h1
  rw [if_neg (by omega), if_neg (by omega), if_neg (by omega)] at h1
  simp only [Bool.and_eq_true] at h1
  have h2 : goodB ns[i].data = true := h1.2.2.2.2.2.1
  have h3 : ns[i].data.length ≤ 60 := by simp [goodB] at h2; exact h2.1.2
  have := parts_le ns[i].data
  omega
end Go.Proofs.YtgmkfhhlnhgkhaaGreatDoor


/-
  Contracts of the model's l3At and l4May.
  Conditions: lists of at most 2^20 entries; a node that is there, with a mode.
-/
namespace Go.Proofs.YtgmkfhhlnhgkhaaGreatDoor
open Go.ChangeShapes Go.WideShapes Go.ChangeAt Go.RowKit Go.Joins
set_option linter.unusedVariables false
set_option linter.unusedSimpArgs false

theorem atE_drop {es : List Ent} {k : Nat} {p : List UInt8} (h : k < es.length) : atE (es.drop k) p = if es[k].name = p then es[k].node else atE (es.drop (k + 1)) p := by
  rw [List.drop_eq_getElem_cons h, atE]
theorem bytes_neL {l : List UInt8} {p : ByteArray} (h : l ≠ p.data.toList) : ((bs l).toList == p.toList) = false := by
  rw [beq_eq_false_iff_ne]
  intro e
  rw [ByteArray.toList_eq, ByteArray.toList_eq] at e
  exact h (by simpa [bs] using e)
set_option maxHeartbeats 2000000 in
theorem l3At_any (es : List Ent) (v : Value) (p : ByteArray) (w : World) (hR : EntsA w v es) (hs : es.length ≤ 1048576) : Calls Tryz.prog 165 #[v, .string p] w fun e w' => e = .returned (.int .i64 (atE es p.data.toList)) ∧ Below w.heap.size w w' := by
  obtain ⟨o, c, rfl, hm, hH⟩ := hR
  have HH := Lib.hid hH
  clear hH
  unfold maxLen at hm
  go_enter Tryz.func165, Tryz.ntmps165
  go_wp2
  go_loopw [9] (fun i wr => ∃ k : Nat, k ≤ es.length ∧ i = .int .i64 k ∧ atE es p.data.toList = atE (es.drop k) p.data.toList ∧ Below w.heap.size w wr) (fun i _ => es.length - (intOf i).toNat)
  case atStart => exact ⟨0, Nat.zero_le _, rfl, rfl, Below.refl _ _⟩
  case round =>
    obtain ⟨k, hk, rfl, hA, hB⟩ := hrel
    have HA := Lib.hid hA
    clear hA
    by_cases hlt : k < es.length
    · obtain ⟨g, off, rfl, hg, hc1, hc2, hml⟩ := HH.out k hlt
      have HD := Lib.hid (atE_drop (p := p.data.toList) hlt)
      have d1 := (hB.cell (p := ⟨g, off + k * 2, none⟩) hg).trans hc1
      have d2 := (hB.cell (p := ⟨g, off + k * 2 + 1, none⟩) hg).trans hc2
      clear hc1 hc2 hml
      by_cases he : es[k].name = p.data.toList
      · have HF : Hid (atE es p.data.toList = es[k].node) := Lib.hid (by rw [HA.out, HD.out, if_pos he])
        have hp : bs es[k].name = p := by rw [he, bs_of]
        rw [hp] at d1
        clear he hp
        go_wp2
        go_ret
        exact ⟨ret_int HF.out.symm, hB.alloc hB.size _⟩
      · have HF : Hid (atE es p.data.toList = atE (es.drop (k + 1)) p.data.toList) := Lib.hid (by rw [HA.out, HD.out, if_neg he])
        have hb := bytes_neL he
        obtain ⟨x, hx⟩ : ∃ x, x = bs es[k].name := ⟨_, rfl⟩
        rw [← hx] at d1 hb
        clear he hx
        go_wp2
        go_roundw
        case rel => exact ⟨k + 1, hlt, by go_num, HF.out, hB.alloc hB.size _⟩
        case measure => simp [intOf]; omega
    · have HF : Hid (atE es p.data.toList = -1) := Lib.hid (by rw [HA.out, List.drop_eq_nil_of_le (by omega)]; rfl)
      go_wp2
      go_ret
      exact ⟨ret_int HF.out.symm, hB⟩

theorem alloc3_fst (w : World) (a b c : Obj) : (((w.alloc a).alloc b).alloc c).heap[w.heap.size]? = some a := by
  rw [Below.heap_alloc _ c _ (by simp; omega), Below.heap_alloc _ b _ (by simp)]
  exact heap_alloc_new w a
theorem alloc3_snd (w : World) (a b c : Obj) : (((w.alloc a).alloc b).alloc c).heap[w.heap.size + 1]? = some b := by
  rw [Below.heap_alloc _ c _ (by simp)]
  have h := heap_alloc_new (w.alloc a) b
  rw [World.size_alloc] at h
  exact h
set_option maxHeartbeats 2000000 in
theorem l4May_any (f : FsD) (v : Value) (u g : Int) (m : Nat) (want : Int) (w : World) (hR : FsA w v f) (hm : m < f.nodes.length) (hmo : inB 0 511 (nodeAt f.nodes m).mode = true) (hs : f.nodes.length ≤ 1048576) :
    Calls Tryz.prog 100 #[v, .agg #[.int .i64 u, .int .i64 g], .int .i64 (m : Int), .int .i64 want] w fun e w' => e = .returned (.bool (mayB u g (nodeAt f.nodes m).mode (nodeAt f.nodes m).uid (nodeAt f.nodes m).gid want)) ∧ Below w.heap.size w w' := by
  obtain ⟨nv, rfl, hN⟩ := hR
  obtain ⟨o, c, rfl, hmm, hH⟩ := hN
  unfold maxLen at hmm
  obtain ⟨gg, off, lv, rfl, hg, hcc, he, -⟩ := hH m hm
  have e : f.nodes[m] = nodeAt f.nodes m := (getD_at hm).symm
  rw [e] at hcc he
  obtain ⟨q, hq⟩ : ∃ q, q = nodeAt f.nodes m := ⟨_, rfl⟩
  rw [← hq] at hcc hmo he ⊢
  obtain ⟨o2, c2, rfl, -, -⟩ := he
  obtain ⟨h0, h1⟩ := inB_t hmo
  have hb2 : ∀ a b, Below w.heap.size w ((w.alloc a).alloc b) := fun a b => ((Below.refl _ _).alloc (Nat.le_refl _) _).alloc (by simp) _
  have HB3 : Hid (∀ a b x, Below w.heap.size w (((w.alloc a).alloc b).alloc x)) := Lib.hid (fun a b x => (hb2 a b).alloc (hb2 a b).size x)
  obtain ⟨d0, d1, d2, d3, d4, d5, d6⟩ := hcc.below (hb2 (.cells #[.slice (some ⟨gg, off, none⟩) f.nodes.length c, .int .i64 f.room] 26) (.cells #[.int .i64 u, .int .i64 g] 37)) hg
  clear hcc hmo hq e hb2 hH
  go_enter Tryz.func100, Tryz.ntmps100
  go_wp2_with fail
  refine (l1May_any u g q.mode q.uid q.gid want _ h0 h1).mono ?_
  rintro e w1 ⟨rfl, hb1⟩
  have HB1 := Lib.hid ((HB3.out _ _ _).trans (hb1.mono (HB3.out _ _ _).size))
  clear hb1
  go_wp2
  go_ret
  exact ⟨rfl, HB1.out⟩
end Go.Proofs.YtgmkfhhlnhgkhaaGreatDoor
