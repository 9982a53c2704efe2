
/-
  DeepOf of the model and of the program.
  Conditions: at most 2^20 values and letters together.
-/
import Derived.Test.YtbmbbioanlcioaaDeepB
namespace Go.Proofs.Ytbmbbioanlcioaa
open Go.ChangeShapes Go.WideShapes Go.ChangeAt Go.RowKit Go.Joins
set_option linter.unusedVariables false
set_option linter.unusedSimpArgs false

/-- What DeepOf tells. -/
noncomputable def dpR (f : FsD) (node : Int) : Int := if linksK f node = true then (dpF f.nodes (f.nodes.length + 1) node.toNat : Nat) else 0
theorem links_in {f : FsD} {node : Int} (h : linksK f node = true) : goodF f = true ∧ 0 ≤ node ∧ node < f.nodes.length ∧ f.nodes.length ≤ 40 := by
  obtain ⟨h1, h2, h3⟩ := linksK_in h
  have := inB_t (goodF_GoodF h1).1
  exact ⟨h1, h2, h3, by omega⟩
set_option maxHeartbeats 2000000 in
theorem l7Asked_any (f : FsD) (node : Int) (v : Value) (w : World) (hR : FsA w v f) (hs : szF f ≤ 1048576) : Calls Try.prog 26 #[v, .int .i64 node] w fun e w' => e = .returned (.bool (linksK f node)) ∧ Below w.heap.size w w' := by
  have HR := Lib.hid hR
  obtain ⟨nv, rfl, hN⟩ := hR
  obtain ⟨o, c, rfl, hm, -⟩ := hN
  have hl : f.nodes.length ≤ 1048576 := (lists_small hs).1
  have HS := Lib.hid hs
  have HB := Lib.hid ((Below.refl w.heap.size w).alloc (Nat.le_refl _) (.cells #[.slice o f.nodes.length c, .int .i64 f.room] 31))
  have HK := Lib.hid (heap_alloc_new w (.cells #[.slice o f.nodes.length c, .int .i64 f.room] 31))
  clear hs
  by_cases hg : goodF f = true
  · have HG := Lib.hid hg
    have HW : Hid (linksK f node = isN f.nodes node) := Lib.hid (by unfold linksK; rw [HG.out]; rfl)
    clear hg
    go_enter Try.func26, Try.ntmps26
    go_wp2_with fail
    refine (l3Good_any f _ _ (HR.out.below HB.out) HS.out).mono ?_
    rintro e w1 ⟨rfl, hb1⟩
    rw [HG.out]
    have HB1 := Lib.hid (HB.out.trans (hb1.mono HB.out.size))
    have HK1 := Lib.hid ((hb1.block w.heap.size (lt_of_heap HK.out)).trans HK.out)
    have x1 := (cell_blk HK1.out 0).trans rfl
    have y1 := (cell_blk HK1.out 1).trans rfl
    clear hb1
    go_wp2_with fail
    refine (l3Is_any f node _ _ (HR.out.below HB1.out) hl).mono ?_
    rintro e w2 ⟨rfl, hb2⟩
    have HB2 := Lib.hid (HB1.out.trans (hb2.mono HB1.out.size))
    clear hb2
    go_wp2
    go_ret
    exact ⟨ret_bool HW.out.symm, HB2.out⟩
  · have HG : Hid (goodF f = false) := Lib.hid (by simpa using hg)
    have HW : Hid (linksK f node = false) := Lib.hid (by unfold linksK; rw [HG.out]; rfl)
    clear hg
    go_enter Try.func26, Try.ntmps26
    go_wp2_with fail
    refine (l3Good_any f _ _ (HR.out.below HB.out) HS.out).mono ?_
    rintro e w1 ⟨rfl, hb1⟩
    rw [HG.out]
    have HB1 := Lib.hid (HB.out.trans (hb1.mono HB.out.size))
    clear hb1
    go_wp2
    go_ret
    exact ⟨ret_bool HW.out.symm, HB1.out⟩
set_option maxHeartbeats 2000000 in
theorem specDeepOf_any (f : FsD) (node : Int) (v : Value) (w : World) (hR : FsA w v f) (hs : szF f ≤ 1048576) : Calls Try.prog 23 #[v, .int .i64 node] w fun e w' => e = .returned (.tuple #[.int .i64 (dpR f node), .bool (linksK f node)]) ∧ Below w.heap.size w w' := by
  have HR := Lib.hid hR
  obtain ⟨nv, rfl, hN⟩ := hR
  obtain ⟨o, c, rfl, hm, -⟩ := hN
  have HS := Lib.hid hs
  have HB := Lib.hid ((Below.refl w.heap.size w).alloc (Nat.le_refl _) (.cells #[.slice o f.nodes.length c, .int .i64 f.room] 31))
  have HK := Lib.hid (heap_alloc_new w (.cells #[.slice o f.nodes.length c, .int .i64 f.room] 31))
  clear hs
  by_cases hg : linksK f node = true
  · have HG := Lib.hid hg
    obtain ⟨h1, h2, h3, h4⟩ := links_in hg
    obtain ⟨m, rfl⟩ : ∃ m : Nat, node = m := ⟨node.toNat, by omega⟩
    have hml : m < f.nodes.length := by omega
    have HV : Hid (dpR f (m : Int) = (dpF f.nodes (f.nodes.length + 1) m : Nat)) := Lib.hid (by unfold dpR; rw [HG.out]; simp)
    have HD := Lib.hid (down_all h1 hml)
    clear hg h1
    go_enter Try.func23, Try.ntmps23
    go_wp2_with fail
    refine (l7Asked_any f _ _ _ (HR.out.below HB.out) HS.out).mono ?_
    rintro e w1 ⟨rfl, hb1⟩
    rw [HG.out]
    have HB1 := Lib.hid (HB.out.trans (hb1.mono HB.out.size))
    have HK1 := Lib.hid ((hb1.block w.heap.size (lt_of_heap HK.out)).trans HK.out)
    have x1 := (cell_blk HK1.out 0).trans rfl
    have y1 := (cell_blk HK1.out 1).trans rfl
    clear hb1
    go_wp2_with fail
    refine (l7Deep_any f HS.out (f.nodes.length + 1) m _ _ (HR.out.below HB1.out) hml HD.out (by omega)).mono ?_
    rintro e w2 ⟨rfl, hb2⟩
    have HB2 := Lib.hid (HB1.out.trans (hb2.mono HB1.out.size))
    clear hb2
    go_wp2
    go_ret2
    exact ⟨tupIB HV.out.symm HG.out.symm, HB2.out⟩
  · have HG : Hid (linksK f node = false) := Lib.hid (by simpa using hg)
    have HV : Hid (dpR f node = 0) := Lib.hid (by unfold dpR; rw [HG.out]; rfl)
    clear hg
    go_enter Try.func23, Try.ntmps23
    go_wp2_with fail
    refine (l7Asked_any f _ _ _ (HR.out.below HB.out) HS.out).mono ?_
    rintro e w1 ⟨rfl, hb1⟩
    rw [HG.out]
    have HB1 := Lib.hid (HB.out.trans (hb1.mono HB.out.size))
    clear hb1
    go_wp2
    go_ret2
    exact ⟨tupIB HV.out.symm HG.out.symm, HB1.out⟩
theorem cell_moreD {w : World} {a : Addr} {v : Value} {o : Obj} (h : w.cell? a = some v) : (w.alloc o).cell? a = some v := by
  have hl : a.block < w.heap.size := World.block_lt_of_cell? w a h
  exact (((Below.refl _ w).alloc (Nat.le_refl _) o).cell hl).trans h
set_option maxHeartbeats 2000000 in
theorem deepOf_any (f : FsD) (node : Int) (v : Value) (w : World) (hR : FsA w v f) (hs : szF f ≤ 1048576) : Calls Try.prog 24 #[v, .int .i64 node] w fun e w' => e = .returned (.tuple #[.int .i64 (dpR f node), .bool (linksK f node)]) ∧ Below w.heap.size w w' := by
  have hmf : ∀ (fn : Fn) (first cap : Array Value) (w : World), (Instr.makeFunc fn first cap).run Try.prog w = .ok (.func fn first cap) w := fun _ _ _ _ => rfl
  have HR := Lib.hid hR
  obtain ⟨nv, rfl, hN⟩ := hR
  have HN := Lib.hid hN
  obtain ⟨o, c, rfl, hm, -⟩ := hN
  have HS := Lib.hid hs
  have HB := Lib.hid ((Below.refl w.heap.size w).alloc (Nat.le_refl _) (.cells #[.slice o f.nodes.length c, .int .i64 f.room] 31))
  have HK := Lib.hid (heap_alloc_new w (.cells #[.slice o f.nodes.length c, .int .i64 f.room] 31))
  clear hs
  by_cases hg : linksK f node = true
  · have HG := Lib.hid hg
    obtain ⟨h1, h2, h3, h4⟩ := links_in hg
    obtain ⟨m, rfl⟩ : ∃ m : Nat, node = m := ⟨node.toNat, by omega⟩
    have hml : m < f.nodes.length := by omega
    have HV : Hid (dpR f (m : Int) = (dpF f.nodes (f.nodes.length + 1) m : Nat)) := Lib.hid (by unfold dpR; rw [HG.out]; simp)
    have HD := Lib.hid (down_all h1 hml)
    clear hg h1
    go_enter Try.func24, Try.ntmps24
    go_wp2_with fail
    refine (isUsedNode_any f _ _ _ (HR.out.below HB.out) HS.out).mono ?_
    rintro e w1 ⟨rfl, hb1⟩
    rw [HG.out]
    have HB1 := Lib.hid (HB.out.trans (hb1.mono HB.out.size))
    have HK1 := Lib.hid ((hb1.block w.heap.size (lt_of_heap HK.out)).trans HK.out)
    have x1 := (cell_blk HK1.out 0).trans rfl
    have y1 := (cell_blk HK1.out 1).trans rfl
    have hbx : Below w1.heap.size w1 (w1.alloc (.cells #[.int .i64 0] 3)) := (Below.refl _ _).alloc (Nat.le_refl _) _
    have HXB : Hid ((w1.alloc (.cells #[.int .i64 0] 3)).heap[w1.heap.size]? = some (.cells #[.int .i64 ((0 : Nat) : Int)] 3)) := Lib.hid (heap_alloc_new w1 _)
    have HBX := Lib.hid (HB1.out.trans (hbx.mono HB1.out.size))
    have hs1 := HB1.out.size
    have x2 := cell_moreD (o := .cells #[.int .i64 0] 3) x1
    clear hb1 hbx
    go_wp2_with fail
    refine (walkDeep_any f HS.out _ w HN.out (f.nodes.length + 1) m 0 0 (.slice none 0 0) [] w1.heap.size w1.heap.size _ hs1 HBX.out hml HD.out (by omega) (by omega) (Nat.le_refl _) HXB.out (World.ownsRow_nil _ _ _ _)).mono ?_
    rintro e w2 ⟨rfl, hE2, hX2, -⟩
    have HB2 : Hid (Below w.heap.size w w2) := Lib.hid (HB1.out.trans ((((Below.refl w1.heap.size w1).alloc (Nat.le_refl _) (.cells #[.int .i64 0] 3)).trans (hE2.below (Nat.le_refl _) (fun g hg => by simp [Value.ownBlock] at hg) (by simp))).mono hs1))
    have z1 : w2.cell? ⟨w1.heap.size, 0, none⟩ = some (.int .i64 ((max 0 (0 + dpF f.nodes (f.nodes.length + 1) m) : Nat) : Int)) := cell_blk hX2 0
    clear hE2 hX2
    go_wp2
    go_ret2
    exact ⟨tupIB (by first | (rw [HV.out]; done) | (rw [HV.out]; omega)) HG.out.symm, HB2.out⟩
  · have HG : Hid (linksK f node = false) := Lib.hid (by simpa using hg)
    have HV : Hid (dpR f node = 0) := Lib.hid (by unfold dpR; rw [HG.out]; rfl)
    clear hg
    go_enter Try.func24, Try.ntmps24
    go_wp2_with fail
    refine (isUsedNode_any f _ _ _ (HR.out.below HB.out) HS.out).mono ?_
    rintro e w1 ⟨rfl, hb1⟩
    rw [HG.out]
    have HB1 := Lib.hid (HB.out.trans (hb1.mono HB.out.size))
    clear hb1
    go_wp2
    go_ret2
    exact ⟨tupIB HV.out.symm HG.out.symm, HB1.out⟩
end Go.Proofs.Ytbmbbioanlcioaa
