
/-
  NodesBelow of the program.
  Conditions: at most 2^20 values and letters together.
-/
import Derived.Test.YtbmbbioanlcioaaBelC
namespace Go.Proofs.Ytbmbbioanlcioaa
open Go.ChangeShapes Go.WideShapes Go.ChangeAt Go.RowKit Go.Joins
set_option linter.unusedVariables false
set_option linter.unusedSimpArgs false

theorem grown_below {w w' : World} {B : Nat} {row : Option Nat} (h : w.grownBy w' row) (hr : ∀ g, row = some g → B ≤ g) (hB : B ≤ w.heap.size) : Below B w w' :=
  ⟨h.os, h.tape, h.output, h.size, fun i hi => h.block i (Nat.lt_of_lt_of_le hi hB) (fun e => by have := hr i e.symm; omega)⟩
set_option maxHeartbeats 2000000 in
theorem nodesBelow_any (f : FsD) (node : Int) (v : Value) (w : World) (hR : FsA w v f) (hs : szF f ≤ 1048576) : Calls Try.prog 19 #[v, .int .i64 node] w fun e w' => ∃ lv, e = .returned (.tuple #[lv, .bool (linksK f node)]) ∧ LstI w' w.heap.size lv (nbR f node) ∧ Below w.heap.size w w' := by
  have hmf : ∀ (fn : Fn) (first cap : Array Value) (w : World), (Instr.makeFunc fn first cap).run Try.prog w = .ok (.func fn first cap) w := fun _ _ _ _ => rfl
  have HR := Lib.hid hR
  obtain ⟨nv, rfl, hN⟩ := hR
  have HN := Lib.hid hN
  obtain ⟨o, c, rfl, hm, -⟩ := hN
  have HS := Lib.hid hs
  have HB := Lib.hid ((Below.refl w.heap.size w).alloc (Nat.le_refl _) (.cells #[.slice o f.nodes.length c, .int .i64 f.room] 31))
  have HK := Lib.hid (heap_alloc_new w (.cells #[.slice o f.nodes.length c, .int .i64 f.room] 31))
  clear hs
  by_cases hg : linksK f node = true
  · have HG := Lib.hid hg
    obtain ⟨h1, h2, h3, h4⟩ := links_in hg
    obtain ⟨m, rfl⟩ : ∃ m : Nat, node = m := ⟨node.toNat, by omega⟩
    have hml : m < f.nodes.length := by omega
    obtain ⟨zs, hzs⟩ : ∃ zs, zs = biF f.nodes (f.nodes.length + 1) m := ⟨_, rfl⟩
    have HZS := Lib.hid hzs
    have HV : Hid (nbR f (m : Int) = srt zs) := Lib.hid (by unfold nbR; rw [HG.out, hzs]; simp)
    have HD := Lib.hid (down_all h1 hml)
    have HGF := Lib.hid h1
    have HSM : Hid (zs.length ≤ 50000000) := Lib.hid (by rw [hzs, bi_wy f.nodes _ _ []]; exact wy_small h1 HS.out hml (k := f.nodes.length + 1) (by omega) false [])
    have HNZ : Hid (zs ≠ []) := Lib.hid (fun e => by have := bi_self f.nodes (f.nodes.length + 1) m; rw [← hzs, e] at this; cases this)
    have HMZ : Hid ((zs.mergeSort fun x y => decide (x ≤ y)) ≠ []) := Lib.hid (fun e => by
      have := congrArg List.length e
      rw [List.length_mergeSort] at this
      exact HNZ.out (List.eq_nil_of_length_eq_zero this))
    have HML : Hid ((zs.mergeSort fun x y => decide (x ≤ y)).length ≤ 50000000) := Lib.hid (by rw [List.length_mergeSort]; exact HSM.out)
    clear hg h1 hzs
    go_enter Try.func19, Try.ntmps19
    go_wp2_with fail
    refine (isUsedNode_any f _ _ _ (HR.out.below HB.out) HS.out).mono ?_
    rintro e w1 ⟨rfl, hb1⟩
    rw [HG.out]
    have HB1 := Lib.hid (HB.out.trans (hb1.mono HB.out.size))
    have HK1 := Lib.hid ((hb1.block w.heap.size (lt_of_heap HK.out)).trans HK.out)
    have x1 := (cell_blk HK1.out 0).trans rfl
    have y1 := (cell_blk HK1.out 1).trans rfl
    have hbx : Below w1.heap.size w1 (w1.alloc (.cells #[.slice none 0 0] 38)) := (Below.refl _ _).alloc (Nat.le_refl _) _
    have HXB : Hid ((w1.alloc (.cells #[.slice none 0 0] 38)).heap[w1.heap.size]? = some (.cells #[.slice none 0 0] 38)) := Lib.hid (heap_alloc_new w1 _)
    have HBX := Lib.hid (HB1.out.trans (hbx.mono HB1.out.size))
    have hs1 := HB1.out.size
    have x2 := cell_moreD (o := .cells #[.slice none 0 0] 38) x1
    clear hb1 hbx
    go_wp2_with fail
    refine (walkBel_any f HGF.out HS.out _ w HN.out (f.nodes.length + 1) m [] [] (.slice none 0 0) (.slice none 0 0) w1.heap.size w1.heap.size _ hs1 HBX.out hml HD.out (by simp; omega) (fun p hp => by cases hp) (by have := HSM.out; rw [← HZS.out]; simpa using this) (Nat.le_refl _) HXB.out (World.ownsRow_nil _ _ _ _) (Lst.nil _ _) (fun g e => by simp [Value.ownBlock] at e)).mono ?_
    rintro e w2 ⟨rfl, v2, hX2, hL2, -, hE2, -⟩
    have HB2 : Hid (Below w.heap.size w w2) := Lib.hid (HB1.out.trans ((((Below.refl w1.heap.size w1).alloc (Nat.le_refl _) (.cells #[.slice none 0 0] 38)).trans (hE2.below (Nat.le_refl _) (fun g hg => by simp [Value.ownBlock] at hg) (fun g hg => by simp [Value.ownBlock] at hg) (by simp))).mono hs1))
    rw [List.nil_append, ← HZS.out] at hL2
    have z1 : w2.cell? ⟨w1.heap.size, 0, none⟩ = some v2 := cell_blk hX2 0
    have HL2 := Lib.hid hL2
    have HX2 := Lib.hid hX2
    have HNE := Lib.hid (row_ne_boxA hL2 hX2 (by decide))
    have HRV : Hid (∀ g, v2.ownBlock = some g → w.heap.size ≤ g) := Lib.hid (fun g e => Nat.le_trans hs1 (lstI_lt HL2.out g e).1)
    clear hE2 hX2 hL2
    go_wp2_with fail
    refine (sort_own zs HNZ.out _ _ _ HL2.out HSM.out).mono ?_
    rintro e w3 ⟨rfl, hL3, hg3⟩
    have HL3 := Lib.hid hL3
    have HX3 := Lib.hid ((hg3.block w1.heap.size (lt_of_heap HX2.out) (fun e => HNE.out e.symm)).trans HX2.out)
    have HB3 := Lib.hid (HB2.out.trans (grown_below hg3 HRV.out HB2.out.size))
    have z3 : w3.cell? ⟨w1.heap.size, 0, none⟩ = some v2 := cell_blk HX3.out 0
    clear hL3 hg3
    go_wp2_with fail
    refine (compact_own _ HMZ.out _ _ _ HL3.out HML.out).mono ?_
    rintro e w4 ⟨v4, rfl, hL4, hg4⟩
    have HL4 := Lib.hid (lstI_mono hL4 hs1)
    have HB4 := Lib.hid (HB3.out.trans (grown_below hg4 HRV.out HB3.out.size))
    clear hL4 hg4
    go_wp2
    go_ret2
    exact ⟨_, tupVBi HG.out.symm, by rw [HV.out]; exact HL4.out, HB4.out⟩
  · have HG : Hid (linksK f node = false) := Lib.hid (by simpa using hg)
    have HV : Hid (nbR f node = []) := Lib.hid (by unfold nbR; rw [HG.out]; rfl)
    clear hg
    go_enter Try.func19, Try.ntmps19
    go_wp2_with fail
    refine (isUsedNode_any f _ _ _ (HR.out.below HB.out) HS.out).mono ?_
    rintro e w1 ⟨rfl, hb1⟩
    rw [HG.out]
    have HB1 := Lib.hid (HB.out.trans (hb1.mono HB.out.size))
    clear hb1
    go_wp2
    go_ret2
    exact ⟨_, tupVBi HG.out.symm, by rw [HV.out]; exact World.ownsRow_nil _ _ _ _, HB1.out⟩
end Go.Proofs.Ytbmbbioanlcioaa
