
/-
  WalkPre and WalkPost of the model and of the program.
  Conditions: at most 2^20 values and letters together.
-/
import Derived.Test.YtbmbbioanlcioaaWayD
import Derived.Test.YtbmbbioanlcioaaDeepC
namespace Go.Proofs.Ytbmbbioanlcioaa
open Go.ChangeShapes Go.WideShapes Go.ChangeAt Go.RowKit Go.Joins
set_option linter.unusedVariables false
set_option linter.unusedSimpArgs false

/-- What a walk tells. -/
noncomputable def wyR (f : FsD) (post : Bool) (node : Int) : List (List UInt8) := if linksK f node = true then wyF f.nodes post (f.nodes.length + 1) node.toNat [] else []
theorem wyR_len (f : FsD) (hs : szF f ≤ 1048576) (post : Bool) (node : Int) : (wyR f post node).length ≤ 50000000 := by
  unfold wyR
  split
  · rename_i h
    obtain ⟨h1, h2, h3, h4⟩ := links_in h
    exact wy_small h1 hs (by omega) (by omega) post []
  · simp
theorem tupVB {v : Value} {a b : Bool} (h : a = b) : Ending.returned (Value.tuple #[v, .bool a]) = .returned (.tuple #[v, .bool b]) := by rw [h]
set_option maxHeartbeats 2000000 in
theorem specWalkPre_any (f : FsD) (node : Int) (v : Value) (w : World) (hR : FsA w v f) (hs : szF f ≤ 1048576) : Calls Try.prog 8 #[v, .int .i64 node] w fun e w' => ∃ lv, e = .returned (.tuple #[lv, .bool (linksK f node)]) ∧ Lst w' w.heap.size lv (wyR f false node) ∧ Below w.heap.size w w' := by
  have HR := Lib.hid hR
  obtain ⟨nv, rfl, hN⟩ := hR
  obtain ⟨o, c, rfl, hm, -⟩ := hN
  have HS := Lib.hid hs
  have HB := Lib.hid ((Below.refl w.heap.size w).alloc (Nat.le_refl _) (.cells #[.slice o f.nodes.length c, .int .i64 f.room] 31))
  have HK := Lib.hid (heap_alloc_new w (.cells #[.slice o f.nodes.length c, .int .i64 f.room] 31))
  clear hs
  by_cases hg : linksK f node = true
  · have HG := Lib.hid hg
    obtain ⟨h1, h2, h3, h4⟩ := links_in hg
    obtain ⟨m, rfl⟩ : ∃ m : Nat, node = m := ⟨node.toNat, by omega⟩
    have hml : m < f.nodes.length := by omega
    have HV : Hid (wyR f false (m : Int) = wyF f.nodes false (f.nodes.length + 1) m []) := Lib.hid (by unfold wyR; rw [HG.out]; simp)
    have HD := Lib.hid (down_all h1 hml)
    have HGF := Lib.hid h1
    clear hg h1
    go_enter Try.func8, Try.ntmps8
    go_wp2_with fail
    refine (l7Asked_any f _ _ _ (HR.out.below HB.out) HS.out).mono ?_
    rintro e w1 ⟨rfl, hb1⟩
    rw [HG.out]
    have HB1 := Lib.hid (HB.out.trans (hb1.mono HB.out.size))
    have HK1 := Lib.hid ((hb1.block w.heap.size (lt_of_heap HK.out)).trans HK.out)
    have x1 := (cell_blk HK1.out 0).trans rfl
    have y1 := (cell_blk HK1.out 1).trans rfl
    clear hb1
    go_wp2_with fail
    refine (l7WalkF_any f HGF.out HS.out (f.nodes.length + 1) m _ [] _ _ (HR.out.below HB1.out) hml HD.out (by omega) (by simp; omega) (fun p hp => by cases hp) rfl).mono ?_
    rintro e w2 ⟨lv, rfl, hL2, hb2⟩
    have HB2 := Lib.hid (HB1.out.trans (hb2.mono HB1.out.size))
    have HL2 := Lib.hid (lst_mono hL2 HB1.out.size)
    clear hb2 hL2
    go_wp2
    go_ret2
    exact ⟨_, tupVB HG.out.symm, by rw [HV.out]; exact HL2.out, HB2.out⟩
  · have HG : Hid (linksK f node = false) := Lib.hid (by simpa using hg)
    have HV : Hid (wyR f false node = []) := Lib.hid (by unfold wyR; rw [HG.out]; rfl)
    clear hg
    go_enter Try.func8, Try.ntmps8
    go_wp2_with fail
    refine (l7Asked_any f _ _ _ (HR.out.below HB.out) HS.out).mono ?_
    rintro e w1 ⟨rfl, hb1⟩
    rw [HG.out]
    have HB1 := Lib.hid (HB.out.trans (hb1.mono HB.out.size))
    clear hb1
    go_wp2
    go_ret2
    exact ⟨_, tupVB HG.out.symm, by rw [HV.out]; exact Lst.nil _ _, HB1.out⟩
set_option maxHeartbeats 2000000 in
theorem waysByF_any (f : FsD) (node : Int) (v : Value) (w : World) (hR : FsA w v f) (hs : szF f ≤ 1048576) : Calls Try.prog 29 #[.func (.func 30) #[] #[], v, .int .i64 node] w fun e w' => ∃ lv, e = .returned (.tuple #[lv, .bool (linksK f node)]) ∧ Lst w' w.heap.size lv (wyR f false node) ∧ Below w.heap.size w w' := by
  have hmf : ∀ (fn : Fn) (first cap : Array Value) (w : World), (Instr.makeFunc fn first cap).run Try.prog w = .ok (.func fn first cap) w := fun _ _ _ _ => rfl
  have HR := Lib.hid hR
  obtain ⟨nv, rfl, hN⟩ := hR
  have HN := Lib.hid hN
  obtain ⟨o, c, rfl, hm, -⟩ := hN
  have HS := Lib.hid hs
  have HB := Lib.hid ((Below.refl w.heap.size w).alloc (Nat.le_refl _) (.cells #[.slice o f.nodes.length c, .int .i64 f.room] 31))
  have HK := Lib.hid (heap_alloc_new w (.cells #[.slice o f.nodes.length c, .int .i64 f.room] 31))
  clear hs
  by_cases hg : linksK f node = true
  · have HG := Lib.hid hg
    obtain ⟨h1, h2, h3, h4⟩ := links_in hg
    obtain ⟨m, rfl⟩ : ∃ m : Nat, node = m := ⟨node.toNat, by omega⟩
    have hml : m < f.nodes.length := by omega
    have HV : Hid (wyR f false (m : Int) = wyF f.nodes false (f.nodes.length + 1) m []) := Lib.hid (by unfold wyR; rw [HG.out]; simp)
    have HD := Lib.hid (down_all h1 hml)
    have HGF := Lib.hid h1
    have HSM := Lib.hid (wy_small h1 HS.out hml (k := f.nodes.length + 1) (by omega) false [])
    clear hg h1
    go_enter Try.func29, Try.ntmps29
    go_wp2_with fail
    refine (isUsedNode_any f _ _ _ (HR.out.below HB.out) HS.out).mono ?_
    rintro e w1 ⟨rfl, hb1⟩
    rw [HG.out]
    have HB1 := Lib.hid (HB.out.trans (hb1.mono HB.out.size))
    have HK1 := Lib.hid ((hb1.block w.heap.size (lt_of_heap HK.out)).trans HK.out)
    have x1 := (cell_blk HK1.out 0).trans rfl
    have y1 := (cell_blk HK1.out 1).trans rfl
    have hbx : Below w1.heap.size w1 (w1.alloc (.cells #[.slice none 0 0] 26)) := (Below.refl _ _).alloc (Nat.le_refl _) _
    have HXB : Hid ((w1.alloc (.cells #[.slice none 0 0] 26)).heap[w1.heap.size]? = some (.cells #[.slice none 0 0] 26)) := Lib.hid (heap_alloc_new w1 _)
    have HBX := Lib.hid (HB1.out.trans (hbx.mono HB1.out.size))
    have hs1 := HB1.out.size
    have x2 := cell_moreD (o := .cells #[.slice none 0 0] 26) x1
    clear hb1 hbx
    go_wp2_with fail
    refine (walkWayF_any f HGF.out HS.out _ w HN.out (f.nodes.length + 1) m [] [] (.slice none 0 0) (.slice none 0 0) w1.heap.size w1.heap.size _ hs1 HBX.out hml HD.out (by simp; omega) (fun p hp => by cases hp) (by have := HSM.out; simpa using this) (Nat.le_refl _) HXB.out (Lst.nil _ _) (Lst.nil _ _) (fun g e => by simp [Value.ownBlock] at e)).mono ?_
    rintro e w2 ⟨rfl, v2, hX2, hL2, -, hE2, -⟩
    have HB2 : Hid (Below w.heap.size w w2) := Lib.hid (HB1.out.trans ((((Below.refl w1.heap.size w1).alloc (Nat.le_refl _) (.cells #[.slice none 0 0] 26)).trans (hE2.below (Nat.le_refl _) (fun g hg => by simp [Value.ownBlock] at hg) (fun g hg => by simp [Value.ownBlock] at hg) (by simp))).mono hs1))
    have z1 : w2.cell? ⟨w1.heap.size, 0, none⟩ = some v2 := cell_blk hX2 0
    have HL2 := Lib.hid (lst_mono hL2 hs1)
    clear hE2 hX2 hL2
    go_wp2
    go_ret2
    exact ⟨_, tupVB HG.out.symm, by rw [HV.out]; exact HL2.out, HB2.out⟩
  · have HG : Hid (linksK f node = false) := Lib.hid (by simpa using hg)
    have HV : Hid (wyR f false node = []) := Lib.hid (by unfold wyR; rw [HG.out]; rfl)
    clear hg
    go_enter Try.func29, Try.ntmps29
    go_wp2_with fail
    refine (isUsedNode_any f _ _ _ (HR.out.below HB.out) HS.out).mono ?_
    rintro e w1 ⟨rfl, hb1⟩
    rw [HG.out]
    have HB1 := Lib.hid (HB.out.trans (hb1.mono HB.out.size))
    clear hb1
    go_wp2
    go_ret2
    exact ⟨_, tupVB HG.out.symm, by rw [HV.out]; exact Lst.nil _ _, HB1.out⟩
set_option maxHeartbeats 2000000 in
theorem walkPreW_any (f : FsD) (node : Int) (v : Value) (w : World) (hR : FsA w v f) (hs : szF f ≤ 1048576) : Calls Try.prog 10 #[v, .int .i64 node] w fun e w' => ∃ lv, e = .returned (.tuple #[lv, .bool (linksK f node)]) ∧ Lst w' w.heap.size lv (wyR f false node) ∧ Below w.heap.size w w' := by
  have HR := Lib.hid hR
  obtain ⟨nv, rfl, hN⟩ := hR
  obtain ⟨o, c, rfl, hm, -⟩ := hN
  have HB := Lib.hid ((Below.refl w.heap.size w).alloc (Nat.le_refl _) (.cells #[.slice o f.nodes.length c, .int .i64 f.room] 31))
  go_enter Try.func10, Try.ntmps10
  go_wp2_with fail
  refine (waysByF_any f node _ _ (HR.out.below HB.out) hs).mono ?_
  rintro e w1 ⟨lv, rfl, hL, hb⟩
  have HB1 := Lib.hid (HB.out.trans (hb.mono HB.out.size))
  have HL1 := Lib.hid (lst_mono hL HB.out.size)
  clear hb hL
  go_wp2
  go_ret2
  exact ⟨_, rfl, HL1.out, HB1.out⟩
set_option maxHeartbeats 2000000 in
theorem specWalkPost_any (f : FsD) (node : Int) (v : Value) (w : World) (hR : FsA w v f) (hs : szF f ≤ 1048576) : Calls Try.prog 16 #[v, .int .i64 node] w fun e w' => ∃ lv, e = .returned (.tuple #[lv, .bool (linksK f node)]) ∧ Lst w' w.heap.size lv (wyR f true node) ∧ Below w.heap.size w w' := by
  have HR := Lib.hid hR
  obtain ⟨nv, rfl, hN⟩ := hR
  obtain ⟨o, c, rfl, hm, -⟩ := hN
  have HS := Lib.hid hs
  have HB := Lib.hid ((Below.refl w.heap.size w).alloc (Nat.le_refl _) (.cells #[.slice o f.nodes.length c, .int .i64 f.room] 31))
  have HK := Lib.hid (heap_alloc_new w (.cells #[.slice o f.nodes.length c, .int .i64 f.room] 31))
  clear hs
  by_cases hg : linksK f node = true
  · have HG := Lib.hid hg
    obtain ⟨h1, h2, h3, h4⟩ := links_in hg
    obtain ⟨m, rfl⟩ : ∃ m : Nat, node = m := ⟨node.toNat, by omega⟩
    have hml : m < f.nodes.length := by omega
    have HV : Hid (wyR f true (m : Int) = wyF f.nodes true (f.nodes.length + 1) m []) := Lib.hid (by unfold wyR; rw [HG.out]; simp)
    have HD := Lib.hid (down_all h1 hml)
    have HGF := Lib.hid h1
    clear hg h1
    go_enter Try.func16, Try.ntmps16
    go_wp2_with fail
    refine (l7Asked_any f _ _ _ (HR.out.below HB.out) HS.out).mono ?_
    rintro e w1 ⟨rfl, hb1⟩
    rw [HG.out]
    have HB1 := Lib.hid (HB.out.trans (hb1.mono HB.out.size))
    have HK1 := Lib.hid ((hb1.block w.heap.size (lt_of_heap HK.out)).trans HK.out)
    have x1 := (cell_blk HK1.out 0).trans rfl
    have y1 := (cell_blk HK1.out 1).trans rfl
    clear hb1
    go_wp2_with fail
    refine (l7WalkT_any f HGF.out HS.out (f.nodes.length + 1) m _ [] _ _ (HR.out.below HB1.out) hml HD.out (by omega) (by simp; omega) (fun p hp => by cases hp) rfl).mono ?_
    rintro e w2 ⟨lv, rfl, hL2, hb2⟩
    have HB2 := Lib.hid (HB1.out.trans (hb2.mono HB1.out.size))
    have HL2 := Lib.hid (lst_mono hL2 HB1.out.size)
    clear hb2 hL2
    go_wp2
    go_ret2
    exact ⟨_, tupVB HG.out.symm, by rw [HV.out]; exact HL2.out, HB2.out⟩
  · have HG : Hid (linksK f node = false) := Lib.hid (by simpa using hg)
    have HV : Hid (wyR f true node = []) := Lib.hid (by unfold wyR; rw [HG.out]; rfl)
    clear hg
    go_enter Try.func16, Try.ntmps16
    go_wp2_with fail
    refine (l7Asked_any f _ _ _ (HR.out.below HB.out) HS.out).mono ?_
    rintro e w1 ⟨rfl, hb1⟩
    rw [HG.out]
    have HB1 := Lib.hid (HB.out.trans (hb1.mono HB.out.size))
    clear hb1
    go_wp2
    go_ret2
    exact ⟨_, tupVB HG.out.symm, by rw [HV.out]; exact Lst.nil _ _, HB1.out⟩
set_option maxHeartbeats 2000000 in
theorem waysByT_any (f : FsD) (node : Int) (v : Value) (w : World) (hR : FsA w v f) (hs : szF f ≤ 1048576) : Calls Try.prog 29 #[.func (.func 34) #[] #[], v, .int .i64 node] w fun e w' => ∃ lv, e = .returned (.tuple #[lv, .bool (linksK f node)]) ∧ Lst w' w.heap.size lv (wyR f true node) ∧ Below w.heap.size w w' := by
  have hmf : ∀ (fn : Fn) (first cap : Array Value) (w : World), (Instr.makeFunc fn first cap).run Try.prog w = .ok (.func fn first cap) w := fun _ _ _ _ => rfl
  have HR := Lib.hid hR
  obtain ⟨nv, rfl, hN⟩ := hR
  have HN := Lib.hid hN
  obtain ⟨o, c, rfl, hm, -⟩ := hN
  have HS := Lib.hid hs
  have HB := Lib.hid ((Below.refl w.heap.size w).alloc (Nat.le_refl _) (.cells #[.slice o f.nodes.length c, .int .i64 f.room] 31))
  have HK := Lib.hid (heap_alloc_new w (.cells #[.slice o f.nodes.length c, .int .i64 f.room] 31))
  clear hs
  by_cases hg : linksK f node = true
  · have HG := Lib.hid hg
    obtain ⟨h1, h2, h3, h4⟩ := links_in hg
    obtain ⟨m, rfl⟩ : ∃ m : Nat, node = m := ⟨node.toNat, by omega⟩
    have hml : m < f.nodes.length := by omega
    have HV : Hid (wyR f true (m : Int) = wyF f.nodes true (f.nodes.length + 1) m []) := Lib.hid (by unfold wyR; rw [HG.out]; simp)
    have HD := Lib.hid (down_all h1 hml)
    have HGF := Lib.hid h1
    have HSM := Lib.hid (wy_small h1 HS.out hml (k := f.nodes.length + 1) (by omega) true [])
    clear hg h1
    go_enter Try.func29, Try.ntmps29
    go_wp2_with fail
    refine (isUsedNode_any f _ _ _ (HR.out.below HB.out) HS.out).mono ?_
    rintro e w1 ⟨rfl, hb1⟩
    rw [HG.out]
    have HB1 := Lib.hid (HB.out.trans (hb1.mono HB.out.size))
    have HK1 := Lib.hid ((hb1.block w.heap.size (lt_of_heap HK.out)).trans HK.out)
    have x1 := (cell_blk HK1.out 0).trans rfl
    have y1 := (cell_blk HK1.out 1).trans rfl
    have hbx : Below w1.heap.size w1 (w1.alloc (.cells #[.slice none 0 0] 26)) := (Below.refl _ _).alloc (Nat.le_refl _) _
    have HXB : Hid ((w1.alloc (.cells #[.slice none 0 0] 26)).heap[w1.heap.size]? = some (.cells #[.slice none 0 0] 26)) := Lib.hid (heap_alloc_new w1 _)
    have HBX := Lib.hid (HB1.out.trans (hbx.mono HB1.out.size))
    have hs1 := HB1.out.size
    have x2 := cell_moreD (o := .cells #[.slice none 0 0] 26) x1
    clear hb1 hbx
    go_wp2_with fail
    refine (walkWayT_any f HGF.out HS.out _ w HN.out (f.nodes.length + 1) m [] [] (.slice none 0 0) (.slice none 0 0) w1.heap.size w1.heap.size _ hs1 HBX.out hml HD.out (by simp; omega) (fun p hp => by cases hp) (by have := HSM.out; simpa using this) (Nat.le_refl _) HXB.out (Lst.nil _ _) (Lst.nil _ _) (fun g e => by simp [Value.ownBlock] at e)).mono ?_
    rintro e w2 ⟨rfl, v2, hX2, hL2, -, hE2, -⟩
    have HB2 : Hid (Below w.heap.size w w2) := Lib.hid (HB1.out.trans ((((Below.refl w1.heap.size w1).alloc (Nat.le_refl _) (.cells #[.slice none 0 0] 26)).trans (hE2.below (Nat.le_refl _) (fun g hg => by simp [Value.ownBlock] at hg) (fun g hg => by simp [Value.ownBlock] at hg) (by simp))).mono hs1))
    have z1 : w2.cell? ⟨w1.heap.size, 0, none⟩ = some v2 := cell_blk hX2 0
    have HL2 := Lib.hid (lst_mono hL2 hs1)
    clear hE2 hX2 hL2
    go_wp2
    go_ret2
    exact ⟨_, tupVB HG.out.symm, by rw [HV.out]; exact HL2.out, HB2.out⟩
  · have HG : Hid (linksK f node = false) := Lib.hid (by simpa using hg)
    have HV : Hid (wyR f true node = []) := Lib.hid (by unfold wyR; rw [HG.out]; rfl)
    clear hg
    go_enter Try.func29, Try.ntmps29
    go_wp2_with fail
    refine (isUsedNode_any f _ _ _ (HR.out.below HB.out) HS.out).mono ?_
    rintro e w1 ⟨rfl, hb1⟩
    rw [HG.out]
    have HB1 := Lib.hid (HB.out.trans (hb1.mono HB.out.size))
    clear hb1
    go_wp2
    go_ret2
    exact ⟨_, tupVB HG.out.symm, by rw [HV.out]; exact Lst.nil _ _, HB1.out⟩
set_option maxHeartbeats 2000000 in
theorem walkPostW_any (f : FsD) (node : Int) (v : Value) (w : World) (hR : FsA w v f) (hs : szF f ≤ 1048576) : Calls Try.prog 17 #[v, .int .i64 node] w fun e w' => ∃ lv, e = .returned (.tuple #[lv, .bool (linksK f node)]) ∧ Lst w' w.heap.size lv (wyR f true node) ∧ Below w.heap.size w w' := by
  have HR := Lib.hid hR
  obtain ⟨nv, rfl, hN⟩ := hR
  obtain ⟨o, c, rfl, hm, -⟩ := hN
  have HB := Lib.hid ((Below.refl w.heap.size w).alloc (Nat.le_refl _) (.cells #[.slice o f.nodes.length c, .int .i64 f.room] 31))
  go_enter Try.func17, Try.ntmps17
  go_wp2_with fail
  refine (waysByT_any f node _ _ (HR.out.below HB.out) hs).mono ?_
  rintro e w1 ⟨lv, rfl, hL, hb⟩
  have HB1 := Lib.hid (HB.out.trans (hb.mono HB.out.size))
  have HL1 := Lib.hid (lst_mono hL HB.out.size)
  clear hb hL
  go_wp2
  go_ret2
  exact ⟨_, rfl, HL1.out, HB1.out⟩
end Go.Proofs.Ytbmbbioanlcioaa
