/-
  Joined: CutM.
  Conditions: as each states.
-/
import Derived.Test.YtknhacblialboaaGreatDoorLib27
import Derived.Test.YtknhacblialboaaGreatDoorLib29
namespace Go.Proofs.YtknhacblialboaaGreatDoor
open Go.ChangeShapes Go.WideShapes Go.ChangeAt Go.RowKit Go.Joins
set_option linter.unusedVariables false
set_option linter.unusedSimpArgs false
set_option maxHeartbeats 16000000
set_option maxRecDepth 100000 in
theorem l5Cut_A (f : FsD) (v : Value) (u g : Int) (s : ByteArray) (t : Int) (w : World) (hR : FsA w v f) (hs : szF f ≤ 1048576) (hk : bC9 f u g = true) (hss : s.size ≤ 1048576) (dir : Bool) (c2 : Int) (up : Nat) (nm : List UInt8) (hfp : fp0 f.nodes u g s.data.toList = (c2, up, nm)) (hc2 : c2 ≠ 0) :
   Calls Tryz.prog 48 #[v, .agg #[.int .i64 u, .int .i64 g], .string s, .bool dir, .int .i64 t] w fun e w' => ∃ v', e = .returned (.tuple #[v', .int .i64 c2]) ∧ FsA w' v' f ∧ Below w.heap.size w w' := by
 have HR := qhZ hR
 obtain ⟨nv, rfl, hN⟩ := hR
 obtain ⟨o, c, rfl, hm, hH⟩ := hN
 have hpos : 0 < f.nodes.length := good_pos (bN9 hk)
 obtain ⟨g0, f0, lv0, rfl, -⟩ := hH 0 hpos
 have HH := qhZ hH
 have HS := qhZ hs
 have HK := qhZ hk
 have HSS := qhZ hss
 have hl : f.nodes.length ≤ 1048576 := (aG9 hs).1
 have HB0 : Hid (Below w.heap.size w (((w.alloc (.cells #[.slice (some ⟨g0, f0, none⟩) f.nodes.length c, .int .i64 f.room] 30)).alloc (.cells #[.int .i64 u, .int .i64 g] 34)).alloc (.cells #[.slice none 0 0, .int .i64 0] 30))) := qhZ ((((Below.refl _ _).alloc (Nat.le_refl _) _).alloc (by simp) _).alloc (by simp; omega) _)
 have KA0 := qhZ (m3_0 w (.cells #[.slice (some ⟨g0, f0, none⟩) f.nodes.length c, .int .i64 f.room] 30) (.cells #[.int .i64 u, .int .i64 g] 34) (.cells #[.slice none 0 0, .int .i64 0] 30))
 have KB0 := qhZ (m3_1 w (.cells #[.slice (some ⟨g0, f0, none⟩) f.nodes.length c, .int .i64 f.room] 30) (.cells #[.int .i64 u, .int .i64 g] 34) (.cells #[.slice none 0 0, .int .i64 0] 30))
 have KZ0 := qhZ (m3_2 w (.cells #[.slice (some ⟨g0, f0, none⟩) f.nodes.length c, .int .i64 f.room] 30) (.cells #[.int .i64 u, .int .i64 g] 34) (.cells #[.slice none 0 0, .int .i64 0] 30))
 have HFP := qhZ hfp
 have hcb : (c2 != 0) = true := by simpa using hc2
 obtain ⟨xn, hxn⟩ : ∃ xn, xn = bs nm := ⟨_, rfl⟩
 clear hH hs hk hss hm hfp
 go_enter Tryz.func48, Tryz.ntmps48
 go_wp2_with fail
 refine (l4Place_is HFP.out (HR.out.below HB0.out) HS.out HK.out HSS.out).mono ?_
 rintro e w1 ⟨rfl, hb1⟩
 have HB1 := qhZ (HB0.out.trans (hb1.mono HB0.out.size))
 have KA1 := qhZ (aD9 hb1 KA0.out)
 have KB1 := qhZ (aD9 hb1 KB0.out)
 have KZ1 := qhZ (aD9 hb1 KZ0.out)
 clear hb1
 rw [← hxn]
 clear hxn hc2
 have KA1c0 : w1.cell? ⟨w.heap.size, 0, none⟩ = some (.slice (some ⟨g0, f0, none⟩) f.nodes.length c) := aA9 KA1.out 0
 have KA1c1 : w1.cell? ⟨w.heap.size, 1, none⟩ = some (.int .i64 f.room) := aA9 KA1.out 1
 have KZ1c0 : w1.cell? ⟨w.heap.size + 2, 0, none⟩ = some (.slice none 0 0) := aA9 KZ1.out 0
 have KZ1c1 : w1.cell? ⟨w.heap.size + 2, 1, none⟩ = some (.int .i64 0) := aA9 KZ1.out 1
 have KZ1f := aE9 KZ1.out
 have hq := bG9 KZ1.out (.slice (some ⟨g0, f0, none⟩) f.nodes.length c) (.int .i64 f.room)
 have t0 := (aA9 hq 0).trans rfl
 have t1 := (aA9 hq 1).trans rfl
 go_wp2
 refine bodyPost_ret (v := .tuple #[.agg #[.slice (some ⟨g0, f0, none⟩) f.nodes.length c, .int .i64 f.room], .int .i64 c2]) (by simp [results, Tryz.results48, go_sem, t0, t1]) rfl ?_
 have hB9 := aP9 (G := w.heap.size + 2) (x := (.slice (some ⟨g0, f0, none⟩) f.nodes.length c)) (y := .int .i64 f.room) HB1.out (by omega)
 first
   | exact ⟨_, rfl, HR.out.below hB9, hB9⟩
   | exact ⟨rfl, HR.out.below hB9, hB9⟩
set_option maxRecDepth 100000 in
theorem l5Cut_B (f : FsD) (v : Value) (u g : Int) (s : ByteArray) (t : Int) (w : World) (hR : FsA w v f) (hs : szF f ≤ 1048576) (hk : bC9 f u g = true) (hss : s.size ≤ 1048576) (dir : Bool) (up : Nat) (nm : List UInt8) (hfp : fp0 f.nodes u g s.data.toList = (0, up, nm)) (hup : up < f.nodes.length) (hat : atE (aC9 f.nodes up).list nm = -1) :
   Calls Tryz.prog 48 #[v, .agg #[.int .i64 u, .int .i64 g], .string s, .bool dir, .int .i64 t] w fun e w' => ∃ v', e = .returned (.tuple #[v', .int .i64 2]) ∧ FsA w' v' f ∧ Below w.heap.size w w' := by
 have HR := qhZ hR
 obtain ⟨nv, rfl, hN⟩ := hR
 obtain ⟨o, c, rfl, hm, hH⟩ := hN
 have hpos : 0 < f.nodes.length := good_pos (bN9 hk)
 obtain ⟨g0, f0, lv0, rfl, -⟩ := hH 0 hpos
 have HH := qhZ hH
 have HS := qhZ hs
 have HK := qhZ hk
 have HSS := qhZ hss
 have hl : f.nodes.length ≤ 1048576 := (aG9 hs).1
 have HB0 : Hid (Below w.heap.size w (((w.alloc (.cells #[.slice (some ⟨g0, f0, none⟩) f.nodes.length c, .int .i64 f.room] 30)).alloc (.cells #[.int .i64 u, .int .i64 g] 34)).alloc (.cells #[.slice none 0 0, .int .i64 0] 30))) := qhZ ((((Below.refl _ _).alloc (Nat.le_refl _) _).alloc (by simp) _).alloc (by simp; omega) _)
 have KA0 := qhZ (m3_0 w (.cells #[.slice (some ⟨g0, f0, none⟩) f.nodes.length c, .int .i64 f.room] 30) (.cells #[.int .i64 u, .int .i64 g] 34) (.cells #[.slice none 0 0, .int .i64 0] 30))
 have KB0 := qhZ (m3_1 w (.cells #[.slice (some ⟨g0, f0, none⟩) f.nodes.length c, .int .i64 f.room] 30) (.cells #[.int .i64 u, .int .i64 g] 34) (.cells #[.slice none 0 0, .int .i64 0] 30))
 have KZ0 := qhZ (m3_2 w (.cells #[.slice (some ⟨g0, f0, none⟩) f.nodes.length c, .int .i64 f.room] 30) (.cells #[.int .i64 u, .int .i64 g] 34) (.cells #[.slice none 0 0, .int .i64 0] 30))
 have HFP := qhZ hfp
 clear hH hs hk hss hm hfp
 go_enter Tryz.func48, Tryz.ntmps48
 go_wp2_with fail
 refine (l4Place_is HFP.out (HR.out.below HB0.out) HS.out HK.out HSS.out).mono ?_
 rintro e w1 ⟨rfl, hb1⟩
 have HB1 := qhZ (HB0.out.trans (hb1.mono HB0.out.size))
 have KA1 := qhZ (aD9 hb1 KA0.out)
 have KB1 := qhZ (aD9 hb1 KB0.out)
 have KZ1 := qhZ (aD9 hb1 KZ0.out)
 clear hb1
 have KA1c0 : w1.cell? ⟨w.heap.size, 0, none⟩ = some (.slice (some ⟨g0, f0, none⟩) f.nodes.length c) := aA9 KA1.out 0
 have KA1c1 : w1.cell? ⟨w.heap.size, 1, none⟩ = some (.int .i64 f.room) := aA9 KA1.out 1
 obtain ⟨g4, f4, lv4, e4, hcc4, hee4⟩ := bL9 (c := c) HH.out hup HB1.out
 have d6 := hcc4.c6
 simp only [Option.some.injEq, Addr.mk.injEq, and_true] at e4
 obtain ⟨rfl, rfl⟩ := e4
 obtain ⟨oe, ce, rfl, hle, -⟩ := id hee4
 have HEE := qhZ hee4
 have HLL : Hid ((aC9 f.nodes up).list.length ≤ 1048576) := qhZ ((aG9 HS.out).2 (aC9 f.nodes up) (by rw [show aC9 f.nodes up = f.nodes[up] from aR9 hup]; exact List.getElem_mem hup)).1
 obtain ⟨xn, hxn⟩ : ∃ xn, xn = bs nm := ⟨_, rfl⟩
 have hxl : xn.data.toList = nm := by rw [hxn]; exact aY9 _
 have HAT : Hid (atE (aC9 f.nodes up).list xn.data.toList = -1) := qhZ (by rw [hxl]; exact hat)
 rw [← hxn]
 have HXN := qhZ hxn
 clear hcc4 hee4 hxl hat hle
 clear hxn
 have hu0 : (0 : Int) ≤ (up : Int) := by omega
 have hu1 : (up : Int) < (f.nodes.length : Int) := by omega
 go_wp2_with fail
 refine (l3At_isA HAT.out HEE.out HLL.out).mono ?_
 rintro e w2 ⟨rfl, hb2⟩
 have HB2 := qhZ (HB1.out.trans (hb2.mono HB1.out.size))
 have KA2 := qhZ (aD9 hb2 KA1.out)
 have KB2 := qhZ (aD9 hb2 KB1.out)
 have KZ2 := qhZ (aD9 hb2 KZ1.out)
 clear hb2
 clear d6
 clear KA1c0 KA1c1
 have KA2c0 : w2.cell? ⟨w.heap.size, 0, none⟩ = some (.slice (some ⟨g0, f0, none⟩) f.nodes.length c) := aA9 KA2.out 0
 have KA2c1 : w2.cell? ⟨w.heap.size, 1, none⟩ = some (.int .i64 f.room) := aA9 KA2.out 1
 have KZ2c0 : w2.cell? ⟨w.heap.size + 2, 0, none⟩ = some (.slice none 0 0) := aA9 KZ2.out 0
 have KZ2c1 : w2.cell? ⟨w.heap.size + 2, 1, none⟩ = some (.int .i64 0) := aA9 KZ2.out 1
 have KZ2f := aE9 KZ2.out
 have hq := bG9 KZ2.out (.slice (some ⟨g0, f0, none⟩) f.nodes.length c) (.int .i64 f.room)
 have t0 := (aA9 hq 0).trans rfl
 have t1 := (aA9 hq 1).trans rfl
 go_wp2
 refine bodyPost_ret (v := .tuple #[.agg #[.slice (some ⟨g0, f0, none⟩) f.nodes.length c, .int .i64 f.room], .int .i64 2]) (by simp [results, Tryz.results48, go_sem, t0, t1]) rfl ?_
 have hB9 := aP9 (G := w.heap.size + 2) (x := (.slice (some ⟨g0, f0, none⟩) f.nodes.length c)) (y := .int .i64 f.room) HB2.out (by omega)
 first
   | exact ⟨_, rfl, HR.out.below hB9, hB9⟩
   | exact ⟨rfl, HR.out.below hB9, hB9⟩
set_option maxRecDepth 100000 in
theorem l5Cut_C7 (f : FsD) (v : Value) (u g : Int) (s : ByteArray) (t : Int) (w : World) (hR : FsA w v f) (hs : szF f ≤ 1048576) (hk : bC9 f u g = true) (hss : s.size ≤ 1048576) (up : Nat) (nm : List UInt8) (hfp : fp0 f.nodes u g s.data.toList = (0, up, nm)) (hup : up < f.nodes.length) (nd : Nat) (hat : atE (aC9 f.nodes up).list nm = (nd : Int)) (hndl : nd < f.nodes.length) (hkk : (aC9 f.nodes nd).kind = 2) :
   Calls Tryz.prog 48 #[v, .agg #[.int .i64 u, .int .i64 g], .string s, .bool false, .int .i64 t] w fun e w' => ∃ v', e = .returned (.tuple #[v', .int .i64 7]) ∧ FsA w' v' f ∧ Below w.heap.size w w' := by
 have HR := qhZ hR
 obtain ⟨nv, rfl, hN⟩ := hR
 obtain ⟨o, c, rfl, hm, hH⟩ := hN
 have hpos : 0 < f.nodes.length := good_pos (bN9 hk)
 obtain ⟨g0, f0, lv0, rfl, -⟩ := hH 0 hpos
 have HH := qhZ hH
 have HS := qhZ hs
 have HK := qhZ hk
 have HSS := qhZ hss
 have hl : f.nodes.length ≤ 1048576 := (aG9 hs).1
 have HB0 : Hid (Below w.heap.size w (((w.alloc (.cells #[.slice (some ⟨g0, f0, none⟩) f.nodes.length c, .int .i64 f.room] 30)).alloc (.cells #[.int .i64 u, .int .i64 g] 34)).alloc (.cells #[.slice none 0 0, .int .i64 0] 30))) := qhZ ((((Below.refl _ _).alloc (Nat.le_refl _) _).alloc (by simp) _).alloc (by simp; omega) _)
 have KA0 := qhZ (m3_0 w (.cells #[.slice (some ⟨g0, f0, none⟩) f.nodes.length c, .int .i64 f.room] 30) (.cells #[.int .i64 u, .int .i64 g] 34) (.cells #[.slice none 0 0, .int .i64 0] 30))
 have KB0 := qhZ (m3_1 w (.cells #[.slice (some ⟨g0, f0, none⟩) f.nodes.length c, .int .i64 f.room] 30) (.cells #[.int .i64 u, .int .i64 g] 34) (.cells #[.slice none 0 0, .int .i64 0] 30))
 have KZ0 := qhZ (m3_2 w (.cells #[.slice (some ⟨g0, f0, none⟩) f.nodes.length c, .int .i64 f.room] 30) (.cells #[.int .i64 u, .int .i64 g] 34) (.cells #[.slice none 0 0, .int .i64 0] 30))
 have HFP := qhZ hfp
 clear hH hs hk hss hm hfp
 go_enter Tryz.func48, Tryz.ntmps48
 go_wp2_with fail
 refine (l4Place_is HFP.out (HR.out.below HB0.out) HS.out HK.out HSS.out).mono ?_
 rintro e w1 ⟨rfl, hb1⟩
 have HB1 := qhZ (HB0.out.trans (hb1.mono HB0.out.size))
 have KA1 := qhZ (aD9 hb1 KA0.out)
 have KB1 := qhZ (aD9 hb1 KB0.out)
 have KZ1 := qhZ (aD9 hb1 KZ0.out)
 clear hb1
 have KA1c0 : w1.cell? ⟨w.heap.size, 0, none⟩ = some (.slice (some ⟨g0, f0, none⟩) f.nodes.length c) := aA9 KA1.out 0
 have KA1c1 : w1.cell? ⟨w.heap.size, 1, none⟩ = some (.int .i64 f.room) := aA9 KA1.out 1
 obtain ⟨g4, f4, lv4, e4, hcc4, hee4⟩ := bL9 (c := c) HH.out hup HB1.out
 have d6 := hcc4.c6
 simp only [Option.some.injEq, Addr.mk.injEq, and_true] at e4
 obtain ⟨rfl, rfl⟩ := e4
 obtain ⟨oe, ce, rfl, hle, -⟩ := id hee4
 have HEE := qhZ hee4
 have HLL : Hid ((aC9 f.nodes up).list.length ≤ 1048576) := qhZ ((aG9 HS.out).2 (aC9 f.nodes up) (by rw [show aC9 f.nodes up = f.nodes[up] from aR9 hup]; exact List.getElem_mem hup)).1
 obtain ⟨xn, hxn⟩ : ∃ xn, xn = bs nm := ⟨_, rfl⟩
 have hxl : xn.data.toList = nm := by rw [hxn]; exact aY9 _
 have HAT : Hid (atE (aC9 f.nodes up).list xn.data.toList = (nd : Int)) := qhZ (by rw [hxl]; exact hat)
 rw [← hxn]
 have HXN := qhZ hxn
 clear hcc4 hee4 hxl hat hle
 clear hxn
 have hu0 : (0 : Int) ≤ (up : Int) := by omega
 have hu1 : (up : Int) < (f.nodes.length : Int) := by omega
 go_wp2_with fail
 refine (l3At_isA HAT.out HEE.out HLL.out).mono ?_
 rintro e w2 ⟨rfl, hb2⟩
 have HB2 := qhZ (HB1.out.trans (hb2.mono HB1.out.size))
 have KA2 := qhZ (aD9 hb2 KA1.out)
 have KB2 := qhZ (aD9 hb2 KB1.out)
 have KZ2 := qhZ (aD9 hb2 KZ1.out)
 clear hb2
 clear d6
 clear KA1c0 KA1c1
 have KA2c0 : w2.cell? ⟨w.heap.size, 0, none⟩ = some (.slice (some ⟨g0, f0, none⟩) f.nodes.length c) := aA9 KA2.out 0
 have KA2c1 : w2.cell? ⟨w.heap.size, 1, none⟩ = some (.int .i64 f.room) := aA9 KA2.out 1
 obtain ⟨g5, f5, lv5, e5, hcc5, hee5⟩ := bL9 (c := c) HH.out hndl HB2.out
 simp only [Option.some.injEq, Addr.mk.injEq, and_true] at e5
 obtain ⟨rfl, rfl⟩ := e5
 obtain ⟨on, cn, rfl, -, -⟩ := id hee5
 obtain ⟨q0, q1, q2, q3, q4, q5, q6⟩ := hcc5
 obtain ⟨kd, hkd⟩ : ∃ kd, kd = (aC9 f.nodes nd).kind := ⟨_, rfl⟩
 obtain ⟨md, hmd⟩ : ∃ md, md = (aC9 f.nodes nd).mode := ⟨_, rfl⟩
 obtain ⟨ui, hui⟩ : ∃ ui, ui = (aC9 f.nodes nd).uid := ⟨_, rfl⟩
 obtain ⟨gi, hgi⟩ : ∃ gi, gi = (aC9 f.nodes nd).gid := ⟨_, rfl⟩
 obtain ⟨ti, hti⟩ : ∃ ti, ti = (aC9 f.nodes nd).time := ⟨_, rfl⟩
 obtain ⟨xd, hxd⟩ : ∃ xd, xd = bs (aC9 f.nodes nd).data := ⟨_, rfl⟩
 obtain ⟨ln, hln⟩ : ∃ ln, ln = (aC9 f.nodes nd).list.length := ⟨_, rfl⟩
 rw [← hkd] at q0 hkk
 rw [← hmd] at q1
 rw [← hui] at q2
 rw [← hgi] at q3
 rw [← hti] at q4
 rw [← hxd] at q5
 rw [← hln] at q6
 have hk2 : kd = 2 := hkk
 subst hk2
 have hn0 : (0 : Int) ≤ (nd : Int) := by omega
 have hn1 : (nd : Int) < (f.nodes.length : Int) := by omega
 have hyb : ¬ ((nd : Int) < 0) := by omega
 obtain ⟨w3, hw3⟩ : ∃ w3, w3 = w2.alloc (.cells #[.int .i64 2, .int .i64 md, .int .i64 ui, .int .i64 gi, .int .i64 ti, .string xd, .slice on ln cn] 55) := ⟨_, rfl⟩
 have hb3 : Below w2.heap.size w2 w3 := by rw [hw3]; exact (Below.refl _ w2).alloc (Nat.le_refl _) _
 have KX3 : Hid (w3.heap[w2.heap.size]? = some (.cells #[.int .i64 2, .int .i64 md, .int .i64 ui, .int .i64 gi, .int .i64 ti, .string xd, .slice on ln cn] 55)) := qhZ (by rw [hw3]; exact heap_alloc_new w2 _)
 have HW3 := qhZ hw3
 have HB3 := qhZ (HB2.out.trans (hb3.mono HB2.out.size))
 have KA3 := qhZ (aD9 hb3 KA2.out)
 have KB3 := qhZ (aD9 hb3 KB2.out)
 have KZ3 := qhZ (aD9 hb3 KZ2.out)
 clear hb3
 clear hkd hmd hui hgi hti hxd hln hee5 hw3
 go_upto_region 8 with fail
 rw [← HW3.out]
 clear q0 q1 q2 q3 q4 q5 q6
 clear KA2c0 KA2c1
 have X30 : w3.cell? ⟨w2.heap.size, 0, none⟩ = some (.int .i64 2) := (aA9 KX3.out 0).trans rfl
 have X36 : w3.cell? ⟨w2.heap.size, 6, none⟩ = some (.slice on ln cn) := (aA9 KX3.out 6).trans rfl
 have KA3c0 : w3.cell? ⟨w.heap.size, 0, none⟩ = some (.slice (some ⟨g0, f0, none⟩) f.nodes.length c) := aA9 KA3.out 0
 have KA3c1 : w3.cell? ⟨w.heap.size, 1, none⟩ = some (.int .i64 f.room) := aA9 KA3.out 1
 have KZ3c0 : w3.cell? ⟨w.heap.size + 2, 0, none⟩ = some (.slice none 0 0) := aA9 KZ3.out 0
 have KZ3c1 : w3.cell? ⟨w.heap.size + 2, 1, none⟩ = some (.int .i64 0) := aA9 KZ3.out 1
 have KZ3f := aE9 KZ3.out
 have hq := bG9 KZ3.out (.slice (some ⟨g0, f0, none⟩) f.nodes.length c) (.int .i64 f.room)
 have t0 := (aA9 hq 0).trans rfl
 have t1 := (aA9 hq 1).trans rfl
 go_wp2
 refine bodyPost_ret (v := .tuple #[.agg #[.slice (some ⟨g0, f0, none⟩) f.nodes.length c, .int .i64 f.room], .int .i64 7]) (by simp [results, Tryz.results48, go_sem, t0, t1]) rfl ?_
 have hB9 := aP9 (G := w.heap.size + 2) (x := (.slice (some ⟨g0, f0, none⟩) f.nodes.length c)) (y := .int .i64 f.room) HB3.out (by omega)
 first
   | exact ⟨_, rfl, HR.out.below hB9, hB9⟩
   | exact ⟨rfl, HR.out.below hB9, hB9⟩
set_option maxRecDepth 100000 in
theorem l5Cut_C3 (f : FsD) (v : Value) (u g : Int) (s : ByteArray) (t : Int) (w : World) (hR : FsA w v f) (hs : szF f ≤ 1048576) (hk : bC9 f u g = true) (hss : s.size ≤ 1048576) (up : Nat) (nm : List UInt8) (hfp : fp0 f.nodes u g s.data.toList = (0, up, nm)) (hup : up < f.nodes.length) (nd : Nat) (hat : atE (aC9 f.nodes up).list nm = (nd : Int)) (hndl : nd < f.nodes.length) (hkk : (aC9 f.nodes nd).kind ≠ 2) :
   Calls Tryz.prog 48 #[v, .agg #[.int .i64 u, .int .i64 g], .string s, .bool true, .int .i64 t] w fun e w' => ∃ v', e = .returned (.tuple #[v', .int .i64 3]) ∧ FsA w' v' f ∧ Below w.heap.size w w' := by
 have HR := qhZ hR
 obtain ⟨nv, rfl, hN⟩ := hR
 obtain ⟨o, c, rfl, hm, hH⟩ := hN
 have hpos : 0 < f.nodes.length := good_pos (bN9 hk)
 obtain ⟨g0, f0, lv0, rfl, -⟩ := hH 0 hpos
 have HH := qhZ hH
 have HS := qhZ hs
 have HK := qhZ hk
 have HSS := qhZ hss
 have hl : f.nodes.length ≤ 1048576 := (aG9 hs).1
 have HB0 : Hid (Below w.heap.size w (((w.alloc (.cells #[.slice (some ⟨g0, f0, none⟩) f.nodes.length c, .int .i64 f.room] 30)).alloc (.cells #[.int .i64 u, .int .i64 g] 34)).alloc (.cells #[.slice none 0 0, .int .i64 0] 30))) := qhZ ((((Below.refl _ _).alloc (Nat.le_refl _) _).alloc (by simp) _).alloc (by simp; omega) _)
 have KA0 := qhZ (m3_0 w (.cells #[.slice (some ⟨g0, f0, none⟩) f.nodes.length c, .int .i64 f.room] 30) (.cells #[.int .i64 u, .int .i64 g] 34) (.cells #[.slice none 0 0, .int .i64 0] 30))
 have KB0 := qhZ (m3_1 w (.cells #[.slice (some ⟨g0, f0, none⟩) f.nodes.length c, .int .i64 f.room] 30) (.cells #[.int .i64 u, .int .i64 g] 34) (.cells #[.slice none 0 0, .int .i64 0] 30))
 have KZ0 := qhZ (m3_2 w (.cells #[.slice (some ⟨g0, f0, none⟩) f.nodes.length c, .int .i64 f.room] 30) (.cells #[.int .i64 u, .int .i64 g] 34) (.cells #[.slice none 0 0, .int .i64 0] 30))
 have HFP := qhZ hfp
 clear hH hs hk hss hm hfp
 go_enter Tryz.func48, Tryz.ntmps48
 go_wp2_with fail
 refine (l4Place_is HFP.out (HR.out.below HB0.out) HS.out HK.out HSS.out).mono ?_
 rintro e w1 ⟨rfl, hb1⟩
 have HB1 := qhZ (HB0.out.trans (hb1.mono HB0.out.size))
 have KA1 := qhZ (aD9 hb1 KA0.out)
 have KB1 := qhZ (aD9 hb1 KB0.out)
 have KZ1 := qhZ (aD9 hb1 KZ0.out)
 clear hb1
 have KA1c0 : w1.cell? ⟨w.heap.size, 0, none⟩ = some (.slice (some ⟨g0, f0, none⟩) f.nodes.length c) := aA9 KA1.out 0
 have KA1c1 : w1.cell? ⟨w.heap.size, 1, none⟩ = some (.int .i64 f.room) := aA9 KA1.out 1
 obtain ⟨g4, f4, lv4, e4, hcc4, hee4⟩ := bL9 (c := c) HH.out hup HB1.out
 have d6 := hcc4.c6
 simp only [Option.some.injEq, Addr.mk.injEq, and_true] at e4
 obtain ⟨rfl, rfl⟩ := e4
 obtain ⟨oe, ce, rfl, hle, -⟩ := id hee4
 have HEE := qhZ hee4
 have HLL : Hid ((aC9 f.nodes up).list.length ≤ 1048576) := qhZ ((aG9 HS.out).2 (aC9 f.nodes up) (by rw [show aC9 f.nodes up = f.nodes[up] from aR9 hup]; exact List.getElem_mem hup)).1
 obtain ⟨xn, hxn⟩ : ∃ xn, xn = bs nm := ⟨_, rfl⟩
 have hxl : xn.data.toList = nm := by rw [hxn]; exact aY9 _
 have HAT : Hid (atE (aC9 f.nodes up).list xn.data.toList = (nd : Int)) := qhZ (by rw [hxl]; exact hat)
 rw [← hxn]
 have HXN := qhZ hxn
 clear hcc4 hee4 hxl hat hle
 clear hxn
 have hu0 : (0 : Int) ≤ (up : Int) := by omega
 have hu1 : (up : Int) < (f.nodes.length : Int) := by omega
 go_wp2_with fail
 refine (l3At_isA HAT.out HEE.out HLL.out).mono ?_
 rintro e w2 ⟨rfl, hb2⟩
 have HB2 := qhZ (HB1.out.trans (hb2.mono HB1.out.size))
 have KA2 := qhZ (aD9 hb2 KA1.out)
 have KB2 := qhZ (aD9 hb2 KB1.out)
 have KZ2 := qhZ (aD9 hb2 KZ1.out)
 clear hb2
 clear d6
 clear KA1c0 KA1c1
 have KA2c0 : w2.cell? ⟨w.heap.size, 0, none⟩ = some (.slice (some ⟨g0, f0, none⟩) f.nodes.length c) := aA9 KA2.out 0
 have KA2c1 : w2.cell? ⟨w.heap.size, 1, none⟩ = some (.int .i64 f.room) := aA9 KA2.out 1
 obtain ⟨g5, f5, lv5, e5, hcc5, hee5⟩ := bL9 (c := c) HH.out hndl HB2.out
 simp only [Option.some.injEq, Addr.mk.injEq, and_true] at e5
 obtain ⟨rfl, rfl⟩ := e5
 obtain ⟨on, cn, rfl, -, -⟩ := id hee5
 obtain ⟨q0, q1, q2, q3, q4, q5, q6⟩ := hcc5
 obtain ⟨kd, hkd⟩ : ∃ kd, kd = (aC9 f.nodes nd).kind := ⟨_, rfl⟩
 obtain ⟨md, hmd⟩ : ∃ md, md = (aC9 f.nodes nd).mode := ⟨_, rfl⟩
 obtain ⟨ui, hui⟩ : ∃ ui, ui = (aC9 f.nodes nd).uid := ⟨_, rfl⟩
 obtain ⟨gi, hgi⟩ : ∃ gi, gi = (aC9 f.nodes nd).gid := ⟨_, rfl⟩
 obtain ⟨ti, hti⟩ : ∃ ti, ti = (aC9 f.nodes nd).time := ⟨_, rfl⟩
 obtain ⟨xd, hxd⟩ : ∃ xd, xd = bs (aC9 f.nodes nd).data := ⟨_, rfl⟩
 obtain ⟨ln, hln⟩ : ∃ ln, ln = (aC9 f.nodes nd).list.length := ⟨_, rfl⟩
 rw [← hkd] at q0 hkk
 rw [← hmd] at q1
 rw [← hui] at q2
 rw [← hgi] at q3
 rw [← hti] at q4
 rw [← hxd] at q5
 rw [← hln] at q6
 have zb : (kd != 2) = true := by simpa using hkk
 have hn0 : (0 : Int) ≤ (nd : Int) := by omega
 have hn1 : (nd : Int) < (f.nodes.length : Int) := by omega
 have hyb : ¬ ((nd : Int) < 0) := by omega
 obtain ⟨w3, hw3⟩ : ∃ w3, w3 = w2.alloc (.cells #[.int .i64 kd, .int .i64 md, .int .i64 ui, .int .i64 gi, .int .i64 ti, .string xd, .slice on ln cn] 55) := ⟨_, rfl⟩
 have hb3 : Below w2.heap.size w2 w3 := by rw [hw3]; exact (Below.refl _ w2).alloc (Nat.le_refl _) _
 have KX3 : Hid (w3.heap[w2.heap.size]? = some (.cells #[.int .i64 kd, .int .i64 md, .int .i64 ui, .int .i64 gi, .int .i64 ti, .string xd, .slice on ln cn] 55)) := qhZ (by rw [hw3]; exact heap_alloc_new w2 _)
 have HW3 := qhZ hw3
 have HB3 := qhZ (HB2.out.trans (hb3.mono HB2.out.size))
 have KA3 := qhZ (aD9 hb3 KA2.out)
 have KB3 := qhZ (aD9 hb3 KB2.out)
 have KZ3 := qhZ (aD9 hb3 KZ2.out)
 clear hb3
 clear hkd hmd hui hgi hti hxd hln hee5 hw3
 go_upto_region 8 with fail
 rw [← HW3.out]
 clear q0 q1 q2 q3 q4 q5 q6
 clear KA2c0 KA2c1
 have X30 : w3.cell? ⟨w2.heap.size, 0, none⟩ = some (.int .i64 kd) := (aA9 KX3.out 0).trans rfl
 have X36 : w3.cell? ⟨w2.heap.size, 6, none⟩ = some (.slice on ln cn) := (aA9 KX3.out 6).trans rfl
 have KA3c0 : w3.cell? ⟨w.heap.size, 0, none⟩ = some (.slice (some ⟨g0, f0, none⟩) f.nodes.length c) := aA9 KA3.out 0
 have KA3c1 : w3.cell? ⟨w.heap.size, 1, none⟩ = some (.int .i64 f.room) := aA9 KA3.out 1
 have KZ3c0 : w3.cell? ⟨w.heap.size + 2, 0, none⟩ = some (.slice none 0 0) := aA9 KZ3.out 0
 have KZ3c1 : w3.cell? ⟨w.heap.size + 2, 1, none⟩ = some (.int .i64 0) := aA9 KZ3.out 1
 have KZ3f := aE9 KZ3.out
 have hq := bG9 KZ3.out (.slice (some ⟨g0, f0, none⟩) f.nodes.length c) (.int .i64 f.room)
 have t0 := (aA9 hq 0).trans rfl
 have t1 := (aA9 hq 1).trans rfl
 go_wp2
 refine bodyPost_ret (v := .tuple #[.agg #[.slice (some ⟨g0, f0, none⟩) f.nodes.length c, .int .i64 f.room], .int .i64 3]) (by simp [results, Tryz.results48, go_sem, t0, t1]) rfl ?_
 have hB9 := aP9 (G := w.heap.size + 2) (x := (.slice (some ⟨g0, f0, none⟩) f.nodes.length c)) (y := .int .i64 f.room) HB3.out (by omega)
 first
   | exact ⟨_, rfl, HR.out.below hB9, hB9⟩
   | exact ⟨rfl, HR.out.below hB9, hB9⟩
set_option maxRecDepth 100000 in
theorem l5Cut_Dt (f : FsD) (v : Value) (u g : Int) (s : ByteArray) (t : Int) (w : World) (hR : FsA w v f) (hs : szF f ≤ 1048576) (hk : bC9 f u g = true) (hss : s.size ≤ 1048576) (up : Nat) (nm : List UInt8) (hfp : fp0 f.nodes u g s.data.toList = (0, up, nm)) (hup : up < f.nodes.length) (nd : Nat) (hat : atE (aC9 f.nodes up).list nm = (nd : Int)) (hndl : nd < f.nodes.length) (hkk : (aC9 f.nodes nd).kind = 2) (hll : 0 < (aC9 f.nodes nd).list.length) :
   Calls Tryz.prog 48 #[v, .agg #[.int .i64 u, .int .i64 g], .string s, .bool true, .int .i64 t] w fun e w' => ∃ v', e = .returned (.tuple #[v', .int .i64 9]) ∧ FsA w' v' f ∧ Below w.heap.size w w' := by
 have HR := qhZ hR
 obtain ⟨nv, rfl, hN⟩ := hR
 obtain ⟨o, c, rfl, hm, hH⟩ := hN
 have hpos : 0 < f.nodes.length := good_pos (bN9 hk)
 obtain ⟨g0, f0, lv0, rfl, -⟩ := hH 0 hpos
 have HH := qhZ hH
 have HS := qhZ hs
 have HK := qhZ hk
 have HSS := qhZ hss
 have hl : f.nodes.length ≤ 1048576 := (aG9 hs).1
 have HB0 : Hid (Below w.heap.size w (((w.alloc (.cells #[.slice (some ⟨g0, f0, none⟩) f.nodes.length c, .int .i64 f.room] 30)).alloc (.cells #[.int .i64 u, .int .i64 g] 34)).alloc (.cells #[.slice none 0 0, .int .i64 0] 30))) := qhZ ((((Below.refl _ _).alloc (Nat.le_refl _) _).alloc (by simp) _).alloc (by simp; omega) _)
 have KA0 := qhZ (m3_0 w (.cells #[.slice (some ⟨g0, f0, none⟩) f.nodes.length c, .int .i64 f.room] 30) (.cells #[.int .i64 u, .int .i64 g] 34) (.cells #[.slice none 0 0, .int .i64 0] 30))
 have KB0 := qhZ (m3_1 w (.cells #[.slice (some ⟨g0, f0, none⟩) f.nodes.length c, .int .i64 f.room] 30) (.cells #[.int .i64 u, .int .i64 g] 34) (.cells #[.slice none 0 0, .int .i64 0] 30))
 have KZ0 := qhZ (m3_2 w (.cells #[.slice (some ⟨g0, f0, none⟩) f.nodes.length c, .int .i64 f.room] 30) (.cells #[.int .i64 u, .int .i64 g] 34) (.cells #[.slice none 0 0, .int .i64 0] 30))
 have HFP := qhZ hfp
 clear hH hs hk hss hm hfp
 go_enter Tryz.func48, Tryz.ntmps48
 go_wp2_with fail
 refine (l4Place_is HFP.out (HR.out.below HB0.out) HS.out HK.out HSS.out).mono ?_
 rintro e w1 ⟨rfl, hb1⟩
 have HB1 := qhZ (HB0.out.trans (hb1.mono HB0.out.size))
 have KA1 := qhZ (aD9 hb1 KA0.out)
 have KB1 := qhZ (aD9 hb1 KB0.out)
 have KZ1 := qhZ (aD9 hb1 KZ0.out)
 clear hb1
 have KA1c0 : w1.cell? ⟨w.heap.size, 0, none⟩ = some (.slice (some ⟨g0, f0, none⟩) f.nodes.length c) := aA9 KA1.out 0
 have KA1c1 : w1.cell? ⟨w.heap.size, 1, none⟩ = some (.int .i64 f.room) := aA9 KA1.out 1
 obtain ⟨g4, f4, lv4, e4, hcc4, hee4⟩ := bL9 (c := c) HH.out hup HB1.out
 have d6 := hcc4.c6
 simp only [Option.some.injEq, Addr.mk.injEq, and_true] at e4
 obtain ⟨rfl, rfl⟩ := e4
 obtain ⟨oe, ce, rfl, hle, -⟩ := id hee4
 have HEE := qhZ hee4
 have HLL : Hid ((aC9 f.nodes up).list.length ≤ 1048576) := qhZ ((aG9 HS.out).2 (aC9 f.nodes up) (by rw [show aC9 f.nodes up = f.nodes[up] from aR9 hup]; exact List.getElem_mem hup)).1
 obtain ⟨xn, hxn⟩ : ∃ xn, xn = bs nm := ⟨_, rfl⟩
 have hxl : xn.data.toList = nm := by rw [hxn]; exact aY9 _
 have HAT : Hid (atE (aC9 f.nodes up).list xn.data.toList = (nd : Int)) := qhZ (by rw [hxl]; exact hat)
 rw [← hxn]
 have HXN := qhZ hxn
 clear hcc4 hee4 hxl hat hle
 clear hxn
 have hu0 : (0 : Int) ≤ (up : Int) := by omega
 have hu1 : (up : Int) < (f.nodes.length : Int) := by omega
 go_wp2_with fail
 refine (l3At_isA HAT.out HEE.out HLL.out).mono ?_
 rintro e w2 ⟨rfl, hb2⟩
 have HB2 := qhZ (HB1.out.trans (hb2.mono HB1.out.size))
 have KA2 := qhZ (aD9 hb2 KA1.out)
 have KB2 := qhZ (aD9 hb2 KB1.out)
 have KZ2 := qhZ (aD9 hb2 KZ1.out)
 clear hb2
 clear d6
 clear KA1c0 KA1c1
 have KA2c0 : w2.cell? ⟨w.heap.size, 0, none⟩ = some (.slice (some ⟨g0, f0, none⟩) f.nodes.length c) := aA9 KA2.out 0
 have KA2c1 : w2.cell? ⟨w.heap.size, 1, none⟩ = some (.int .i64 f.room) := aA9 KA2.out 1
 obtain ⟨g5, f5, lv5, e5, hcc5, hee5⟩ := bL9 (c := c) HH.out hndl HB2.out
 simp only [Option.some.injEq, Addr.mk.injEq, and_true] at e5
 obtain ⟨rfl, rfl⟩ := e5
 obtain ⟨on, cn, rfl, -, -⟩ := id hee5
 obtain ⟨q0, q1, q2, q3, q4, q5, q6⟩ := hcc5
 obtain ⟨kd, hkd⟩ : ∃ kd, kd = (aC9 f.nodes nd).kind := ⟨_, rfl⟩
 obtain ⟨md, hmd⟩ : ∃ md, md = (aC9 f.nodes nd).mode := ⟨_, rfl⟩
 obtain ⟨ui, hui⟩ : ∃ ui, ui = (aC9 f.nodes nd).uid := ⟨_, rfl⟩
 obtain ⟨gi, hgi⟩ : ∃ gi, gi = (aC9 f.nodes nd).gid := ⟨_, rfl⟩
 obtain ⟨ti, hti⟩ : ∃ ti, ti = (aC9 f.nodes nd).time := ⟨_, rfl⟩
 obtain ⟨xd, hxd⟩ : ∃ xd, xd = bs (aC9 f.nodes nd).data := ⟨_, rfl⟩
 obtain ⟨ln, hln⟩ : ∃ ln, ln = (aC9 f.nodes nd).list.length := ⟨_, rfl⟩
 rw [← hkd] at q0 hkk
 rw [← hmd] at q1
 rw [← hui] at q2
 rw [← hgi] at q3
 rw [← hti] at q4
 rw [← hxd] at q5
 rw [← hln] at q6
 have hk2 : kd = 2 := hkk
 subst hk2
 have hl0 : (0 : Int) < (ln : Int) := by omega
 have hn0 : (0 : Int) ≤ (nd : Int) := by omega
 have hn1 : (nd : Int) < (f.nodes.length : Int) := by omega
 have hyb : ¬ ((nd : Int) < 0) := by omega
 obtain ⟨w3, hw3⟩ : ∃ w3, w3 = w2.alloc (.cells #[.int .i64 2, .int .i64 md, .int .i64 ui, .int .i64 gi, .int .i64 ti, .string xd, .slice on ln cn] 55) := ⟨_, rfl⟩
 have hb3 : Below w2.heap.size w2 w3 := by rw [hw3]; exact (Below.refl _ w2).alloc (Nat.le_refl _) _
 have KX3 : Hid (w3.heap[w2.heap.size]? = some (.cells #[.int .i64 2, .int .i64 md, .int .i64 ui, .int .i64 gi, .int .i64 ti, .string xd, .slice on ln cn] 55)) := qhZ (by rw [hw3]; exact heap_alloc_new w2 _)
 have HW3 := qhZ hw3
 have HB3 := qhZ (HB2.out.trans (hb3.mono HB2.out.size))
 have KA3 := qhZ (aD9 hb3 KA2.out)
 have KB3 := qhZ (aD9 hb3 KB2.out)
 have KZ3 := qhZ (aD9 hb3 KZ2.out)
 clear hb3
 clear hkd hmd hui hgi hti hxd hln hee5 hw3
 go_upto_region 8 with fail
 rw [← HW3.out]
 clear q0 q1 q2 q3 q4 q5 q6
 clear KA2c0 KA2c1
 have X30 : w3.cell? ⟨w2.heap.size, 0, none⟩ = some (.int .i64 2) := (aA9 KX3.out 0).trans rfl
 have X36 : w3.cell? ⟨w2.heap.size, 6, none⟩ = some (.slice on ln cn) := (aA9 KX3.out 6).trans rfl
 have KA3c0 : w3.cell? ⟨w.heap.size, 0, none⟩ = some (.slice (some ⟨g0, f0, none⟩) f.nodes.length c) := aA9 KA3.out 0
 have KA3c1 : w3.cell? ⟨w.heap.size, 1, none⟩ = some (.int .i64 f.room) := aA9 KA3.out 1
 have KZ3c0 : w3.cell? ⟨w.heap.size + 2, 0, none⟩ = some (.slice none 0 0) := aA9 KZ3.out 0
 have KZ3c1 : w3.cell? ⟨w.heap.size + 2, 1, none⟩ = some (.int .i64 0) := aA9 KZ3.out 1
 have KZ3f := aE9 KZ3.out
 have hq := bG9 KZ3.out (.slice (some ⟨g0, f0, none⟩) f.nodes.length c) (.int .i64 f.room)
 have t0 := (aA9 hq 0).trans rfl
 have t1 := (aA9 hq 1).trans rfl
 go_wp2
 refine bodyPost_ret (v := .tuple #[.agg #[.slice (some ⟨g0, f0, none⟩) f.nodes.length c, .int .i64 f.room], .int .i64 9]) (by simp [results, Tryz.results48, go_sem, t0, t1]) rfl ?_
 have hB9 := aP9 (G := w.heap.size + 2) (x := (.slice (some ⟨g0, f0, none⟩) f.nodes.length c)) (y := .int .i64 f.room) HB3.out (by omega)
 first
   | exact ⟨_, rfl, HR.out.below hB9, hB9⟩
   | exact ⟨rfl, HR.out.below hB9, hB9⟩
set_option maxRecDepth 100000 in
theorem l5Cut_Et (f : FsD) (v : Value) (u g : Int) (s : ByteArray) (t : Int) (w : World) (hR : FsA w v f) (hs : szF f ≤ 1048576) (hk : bC9 f u g = true) (hss : s.size ≤ 1048576) (up : Nat) (nm : List UInt8) (hfp : fp0 f.nodes u g s.data.toList = (0, up, nm)) (hup : up < f.nodes.length) (nd : Nat) (hat : atE (aC9 f.nodes up).list nm = (nd : Int)) (hndl : nd < f.nodes.length) (hkk : (aC9 f.nodes nd).kind = 2) (hll : (aC9 f.nodes nd).list.length = 0) (hmo : inB 0 511 (aC9 f.nodes up).mode = true) (hmb : mayB u g (aC9 f.nodes up).mode (aC9 f.nodes up).uid (aC9 f.nodes up).gid 3 = false) :
   Calls Tryz.prog 48 #[v, .agg #[.int .i64 u, .int .i64 g], .string s, .bool true, .int .i64 t] w fun e w' => ∃ v', e = .returned (.tuple #[v', .int .i64 4]) ∧ FsA w' v' f ∧ Below w.heap.size w w' := by
 have HR := qhZ hR
 obtain ⟨nv, rfl, hN⟩ := hR
 obtain ⟨o, c, rfl, hm, hH⟩ := hN
 have hpos : 0 < f.nodes.length := good_pos (bN9 hk)
 obtain ⟨g0, f0, lv0, rfl, -⟩ := hH 0 hpos
 have HH := qhZ hH
 have HS := qhZ hs
 have HK := qhZ hk
 have HSS := qhZ hss
 have hl : f.nodes.length ≤ 1048576 := (aG9 hs).1
 have HB0 : Hid (Below w.heap.size w (((w.alloc (.cells #[.slice (some ⟨g0, f0, none⟩) f.nodes.length c, .int .i64 f.room] 30)).alloc (.cells #[.int .i64 u, .int .i64 g] 34)).alloc (.cells #[.slice none 0 0, .int .i64 0] 30))) := qhZ ((((Below.refl _ _).alloc (Nat.le_refl _) _).alloc (by simp) _).alloc (by simp; omega) _)
 have KA0 := qhZ (m3_0 w (.cells #[.slice (some ⟨g0, f0, none⟩) f.nodes.length c, .int .i64 f.room] 30) (.cells #[.int .i64 u, .int .i64 g] 34) (.cells #[.slice none 0 0, .int .i64 0] 30))
 have KB0 := qhZ (m3_1 w (.cells #[.slice (some ⟨g0, f0, none⟩) f.nodes.length c, .int .i64 f.room] 30) (.cells #[.int .i64 u, .int .i64 g] 34) (.cells #[.slice none 0 0, .int .i64 0] 30))
 have KZ0 := qhZ (m3_2 w (.cells #[.slice (some ⟨g0, f0, none⟩) f.nodes.length c, .int .i64 f.room] 30) (.cells #[.int .i64 u, .int .i64 g] 34) (.cells #[.slice none 0 0, .int .i64 0] 30))
 have HFP := qhZ hfp
 have HMO := qhZ hmo
 have HMB := qhZ hmb
 clear hmo hmb
 clear hH hs hk hss hm hfp
 go_enter Tryz.func48, Tryz.ntmps48
 go_wp2_with fail
 refine (l4Place_is HFP.out (HR.out.below HB0.out) HS.out HK.out HSS.out).mono ?_
 rintro e w1 ⟨rfl, hb1⟩
 have HB1 := qhZ (HB0.out.trans (hb1.mono HB0.out.size))
 have KA1 := qhZ (aD9 hb1 KA0.out)
 have KB1 := qhZ (aD9 hb1 KB0.out)
 have KZ1 := qhZ (aD9 hb1 KZ0.out)
 clear hb1
 have KA1c0 : w1.cell? ⟨w.heap.size, 0, none⟩ = some (.slice (some ⟨g0, f0, none⟩) f.nodes.length c) := aA9 KA1.out 0
 have KA1c1 : w1.cell? ⟨w.heap.size, 1, none⟩ = some (.int .i64 f.room) := aA9 KA1.out 1
 obtain ⟨g4, f4, lv4, e4, hcc4, hee4⟩ := bL9 (c := c) HH.out hup HB1.out
 have d6 := hcc4.c6
 simp only [Option.some.injEq, Addr.mk.injEq, and_true] at e4
 obtain ⟨rfl, rfl⟩ := e4
 obtain ⟨oe, ce, rfl, hle, -⟩ := id hee4
 have HEE := qhZ hee4
 have HLL : Hid ((aC9 f.nodes up).list.length ≤ 1048576) := qhZ ((aG9 HS.out).2 (aC9 f.nodes up) (by rw [show aC9 f.nodes up = f.nodes[up] from aR9 hup]; exact List.getElem_mem hup)).1
 obtain ⟨xn, hxn⟩ : ∃ xn, xn = bs nm := ⟨_, rfl⟩
 have hxl : xn.data.toList = nm := by rw [hxn]; exact aY9 _
 have HAT : Hid (atE (aC9 f.nodes up).list xn.data.toList = (nd : Int)) := qhZ (by rw [hxl]; exact hat)
 rw [← hxn]
 have HXN := qhZ hxn
 clear hcc4 hee4 hxl hat hle
 clear hxn
 have hu0 : (0 : Int) ≤ (up : Int) := by omega
 have hu1 : (up : Int) < (f.nodes.length : Int) := by omega
 go_wp2_with fail
 refine (l3At_isA HAT.out HEE.out HLL.out).mono ?_
 rintro e w2 ⟨rfl, hb2⟩
 have HB2 := qhZ (HB1.out.trans (hb2.mono HB1.out.size))
 have KA2 := qhZ (aD9 hb2 KA1.out)
 have KB2 := qhZ (aD9 hb2 KB1.out)
 have KZ2 := qhZ (aD9 hb2 KZ1.out)
 clear hb2
 clear d6
 clear KA1c0 KA1c1
 have KA2c0 : w2.cell? ⟨w.heap.size, 0, none⟩ = some (.slice (some ⟨g0, f0, none⟩) f.nodes.length c) := aA9 KA2.out 0
 have KA2c1 : w2.cell? ⟨w.heap.size, 1, none⟩ = some (.int .i64 f.room) := aA9 KA2.out 1
 obtain ⟨g5, f5, lv5, e5, hcc5, hee5⟩ := bL9 (c := c) HH.out hndl HB2.out
 simp only [Option.some.injEq, Addr.mk.injEq, and_true] at e5
 obtain ⟨rfl, rfl⟩ := e5
 obtain ⟨on, cn, rfl, -, -⟩ := id hee5
 obtain ⟨q0, q1, q2, q3, q4, q5, q6⟩ := hcc5
 obtain ⟨kd, hkd⟩ : ∃ kd, kd = (aC9 f.nodes nd).kind := ⟨_, rfl⟩
 obtain ⟨md, hmd⟩ : ∃ md, md = (aC9 f.nodes nd).mode := ⟨_, rfl⟩
 obtain ⟨ui, hui⟩ : ∃ ui, ui = (aC9 f.nodes nd).uid := ⟨_, rfl⟩
 obtain ⟨gi, hgi⟩ : ∃ gi, gi = (aC9 f.nodes nd).gid := ⟨_, rfl⟩
 obtain ⟨ti, hti⟩ : ∃ ti, ti = (aC9 f.nodes nd).time := ⟨_, rfl⟩
 obtain ⟨xd, hxd⟩ : ∃ xd, xd = bs (aC9 f.nodes nd).data := ⟨_, rfl⟩
 obtain ⟨ln, hln⟩ : ∃ ln, ln = (aC9 f.nodes nd).list.length := ⟨_, rfl⟩
 rw [← hkd] at q0 hkk
 rw [← hmd] at q1
 rw [← hui] at q2
 rw [← hgi] at q3
 rw [← hti] at q4
 rw [← hxd] at q5
 rw [← hln] at q6
 have hk2 : kd = 2 := hkk
 subst hk2
 have hl0 : ln = 0 := by omega
 subst hl0
 have hn0 : (0 : Int) ≤ (nd : Int) := by omega
 have hn1 : (nd : Int) < (f.nodes.length : Int) := by omega
 have hyb : ¬ ((nd : Int) < 0) := by omega
 obtain ⟨w3, hw3⟩ : ∃ w3, w3 = w2.alloc (.cells #[.int .i64 2, .int .i64 md, .int .i64 ui, .int .i64 gi, .int .i64 ti, .string xd, .slice on 0 cn] 55) := ⟨_, rfl⟩
 have hb3 : Below w2.heap.size w2 w3 := by rw [hw3]; exact (Below.refl _ w2).alloc (Nat.le_refl _) _
 have KX3 : Hid (w3.heap[w2.heap.size]? = some (.cells #[.int .i64 2, .int .i64 md, .int .i64 ui, .int .i64 gi, .int .i64 ti, .string xd, .slice on 0 cn] 55)) := qhZ (by rw [hw3]; exact heap_alloc_new w2 _)
 have HW3 := qhZ hw3
 have HB3 := qhZ (HB2.out.trans (hb3.mono HB2.out.size))
 have KA3 := qhZ (aD9 hb3 KA2.out)
 have KB3 := qhZ (aD9 hb3 KB2.out)
 have KZ3 := qhZ (aD9 hb3 KZ2.out)
 clear hb3
 clear hkd hmd hui hgi hti hxd hln hee5 hw3
 go_upto_region 8 with fail
 rw [← HW3.out]
 clear q0 q1 q2 q3 q4 q5 q6
 clear KA2c0 KA2c1
 have X30 : w3.cell? ⟨w2.heap.size, 0, none⟩ = some (.int .i64 2) := (aA9 KX3.out 0).trans rfl
 have X36 : w3.cell? ⟨w2.heap.size, 6, none⟩ = some (.slice on 0 cn) := (aA9 KX3.out 6).trans rfl
 have KA3c0 : w3.cell? ⟨w.heap.size, 0, none⟩ = some (.slice (some ⟨g0, f0, none⟩) f.nodes.length c) := aA9 KA3.out 0
 have KA3c1 : w3.cell? ⟨w.heap.size, 1, none⟩ = some (.int .i64 f.room) := aA9 KA3.out 1
 have KB3c0 : w3.cell? ⟨w.heap.size + 1, 0, none⟩ = some (.int .i64 u) := aA9 KB3.out 0
 have KB3c1 : w3.cell? ⟨w.heap.size + 1, 1, none⟩ = some (.int .i64 g) := aA9 KB3.out 1
 go_wp2_with fail
 refine (l5Change_is HMB.out (HR.out.below HB3.out) hup HMO.out hl).mono ?_
 rintro e w4 ⟨rfl, hb4⟩
 have HB4 := qhZ (HB3.out.trans (hb4.mono HB3.out.size))
 have KA4 := qhZ (aD9 hb4 KA3.out)
 have KB4 := qhZ (aD9 hb4 KB3.out)
 have KZ4 := qhZ (aD9 hb4 KZ3.out)
 clear hb4
 clear KA3c0 KA3c1 KB3c0 KB3c1
 have KA4c0 : w4.cell? ⟨w.heap.size, 0, none⟩ = some (.slice (some ⟨g0, f0, none⟩) f.nodes.length c) := aA9 KA4.out 0
 have KA4c1 : w4.cell? ⟨w.heap.size, 1, none⟩ = some (.int .i64 f.room) := aA9 KA4.out 1
 have KZ4c0 : w4.cell? ⟨w.heap.size + 2, 0, none⟩ = some (.slice none 0 0) := aA9 KZ4.out 0
 have KZ4c1 : w4.cell? ⟨w.heap.size + 2, 1, none⟩ = some (.int .i64 0) := aA9 KZ4.out 1
 have KZ4f := aE9 KZ4.out
 clear X30 X36
 have hq := bG9 KZ4.out (.slice (some ⟨g0, f0, none⟩) f.nodes.length c) (.int .i64 f.room)
 have t0 := (aA9 hq 0).trans rfl
 have t1 := (aA9 hq 1).trans rfl
 go_wp2
 refine bodyPost_ret (v := .tuple #[.agg #[.slice (some ⟨g0, f0, none⟩) f.nodes.length c, .int .i64 f.room], .int .i64 4]) (by simp [results, Tryz.results48, go_sem, t0, t1]) rfl ?_
 have hB9 := aP9 (G := w.heap.size + 2) (x := (.slice (some ⟨g0, f0, none⟩) f.nodes.length c)) (y := .int .i64 f.room) HB4.out (by omega)
 first
   | exact ⟨_, rfl, HR.out.below hB9, hB9⟩
   | exact ⟨rfl, HR.out.below hB9, hB9⟩
set_option maxRecDepth 100000 in
theorem l5Cut_Ft (f : FsD) (v : Value) (u g : Int) (s : ByteArray) (t : Int) (w : World) (hR : FsA w v f) (hs : szF f ≤ 1048576) (hk : bC9 f u g = true) (hss : s.size ≤ 1048576) (up : Nat) (nm : List UInt8) (hfp : fp0 f.nodes u g s.data.toList = (0, up, nm)) (hup : up < f.nodes.length) (nd : Nat) (hat : atE (aC9 f.nodes up).list nm = (nd : Int)) (hndl : nd < f.nodes.length) (hkk : (aC9 f.nodes nd).kind = 2) (hll : (aC9 f.nodes nd).list.length = 0) (hmo : inB 0 511 (aC9 f.nodes up).mode = true) (hmb : mayB u g (aC9 f.nodes up).mode (aC9 f.nodes up).uid (aC9 f.nodes up).gid 3 = true) (hnb : nbN (aC9 f.nodes up).list nm = (nd : Int)) (hnf : aV9 f.nodes) :
   Calls Tryz.prog 48 #[v, .agg #[.int .i64 u, .int .i64 g], .string s, .bool true, .int .i64 t] w fun e w' => ∃ v', e = .returned (.tuple #[v', .int .i64 0]) ∧ FsA w' v' (takFs f up nm t) ∧ Below w.heap.size w w' := by
 have HR := qhZ hR
 obtain ⟨nv, rfl, hN⟩ := hR
 obtain ⟨o, c, rfl, hm, hH⟩ := hN
 have hpos : 0 < f.nodes.length := good_pos (bN9 hk)
 obtain ⟨g0, f0, lv0, rfl, -⟩ := hH 0 hpos
 have HH := qhZ hH
 have HS := qhZ hs
 have HK := qhZ hk
 have HSS := qhZ hss
 have hl : f.nodes.length ≤ 1048576 := (aG9 hs).1
 have HB0 : Hid (Below w.heap.size w (((w.alloc (.cells #[.slice (some ⟨g0, f0, none⟩) f.nodes.length c, .int .i64 f.room] 30)).alloc (.cells #[.int .i64 u, .int .i64 g] 34)).alloc (.cells #[.slice none 0 0, .int .i64 0] 30))) := qhZ ((((Below.refl _ _).alloc (Nat.le_refl _) _).alloc (by simp) _).alloc (by simp; omega) _)
 have KA0 := qhZ (m3_0 w (.cells #[.slice (some ⟨g0, f0, none⟩) f.nodes.length c, .int .i64 f.room] 30) (.cells #[.int .i64 u, .int .i64 g] 34) (.cells #[.slice none 0 0, .int .i64 0] 30))
 have KB0 := qhZ (m3_1 w (.cells #[.slice (some ⟨g0, f0, none⟩) f.nodes.length c, .int .i64 f.room] 30) (.cells #[.int .i64 u, .int .i64 g] 34) (.cells #[.slice none 0 0, .int .i64 0] 30))
 have KZ0 := qhZ (m3_2 w (.cells #[.slice (some ⟨g0, f0, none⟩) f.nodes.length c, .int .i64 f.room] 30) (.cells #[.int .i64 u, .int .i64 g] 34) (.cells #[.slice none 0 0, .int .i64 0] 30))
 have HFP := qhZ hfp
 have HMO := qhZ hmo
 have HMB := qhZ hmb
 clear hmo hmb
 have HNB := qhZ hnb
 have HNF := qhZ hnf
 have HATX := qhZ hat
 clear hnb hnf
 clear hH hs hk hss hm hfp
 go_enter Tryz.func48, Tryz.ntmps48
 go_wp2_with fail
 refine (l4Place_is HFP.out (HR.out.below HB0.out) HS.out HK.out HSS.out).mono ?_
 rintro e w1 ⟨rfl, hb1⟩
 have HB1 := qhZ (HB0.out.trans (hb1.mono HB0.out.size))
 have KA1 := qhZ (aD9 hb1 KA0.out)
 have KB1 := qhZ (aD9 hb1 KB0.out)
 have KZ1 := qhZ (aD9 hb1 KZ0.out)
 clear hb1
 have KA1c0 : w1.cell? ⟨w.heap.size, 0, none⟩ = some (.slice (some ⟨g0, f0, none⟩) f.nodes.length c) := aA9 KA1.out 0
 have KA1c1 : w1.cell? ⟨w.heap.size, 1, none⟩ = some (.int .i64 f.room) := aA9 KA1.out 1
 obtain ⟨g4, f4, lv4, e4, hcc4, hee4⟩ := bL9 (c := c) HH.out hup HB1.out
 have d6 := hcc4.c6
 simp only [Option.some.injEq, Addr.mk.injEq, and_true] at e4
 obtain ⟨rfl, rfl⟩ := e4
 obtain ⟨oe, ce, rfl, hle, -⟩ := id hee4
 have HEE := qhZ hee4
 have HLL : Hid ((aC9 f.nodes up).list.length ≤ 1048576) := qhZ ((aG9 HS.out).2 (aC9 f.nodes up) (by rw [show aC9 f.nodes up = f.nodes[up] from aR9 hup]; exact List.getElem_mem hup)).1
 obtain ⟨xn, hxn⟩ : ∃ xn, xn = bs nm := ⟨_, rfl⟩
 have hxl : xn.data.toList = nm := by rw [hxn]; exact aY9 _
 have HAT : Hid (atE (aC9 f.nodes up).list xn.data.toList = (nd : Int)) := qhZ (by rw [hxl]; exact hat)
 rw [← hxn]
 have HXN := qhZ hxn
 clear hcc4 hee4 hxl hat hle
 have HTK := qhZ (fun W (h : FsA W (.agg #[.slice (some ⟨g0, f0, none⟩) f.nodes.length c, .int .i64 f.room]) f) => l5Take_is f _ up nm nd t W h HS.out hup HNB.out hndl HATX.out HNF.out)
 rw [← hxn] at HTK
 clear hxn
 have hu0 : (0 : Int) ≤ (up : Int) := by omega
 have hu1 : (up : Int) < (f.nodes.length : Int) := by omega
 go_wp2_with fail
 refine (l3At_isA HAT.out HEE.out HLL.out).mono ?_
 rintro e w2 ⟨rfl, hb2⟩
 have HB2 := qhZ (HB1.out.trans (hb2.mono HB1.out.size))
 have KA2 := qhZ (aD9 hb2 KA1.out)
 have KB2 := qhZ (aD9 hb2 KB1.out)
 have KZ2 := qhZ (aD9 hb2 KZ1.out)
 clear hb2
 clear d6
 clear KA1c0 KA1c1
 have KA2c0 : w2.cell? ⟨w.heap.size, 0, none⟩ = some (.slice (some ⟨g0, f0, none⟩) f.nodes.length c) := aA9 KA2.out 0
 have KA2c1 : w2.cell? ⟨w.heap.size, 1, none⟩ = some (.int .i64 f.room) := aA9 KA2.out 1
 obtain ⟨g5, f5, lv5, e5, hcc5, hee5⟩ := bL9 (c := c) HH.out hndl HB2.out
 simp only [Option.some.injEq, Addr.mk.injEq, and_true] at e5
 obtain ⟨rfl, rfl⟩ := e5
 obtain ⟨on, cn, rfl, -, -⟩ := id hee5
 obtain ⟨q0, q1, q2, q3, q4, q5, q6⟩ := hcc5
 obtain ⟨kd, hkd⟩ : ∃ kd, kd = (aC9 f.nodes nd).kind := ⟨_, rfl⟩
 obtain ⟨md, hmd⟩ : ∃ md, md = (aC9 f.nodes nd).mode := ⟨_, rfl⟩
 obtain ⟨ui, hui⟩ : ∃ ui, ui = (aC9 f.nodes nd).uid := ⟨_, rfl⟩
 obtain ⟨gi, hgi⟩ : ∃ gi, gi = (aC9 f.nodes nd).gid := ⟨_, rfl⟩
 obtain ⟨ti, hti⟩ : ∃ ti, ti = (aC9 f.nodes nd).time := ⟨_, rfl⟩
 obtain ⟨xd, hxd⟩ : ∃ xd, xd = bs (aC9 f.nodes nd).data := ⟨_, rfl⟩
 obtain ⟨ln, hln⟩ : ∃ ln, ln = (aC9 f.nodes nd).list.length := ⟨_, rfl⟩
 rw [← hkd] at q0 hkk
 rw [← hmd] at q1
 rw [← hui] at q2
 rw [← hgi] at q3
 rw [← hti] at q4
 rw [← hxd] at q5
 rw [← hln] at q6
 have hk2 : kd = 2 := hkk
 subst hk2
 have hl0 : ln = 0 := by omega
 subst hl0
 have hn0 : (0 : Int) ≤ (nd : Int) := by omega
 have hn1 : (nd : Int) < (f.nodes.length : Int) := by omega
 have hyb : ¬ ((nd : Int) < 0) := by omega
 obtain ⟨w3, hw3⟩ : ∃ w3, w3 = w2.alloc (.cells #[.int .i64 2, .int .i64 md, .int .i64 ui, .int .i64 gi, .int .i64 ti, .string xd, .slice on 0 cn] 55) := ⟨_, rfl⟩
 have hb3 : Below w2.heap.size w2 w3 := by rw [hw3]; exact (Below.refl _ w2).alloc (Nat.le_refl _) _
 have KX3 : Hid (w3.heap[w2.heap.size]? = some (.cells #[.int .i64 2, .int .i64 md, .int .i64 ui, .int .i64 gi, .int .i64 ti, .string xd, .slice on 0 cn] 55)) := qhZ (by rw [hw3]; exact heap_alloc_new w2 _)
 have HW3 := qhZ hw3
 have HB3 := qhZ (HB2.out.trans (hb3.mono HB2.out.size))
 have KA3 := qhZ (aD9 hb3 KA2.out)
 have KB3 := qhZ (aD9 hb3 KB2.out)
 have KZ3 := qhZ (aD9 hb3 KZ2.out)
 clear hb3
 clear hkd hmd hui hgi hti hxd hln hee5 hw3
 go_upto_region 8 with fail
 rw [← HW3.out]
 clear q0 q1 q2 q3 q4 q5 q6
 clear KA2c0 KA2c1
 have X30 : w3.cell? ⟨w2.heap.size, 0, none⟩ = some (.int .i64 2) := (aA9 KX3.out 0).trans rfl
 have X36 : w3.cell? ⟨w2.heap.size, 6, none⟩ = some (.slice on 0 cn) := (aA9 KX3.out 6).trans rfl
 have KA3c0 : w3.cell? ⟨w.heap.size, 0, none⟩ = some (.slice (some ⟨g0, f0, none⟩) f.nodes.length c) := aA9 KA3.out 0
 have KA3c1 : w3.cell? ⟨w.heap.size, 1, none⟩ = some (.int .i64 f.room) := aA9 KA3.out 1
 have KB3c0 : w3.cell? ⟨w.heap.size + 1, 0, none⟩ = some (.int .i64 u) := aA9 KB3.out 0
 have KB3c1 : w3.cell? ⟨w.heap.size + 1, 1, none⟩ = some (.int .i64 g) := aA9 KB3.out 1
 go_wp2_with fail
 refine (l5Change_is HMB.out (HR.out.below HB3.out) hup HMO.out hl).mono ?_
 rintro e w4 ⟨rfl, hb4⟩
 have HB4 := qhZ (HB3.out.trans (hb4.mono HB3.out.size))
 have KA4 := qhZ (aD9 hb4 KA3.out)
 have KB4 := qhZ (aD9 hb4 KB3.out)
 have KZ4 := qhZ (aD9 hb4 KZ3.out)
 clear hb4
 clear KA3c0 KA3c1 KB3c0 KB3c1
 have KA4c0 : w4.cell? ⟨w.heap.size, 0, none⟩ = some (.slice (some ⟨g0, f0, none⟩) f.nodes.length c) := aA9 KA4.out 0
 have KA4c1 : w4.cell? ⟨w.heap.size, 1, none⟩ = some (.int .i64 f.room) := aA9 KA4.out 1
 have KZ4c0 : w4.cell? ⟨w.heap.size + 2, 0, none⟩ = some (.slice none 0 0) := aA9 KZ4.out 0
 have KZ4c1 : w4.cell? ⟨w.heap.size + 2, 1, none⟩ = some (.int .i64 0) := aA9 KZ4.out 1
 have KZ4f := aE9 KZ4.out
 clear X30 X36
 go_wp2_with fail
 refine (HTK.out _ (HR.out.below HB4.out)).mono ?_
 rintro e w5 ⟨nv5, ps5, rfl, hp5, hO5, hb5⟩
 have HB5 := qhZ (HB4.out.trans (hb5.mono HB4.out.size))
 have KA5 := qhZ (aD9 hb5 KA4.out)
 have KB5 := qhZ (aD9 hb5 KB4.out)
 have KZ5 := qhZ (aD9 hb5 KZ4.out)
 clear hb5
 clear KA4c0 KA4c1 KZ4c0 KZ4c1 KZ4f
 have KZ5c0 : w5.cell? ⟨w.heap.size + 2, 0, none⟩ = some (.slice none 0 0) := aA9 KZ5.out 0
 have KZ5c1 : w5.cell? ⟨w.heap.size + 2, 1, none⟩ = some (.int .i64 0) := aA9 KZ5.out 1
 have KZ5f := aE9 KZ5.out
 obtain ⟨oo5, cc5, rfl, -⟩ := aM9 hO5.row
 have HP5 := qhZ hp5
 have HO5 := qhZ hO5
 have hw4 : w.heap.size + 2 < w4.heap.size := aB9 KZ4.out
 clear hp5 hO5
 go_wp2
 have hq := bG9 KZ5.out (.slice oo5 ps5.length cc5) (.int .i64 f.room)
 have t0 := (aA9 hq 0).trans rfl
 have t1 := (aA9 hq 1).trans rfl
 refine bodyPost_ret (v := .tuple #[.agg #[.slice oo5 ps5.length cc5, .int .i64 f.room], .int .i64 0]) (by simp [results, Tryz.results48, go_sem, t0, t1]) rfl ?_
 have hB9 := aP9 (G := w.heap.size + 2) (x := (.slice oo5 ps5.length cc5)) (y := .int .i64 f.room) HB5.out (by omega)
 have hA9 := ((HO5.out.besides (b := w.heap.size + 2) hw4 0 (.slice oo5 ps5.length cc5)).besides (b := w.heap.size + 2) hw4 1 (.int .i64 f.room)).read (takFs f up nm t).room (by rw [HP5.out]; exact takFs_fit hup HNF.out)
 rw [HP5.out, takFs_room] at hA9
 have hA8 : FsA (((w5.setCell ⟨w.heap.size + 2, 0, none⟩ (.slice oo5 ps5.length cc5)).setCell ⟨w.heap.size + 2, 1, none⟩ (.int .i64 f.room))) (.agg #[.slice oo5 ps5.length cc5, .int .i64 f.room]) (takFs f up nm t) := by
   have e7 : (takFs f up nm t) = ⟨(takFs f up nm t).nodes, f.room⟩ := by rw [← takFs_room f up nm t]
   rw [e7]; exact hA9
 first
   | exact ⟨_, rfl, hA8, hB9⟩
   | exact ⟨rfl, hA8, hB9⟩
set_option maxRecDepth 100000 in
theorem l5Cut_Df (f : FsD) (v : Value) (u g : Int) (s : ByteArray) (t : Int) (w : World) (hR : FsA w v f) (hs : szF f ≤ 1048576) (hk : bC9 f u g = true) (hss : s.size ≤ 1048576) (up : Nat) (nm : List UInt8) (hfp : fp0 f.nodes u g s.data.toList = (0, up, nm)) (hup : up < f.nodes.length) (nd : Nat) (hat : atE (aC9 f.nodes up).list nm = (nd : Int)) (hndl : nd < f.nodes.length) (hkk : (aC9 f.nodes nd).kind ≠ 2) (hll : 0 < (aC9 f.nodes nd).list.length) :
   Calls Tryz.prog 48 #[v, .agg #[.int .i64 u, .int .i64 g], .string s, .bool false, .int .i64 t] w fun e w' => ∃ v', e = .returned (.tuple #[v', .int .i64 9]) ∧ FsA w' v' f ∧ Below w.heap.size w w' := by
 have HR := qhZ hR
 obtain ⟨nv, rfl, hN⟩ := hR
 obtain ⟨o, c, rfl, hm, hH⟩ := hN
 have hpos : 0 < f.nodes.length := good_pos (bN9 hk)
 obtain ⟨g0, f0, lv0, rfl, -⟩ := hH 0 hpos
 have HH := qhZ hH
 have HS := qhZ hs
 have HK := qhZ hk
 have HSS := qhZ hss
 have hl : f.nodes.length ≤ 1048576 := (aG9 hs).1
 have HB0 : Hid (Below w.heap.size w (((w.alloc (.cells #[.slice (some ⟨g0, f0, none⟩) f.nodes.length c, .int .i64 f.room] 30)).alloc (.cells #[.int .i64 u, .int .i64 g] 34)).alloc (.cells #[.slice none 0 0, .int .i64 0] 30))) := qhZ ((((Below.refl _ _).alloc (Nat.le_refl _) _).alloc (by simp) _).alloc (by simp; omega) _)
 have KA0 := qhZ (m3_0 w (.cells #[.slice (some ⟨g0, f0, none⟩) f.nodes.length c, .int .i64 f.room] 30) (.cells #[.int .i64 u, .int .i64 g] 34) (.cells #[.slice none 0 0, .int .i64 0] 30))
 have KB0 := qhZ (m3_1 w (.cells #[.slice (some ⟨g0, f0, none⟩) f.nodes.length c, .int .i64 f.room] 30) (.cells #[.int .i64 u, .int .i64 g] 34) (.cells #[.slice none 0 0, .int .i64 0] 30))
 have KZ0 := qhZ (m3_2 w (.cells #[.slice (some ⟨g0, f0, none⟩) f.nodes.length c, .int .i64 f.room] 30) (.cells #[.int .i64 u, .int .i64 g] 34) (.cells #[.slice none 0 0, .int .i64 0] 30))
 have HFP := qhZ hfp
 clear hH hs hk hss hm hfp
 go_enter Tryz.func48, Tryz.ntmps48
 go_wp2_with fail
 refine (l4Place_is HFP.out (HR.out.below HB0.out) HS.out HK.out HSS.out).mono ?_
 rintro e w1 ⟨rfl, hb1⟩
 have HB1 := qhZ (HB0.out.trans (hb1.mono HB0.out.size))
 have KA1 := qhZ (aD9 hb1 KA0.out)
 have KB1 := qhZ (aD9 hb1 KB0.out)
 have KZ1 := qhZ (aD9 hb1 KZ0.out)
 clear hb1
 have KA1c0 : w1.cell? ⟨w.heap.size, 0, none⟩ = some (.slice (some ⟨g0, f0, none⟩) f.nodes.length c) := aA9 KA1.out 0
 have KA1c1 : w1.cell? ⟨w.heap.size, 1, none⟩ = some (.int .i64 f.room) := aA9 KA1.out 1
 obtain ⟨g4, f4, lv4, e4, hcc4, hee4⟩ := bL9 (c := c) HH.out hup HB1.out
 have d6 := hcc4.c6
 simp only [Option.some.injEq, Addr.mk.injEq, and_true] at e4
 obtain ⟨rfl, rfl⟩ := e4
 obtain ⟨oe, ce, rfl, hle, -⟩ := id hee4
 have HEE := qhZ hee4
 have HLL : Hid ((aC9 f.nodes up).list.length ≤ 1048576) := qhZ ((aG9 HS.out).2 (aC9 f.nodes up) (by rw [show aC9 f.nodes up = f.nodes[up] from aR9 hup]; exact List.getElem_mem hup)).1
 obtain ⟨xn, hxn⟩ : ∃ xn, xn = bs nm := ⟨_, rfl⟩
 have hxl : xn.data.toList = nm := by rw [hxn]; exact aY9 _
 have HAT : Hid (atE (aC9 f.nodes up).list xn.data.toList = (nd : Int)) := qhZ (by rw [hxl]; exact hat)
 rw [← hxn]
 have HXN := qhZ hxn
 clear hcc4 hee4 hxl hat hle
 clear hxn
 have hu0 : (0 : Int) ≤ (up : Int) := by omega
 have hu1 : (up : Int) < (f.nodes.length : Int) := by omega
 go_wp2_with fail
 refine (l3At_isA HAT.out HEE.out HLL.out).mono ?_
 rintro e w2 ⟨rfl, hb2⟩
 have HB2 := qhZ (HB1.out.trans (hb2.mono HB1.out.size))
 have KA2 := qhZ (aD9 hb2 KA1.out)
 have KB2 := qhZ (aD9 hb2 KB1.out)
 have KZ2 := qhZ (aD9 hb2 KZ1.out)
 clear hb2
 clear d6
 clear KA1c0 KA1c1
 have KA2c0 : w2.cell? ⟨w.heap.size, 0, none⟩ = some (.slice (some ⟨g0, f0, none⟩) f.nodes.length c) := aA9 KA2.out 0
 have KA2c1 : w2.cell? ⟨w.heap.size, 1, none⟩ = some (.int .i64 f.room) := aA9 KA2.out 1
 obtain ⟨g5, f5, lv5, e5, hcc5, hee5⟩ := bL9 (c := c) HH.out hndl HB2.out
 simp only [Option.some.injEq, Addr.mk.injEq, and_true] at e5
 obtain ⟨rfl, rfl⟩ := e5
 obtain ⟨on, cn, rfl, -, -⟩ := id hee5
 obtain ⟨q0, q1, q2, q3, q4, q5, q6⟩ := hcc5
 obtain ⟨kd, hkd⟩ : ∃ kd, kd = (aC9 f.nodes nd).kind := ⟨_, rfl⟩
 obtain ⟨md, hmd⟩ : ∃ md, md = (aC9 f.nodes nd).mode := ⟨_, rfl⟩
 obtain ⟨ui, hui⟩ : ∃ ui, ui = (aC9 f.nodes nd).uid := ⟨_, rfl⟩
 obtain ⟨gi, hgi⟩ : ∃ gi, gi = (aC9 f.nodes nd).gid := ⟨_, rfl⟩
 obtain ⟨ti, hti⟩ : ∃ ti, ti = (aC9 f.nodes nd).time := ⟨_, rfl⟩
 obtain ⟨xd, hxd⟩ : ∃ xd, xd = bs (aC9 f.nodes nd).data := ⟨_, rfl⟩
 obtain ⟨ln, hln⟩ : ∃ ln, ln = (aC9 f.nodes nd).list.length := ⟨_, rfl⟩
 rw [← hkd] at q0 hkk
 rw [← hmd] at q1
 rw [← hui] at q2
 rw [← hgi] at q3
 rw [← hti] at q4
 rw [← hxd] at q5
 rw [← hln] at q6
 have zb : (kd == 2) = false := by simpa using hkk
 have hl0 : (0 : Int) < (ln : Int) := by omega
 have hn0 : (0 : Int) ≤ (nd : Int) := by omega
 have hn1 : (nd : Int) < (f.nodes.length : Int) := by omega
 have hyb : ¬ ((nd : Int) < 0) := by omega
 obtain ⟨w3, hw3⟩ : ∃ w3, w3 = w2.alloc (.cells #[.int .i64 kd, .int .i64 md, .int .i64 ui, .int .i64 gi, .int .i64 ti, .string xd, .slice on ln cn] 55) := ⟨_, rfl⟩
 have hb3 : Below w2.heap.size w2 w3 := by rw [hw3]; exact (Below.refl _ w2).alloc (Nat.le_refl _) _
 have KX3 : Hid (w3.heap[w2.heap.size]? = some (.cells #[.int .i64 kd, .int .i64 md, .int .i64 ui, .int .i64 gi, .int .i64 ti, .string xd, .slice on ln cn] 55)) := qhZ (by rw [hw3]; exact heap_alloc_new w2 _)
 have HW3 := qhZ hw3
 have HB3 := qhZ (HB2.out.trans (hb3.mono HB2.out.size))
 have KA3 := qhZ (aD9 hb3 KA2.out)
 have KB3 := qhZ (aD9 hb3 KB2.out)
 have KZ3 := qhZ (aD9 hb3 KZ2.out)
 clear hb3
 clear hkd hmd hui hgi hti hxd hln hee5 hw3
 go_upto_region 8 with fail
 rw [← HW3.out]
 clear q0 q1 q2 q3 q4 q5 q6
 clear KA2c0 KA2c1
 have X30 : w3.cell? ⟨w2.heap.size, 0, none⟩ = some (.int .i64 kd) := (aA9 KX3.out 0).trans rfl
 have X36 : w3.cell? ⟨w2.heap.size, 6, none⟩ = some (.slice on ln cn) := (aA9 KX3.out 6).trans rfl
 have KA3c0 : w3.cell? ⟨w.heap.size, 0, none⟩ = some (.slice (some ⟨g0, f0, none⟩) f.nodes.length c) := aA9 KA3.out 0
 have KA3c1 : w3.cell? ⟨w.heap.size, 1, none⟩ = some (.int .i64 f.room) := aA9 KA3.out 1
 have KZ3c0 : w3.cell? ⟨w.heap.size + 2, 0, none⟩ = some (.slice none 0 0) := aA9 KZ3.out 0
 have KZ3c1 : w3.cell? ⟨w.heap.size + 2, 1, none⟩ = some (.int .i64 0) := aA9 KZ3.out 1
 have KZ3f := aE9 KZ3.out
 have hq := bG9 KZ3.out (.slice (some ⟨g0, f0, none⟩) f.nodes.length c) (.int .i64 f.room)
 have t0 := (aA9 hq 0).trans rfl
 have t1 := (aA9 hq 1).trans rfl
 go_wp2
 refine bodyPost_ret (v := .tuple #[.agg #[.slice (some ⟨g0, f0, none⟩) f.nodes.length c, .int .i64 f.room], .int .i64 9]) (by simp [results, Tryz.results48, go_sem, t0, t1]) rfl ?_
 have hB9 := aP9 (G := w.heap.size + 2) (x := (.slice (some ⟨g0, f0, none⟩) f.nodes.length c)) (y := .int .i64 f.room) HB3.out (by omega)
 first
   | exact ⟨_, rfl, HR.out.below hB9, hB9⟩
   | exact ⟨rfl, HR.out.below hB9, hB9⟩
set_option maxRecDepth 100000 in
theorem l5Cut_Ef (f : FsD) (v : Value) (u g : Int) (s : ByteArray) (t : Int) (w : World) (hR : FsA w v f) (hs : szF f ≤ 1048576) (hk : bC9 f u g = true) (hss : s.size ≤ 1048576) (up : Nat) (nm : List UInt8) (hfp : fp0 f.nodes u g s.data.toList = (0, up, nm)) (hup : up < f.nodes.length) (nd : Nat) (hat : atE (aC9 f.nodes up).list nm = (nd : Int)) (hndl : nd < f.nodes.length) (hkk : (aC9 f.nodes nd).kind ≠ 2) (hll : (aC9 f.nodes nd).list.length = 0) (hmo : inB 0 511 (aC9 f.nodes up).mode = true) (hmb : mayB u g (aC9 f.nodes up).mode (aC9 f.nodes up).uid (aC9 f.nodes up).gid 3 = false) :
   Calls Tryz.prog 48 #[v, .agg #[.int .i64 u, .int .i64 g], .string s, .bool false, .int .i64 t] w fun e w' => ∃ v', e = .returned (.tuple #[v', .int .i64 4]) ∧ FsA w' v' f ∧ Below w.heap.size w w' := by
 have HR := qhZ hR
 obtain ⟨nv, rfl, hN⟩ := hR
 obtain ⟨o, c, rfl, hm, hH⟩ := hN
 have hpos : 0 < f.nodes.length := good_pos (bN9 hk)
 obtain ⟨g0, f0, lv0, rfl, -⟩ := hH 0 hpos
 have HH := qhZ hH
 have HS := qhZ hs
 have HK := qhZ hk
 have HSS := qhZ hss
 have hl : f.nodes.length ≤ 1048576 := (aG9 hs).1
 have HB0 : Hid (Below w.heap.size w (((w.alloc (.cells #[.slice (some ⟨g0, f0, none⟩) f.nodes.length c, .int .i64 f.room] 30)).alloc (.cells #[.int .i64 u, .int .i64 g] 34)).alloc (.cells #[.slice none 0 0, .int .i64 0] 30))) := qhZ ((((Below.refl _ _).alloc (Nat.le_refl _) _).alloc (by simp) _).alloc (by simp; omega) _)
 have KA0 := qhZ (m3_0 w (.cells #[.slice (some ⟨g0, f0, none⟩) f.nodes.length c, .int .i64 f.room] 30) (.cells #[.int .i64 u, .int .i64 g] 34) (.cells #[.slice none 0 0, .int .i64 0] 30))
 have KB0 := qhZ (m3_1 w (.cells #[.slice (some ⟨g0, f0, none⟩) f.nodes.length c, .int .i64 f.room] 30) (.cells #[.int .i64 u, .int .i64 g] 34) (.cells #[.slice none 0 0, .int .i64 0] 30))
 have KZ0 := qhZ (m3_2 w (.cells #[.slice (some ⟨g0, f0, none⟩) f.nodes.length c, .int .i64 f.room] 30) (.cells #[.int .i64 u, .int .i64 g] 34) (.cells #[.slice none 0 0, .int .i64 0] 30))
 have HFP := qhZ hfp
 have HMO := qhZ hmo
 have HMB := qhZ hmb
 clear hmo hmb
 clear hH hs hk hss hm hfp
 go_enter Tryz.func48, Tryz.ntmps48
 go_wp2_with fail
 refine (l4Place_is HFP.out (HR.out.below HB0.out) HS.out HK.out HSS.out).mono ?_
 rintro e w1 ⟨rfl, hb1⟩
 have HB1 := qhZ (HB0.out.trans (hb1.mono HB0.out.size))
 have KA1 := qhZ (aD9 hb1 KA0.out)
 have KB1 := qhZ (aD9 hb1 KB0.out)
 have KZ1 := qhZ (aD9 hb1 KZ0.out)
 clear hb1
 have KA1c0 : w1.cell? ⟨w.heap.size, 0, none⟩ = some (.slice (some ⟨g0, f0, none⟩) f.nodes.length c) := aA9 KA1.out 0
 have KA1c1 : w1.cell? ⟨w.heap.size, 1, none⟩ = some (.int .i64 f.room) := aA9 KA1.out 1
 obtain ⟨g4, f4, lv4, e4, hcc4, hee4⟩ := bL9 (c := c) HH.out hup HB1.out
 have d6 := hcc4.c6
 simp only [Option.some.injEq, Addr.mk.injEq, and_true] at e4
 obtain ⟨rfl, rfl⟩ := e4
 obtain ⟨oe, ce, rfl, hle, -⟩ := id hee4
 have HEE := qhZ hee4
 have HLL : Hid ((aC9 f.nodes up).list.length ≤ 1048576) := qhZ ((aG9 HS.out).2 (aC9 f.nodes up) (by rw [show aC9 f.nodes up = f.nodes[up] from aR9 hup]; exact List.getElem_mem hup)).1
 obtain ⟨xn, hxn⟩ : ∃ xn, xn = bs nm := ⟨_, rfl⟩
 have hxl : xn.data.toList = nm := by rw [hxn]; exact aY9 _
 have HAT : Hid (atE (aC9 f.nodes up).list xn.data.toList = (nd : Int)) := qhZ (by rw [hxl]; exact hat)
 rw [← hxn]
 have HXN := qhZ hxn
 clear hcc4 hee4 hxl hat hle
 clear hxn
 have hu0 : (0 : Int) ≤ (up : Int) := by omega
 have hu1 : (up : Int) < (f.nodes.length : Int) := by omega
 go_wp2_with fail
 refine (l3At_isA HAT.out HEE.out HLL.out).mono ?_
 rintro e w2 ⟨rfl, hb2⟩
 have HB2 := qhZ (HB1.out.trans (hb2.mono HB1.out.size))
 have KA2 := qhZ (aD9 hb2 KA1.out)
 have KB2 := qhZ (aD9 hb2 KB1.out)
 have KZ2 := qhZ (aD9 hb2 KZ1.out)
 clear hb2
 clear d6
 clear KA1c0 KA1c1
 have KA2c0 : w2.cell? ⟨w.heap.size, 0, none⟩ = some (.slice (some ⟨g0, f0, none⟩) f.nodes.length c) := aA9 KA2.out 0
 have KA2c1 : w2.cell? ⟨w.heap.size, 1, none⟩ = some (.int .i64 f.room) := aA9 KA2.out 1
 obtain ⟨g5, f5, lv5, e5, hcc5, hee5⟩ := bL9 (c := c) HH.out hndl HB2.out
 simp only [Option.some.injEq, Addr.mk.injEq, and_true] at e5
 obtain ⟨rfl, rfl⟩ := e5
 obtain ⟨on, cn, rfl, -, -⟩ := id hee5
 obtain ⟨q0, q1, q2, q3, q4, q5, q6⟩ := hcc5
 obtain ⟨kd, hkd⟩ : ∃ kd, kd = (aC9 f.nodes nd).kind := ⟨_, rfl⟩
 obtain ⟨md, hmd⟩ : ∃ md, md = (aC9 f.nodes nd).mode := ⟨_, rfl⟩
 obtain ⟨ui, hui⟩ : ∃ ui, ui = (aC9 f.nodes nd).uid := ⟨_, rfl⟩
 obtain ⟨gi, hgi⟩ : ∃ gi, gi = (aC9 f.nodes nd).gid := ⟨_, rfl⟩
 obtain ⟨ti, hti⟩ : ∃ ti, ti = (aC9 f.nodes nd).time := ⟨_, rfl⟩
 obtain ⟨xd, hxd⟩ : ∃ xd, xd = bs (aC9 f.nodes nd).data := ⟨_, rfl⟩
 obtain ⟨ln, hln⟩ : ∃ ln, ln = (aC9 f.nodes nd).list.length := ⟨_, rfl⟩
 rw [← hkd] at q0 hkk
 rw [← hmd] at q1
 rw [← hui] at q2
 rw [← hgi] at q3
 rw [← hti] at q4
 rw [← hxd] at q5
 rw [← hln] at q6
 have zb : (kd == 2) = false := by simpa using hkk
 have hl0 : ln = 0 := by omega
 subst hl0
 have hn0 : (0 : Int) ≤ (nd : Int) := by omega
 have hn1 : (nd : Int) < (f.nodes.length : Int) := by omega
 have hyb : ¬ ((nd : Int) < 0) := by omega
 obtain ⟨w3, hw3⟩ : ∃ w3, w3 = w2.alloc (.cells #[.int .i64 kd, .int .i64 md, .int .i64 ui, .int .i64 gi, .int .i64 ti, .string xd, .slice on 0 cn] 55) := ⟨_, rfl⟩
 have hb3 : Below w2.heap.size w2 w3 := by rw [hw3]; exact (Below.refl _ w2).alloc (Nat.le_refl _) _
 have KX3 : Hid (w3.heap[w2.heap.size]? = some (.cells #[.int .i64 kd, .int .i64 md, .int .i64 ui, .int .i64 gi, .int .i64 ti, .string xd, .slice on 0 cn] 55)) := qhZ (by rw [hw3]; exact heap_alloc_new w2 _)
 have HW3 := qhZ hw3
 have HB3 := qhZ (HB2.out.trans (hb3.mono HB2.out.size))
 have KA3 := qhZ (aD9 hb3 KA2.out)
 have KB3 := qhZ (aD9 hb3 KB2.out)
 have KZ3 := qhZ (aD9 hb3 KZ2.out)
 clear hb3
 clear hkd hmd hui hgi hti hxd hln hee5 hw3
 go_upto_region 8 with fail
 rw [← HW3.out]
 clear q0 q1 q2 q3 q4 q5 q6
 clear KA2c0 KA2c1
 have X30 : w3.cell? ⟨w2.heap.size, 0, none⟩ = some (.int .i64 kd) := (aA9 KX3.out 0).trans rfl
 have X36 : w3.cell? ⟨w2.heap.size, 6, none⟩ = some (.slice on 0 cn) := (aA9 KX3.out 6).trans rfl
 have KA3c0 : w3.cell? ⟨w.heap.size, 0, none⟩ = some (.slice (some ⟨g0, f0, none⟩) f.nodes.length c) := aA9 KA3.out 0
 have KA3c1 : w3.cell? ⟨w.heap.size, 1, none⟩ = some (.int .i64 f.room) := aA9 KA3.out 1
 have KB3c0 : w3.cell? ⟨w.heap.size + 1, 0, none⟩ = some (.int .i64 u) := aA9 KB3.out 0
 have KB3c1 : w3.cell? ⟨w.heap.size + 1, 1, none⟩ = some (.int .i64 g) := aA9 KB3.out 1
 go_wp2_with fail
 refine (l5Change_is HMB.out (HR.out.below HB3.out) hup HMO.out hl).mono ?_
 rintro e w4 ⟨rfl, hb4⟩
 have HB4 := qhZ (HB3.out.trans (hb4.mono HB3.out.size))
 have KA4 := qhZ (aD9 hb4 KA3.out)
 have KB4 := qhZ (aD9 hb4 KB3.out)
 have KZ4 := qhZ (aD9 hb4 KZ3.out)
 clear hb4
 clear KA3c0 KA3c1 KB3c0 KB3c1
 have KA4c0 : w4.cell? ⟨w.heap.size, 0, none⟩ = some (.slice (some ⟨g0, f0, none⟩) f.nodes.length c) := aA9 KA4.out 0
 have KA4c1 : w4.cell? ⟨w.heap.size, 1, none⟩ = some (.int .i64 f.room) := aA9 KA4.out 1
 have KZ4c0 : w4.cell? ⟨w.heap.size + 2, 0, none⟩ = some (.slice none 0 0) := aA9 KZ4.out 0
 have KZ4c1 : w4.cell? ⟨w.heap.size + 2, 1, none⟩ = some (.int .i64 0) := aA9 KZ4.out 1
 have KZ4f := aE9 KZ4.out
 clear X30 X36
 have hq := bG9 KZ4.out (.slice (some ⟨g0, f0, none⟩) f.nodes.length c) (.int .i64 f.room)
 have t0 := (aA9 hq 0).trans rfl
 have t1 := (aA9 hq 1).trans rfl
 go_wp2
 refine bodyPost_ret (v := .tuple #[.agg #[.slice (some ⟨g0, f0, none⟩) f.nodes.length c, .int .i64 f.room], .int .i64 4]) (by simp [results, Tryz.results48, go_sem, t0, t1]) rfl ?_
 have hB9 := aP9 (G := w.heap.size + 2) (x := (.slice (some ⟨g0, f0, none⟩) f.nodes.length c)) (y := .int .i64 f.room) HB4.out (by omega)
 first
   | exact ⟨_, rfl, HR.out.below hB9, hB9⟩
   | exact ⟨rfl, HR.out.below hB9, hB9⟩
set_option maxRecDepth 100000 in
theorem l5Cut_Ff (f : FsD) (v : Value) (u g : Int) (s : ByteArray) (t : Int) (w : World) (hR : FsA w v f) (hs : szF f ≤ 1048576) (hk : bC9 f u g = true) (hss : s.size ≤ 1048576) (up : Nat) (nm : List UInt8) (hfp : fp0 f.nodes u g s.data.toList = (0, up, nm)) (hup : up < f.nodes.length) (nd : Nat) (hat : atE (aC9 f.nodes up).list nm = (nd : Int)) (hndl : nd < f.nodes.length) (hkk : (aC9 f.nodes nd).kind ≠ 2) (hll : (aC9 f.nodes nd).list.length = 0) (hmo : inB 0 511 (aC9 f.nodes up).mode = true) (hmb : mayB u g (aC9 f.nodes up).mode (aC9 f.nodes up).uid (aC9 f.nodes up).gid 3 = true) (hnb : nbN (aC9 f.nodes up).list nm = (nd : Int)) (hnf : aV9 f.nodes) :
   Calls Tryz.prog 48 #[v, .agg #[.int .i64 u, .int .i64 g], .string s, .bool false, .int .i64 t] w fun e w' => ∃ v', e = .returned (.tuple #[v', .int .i64 0]) ∧ FsA w' v' (takFs f up nm t) ∧ Below w.heap.size w w' := by
 have HR := qhZ hR
 obtain ⟨nv, rfl, hN⟩ := hR
 obtain ⟨o, c, rfl, hm, hH⟩ := hN
 have hpos : 0 < f.nodes.length := good_pos (bN9 hk)
 obtain ⟨g0, f0, lv0, rfl, -⟩ := hH 0 hpos
 have HH := qhZ hH
 have HS := qhZ hs
 have HK := qhZ hk
 have HSS := qhZ hss
 have hl : f.nodes.length ≤ 1048576 := (aG9 hs).1
 have HB0 : Hid (Below w.heap.size w (((w.alloc (.cells #[.slice (some ⟨g0, f0, none⟩) f.nodes.length c, .int .i64 f.room] 30)).alloc (.cells #[.int .i64 u, .int .i64 g] 34)).alloc (.cells #[.slice none 0 0, .int .i64 0] 30))) := qhZ ((((Below.refl _ _).alloc (Nat.le_refl _) _).alloc (by simp) _).alloc (by simp; omega) _)
 have KA0 := qhZ (m3_0 w (.cells #[.slice (some ⟨g0, f0, none⟩) f.nodes.length c, .int .i64 f.room] 30) (.cells #[.int .i64 u, .int .i64 g] 34) (.cells #[.slice none 0 0, .int .i64 0] 30))
 have KB0 := qhZ (m3_1 w (.cells #[.slice (some ⟨g0, f0, none⟩) f.nodes.length c, .int .i64 f.room] 30) (.cells #[.int .i64 u, .int .i64 g] 34) (.cells #[.slice none 0 0, .int .i64 0] 30))
 have KZ0 := qhZ (m3_2 w (.cells #[.slice (some ⟨g0, f0, none⟩) f.nodes.length c, .int .i64 f.room] 30) (.cells #[.int .i64 u, .int .i64 g] 34) (.cells #[.slice none 0 0, .int .i64 0] 30))
 have HFP := qhZ hfp
 have HMO := qhZ hmo
 have HMB := qhZ hmb
 clear hmo hmb
 have HNB := qhZ hnb
 have HNF := qhZ hnf
 have HATX := qhZ hat
 clear hnb hnf
 clear hH hs hk hss hm hfp
 go_enter Tryz.func48, Tryz.ntmps48
 go_wp2_with fail
 refine (l4Place_is HFP.out (HR.out.below HB0.out) HS.out HK.out HSS.out).mono ?_
 rintro e w1 ⟨rfl, hb1⟩
 have HB1 := qhZ (HB0.out.trans (hb1.mono HB0.out.size))
 have KA1 := qhZ (aD9 hb1 KA0.out)
 have KB1 := qhZ (aD9 hb1 KB0.out)
 have KZ1 := qhZ (aD9 hb1 KZ0.out)
 clear hb1
 have KA1c0 : w1.cell? ⟨w.heap.size, 0, none⟩ = some (.slice (some ⟨g0, f0, none⟩) f.nodes.length c) := aA9 KA1.out 0
 have KA1c1 : w1.cell? ⟨w.heap.size, 1, none⟩ = some (.int .i64 f.room) := aA9 KA1.out 1
 obtain ⟨g4, f4, lv4, e4, hcc4, hee4⟩ := bL9 (c := c) HH.out hup HB1.out
 have d6 := hcc4.c6
 simp only [Option.some.injEq, Addr.mk.injEq, and_true] at e4
 obtain ⟨rfl, rfl⟩ := e4
 obtain ⟨oe, ce, rfl, hle, -⟩ := id hee4
 have HEE := qhZ hee4
 have HLL : Hid ((aC9 f.nodes up).list.length ≤ 1048576) := qhZ ((aG9 HS.out).2 (aC9 f.nodes up) (by rw [show aC9 f.nodes up = f.nodes[up] from aR9 hup]; exact List.getElem_mem hup)).1
 obtain ⟨xn, hxn⟩ : ∃ xn, xn = bs nm := ⟨_, rfl⟩
 have hxl : xn.data.toList = nm := by rw [hxn]; exact aY9 _
 have HAT : Hid (atE (aC9 f.nodes up).list xn.data.toList = (nd : Int)) := qhZ (by rw [hxl]; exact hat)
 rw [← hxn]
 have HXN := qhZ hxn
 clear hcc4 hee4 hxl hat hle
 have HTK := qhZ (fun W (h : FsA W (.agg #[.slice (some ⟨g0, f0, none⟩) f.nodes.length c, .int .i64 f.room]) f) => l5Take_is f _ up nm nd t W h HS.out hup HNB.out hndl HATX.out HNF.out)
 rw [← hxn] at HTK
 clear hxn
 have hu0 : (0 : Int) ≤ (up : Int) := by omega
 have hu1 : (up : Int) < (f.nodes.length : Int) := by omega
 go_wp2_with fail
 refine (l3At_isA HAT.out HEE.out HLL.out).mono ?_
 rintro e w2 ⟨rfl, hb2⟩
 have HB2 := qhZ (HB1.out.trans (hb2.mono HB1.out.size))
 have KA2 := qhZ (aD9 hb2 KA1.out)
 have KB2 := qhZ (aD9 hb2 KB1.out)
 have KZ2 := qhZ (aD9 hb2 KZ1.out)
 clear hb2
 clear d6
 clear KA1c0 KA1c1
 have KA2c0 : w2.cell? ⟨w.heap.size, 0, none⟩ = some (.slice (some ⟨g0, f0, none⟩) f.nodes.length c) := aA9 KA2.out 0
 have KA2c1 : w2.cell? ⟨w.heap.size, 1, none⟩ = some (.int .i64 f.room) := aA9 KA2.out 1
 obtain ⟨g5, f5, lv5, e5, hcc5, hee5⟩ := bL9 (c := c) HH.out hndl HB2.out
 simp only [Option.some.injEq, Addr.mk.injEq, and_true] at e5
 obtain ⟨rfl, rfl⟩ := e5
 obtain ⟨on, cn, rfl, -, -⟩ := id hee5
 obtain ⟨q0, q1, q2, q3, q4, q5, q6⟩ := hcc5
 obtain ⟨kd, hkd⟩ : ∃ kd, kd = (aC9 f.nodes nd).kind := ⟨_, rfl⟩
 obtain ⟨md, hmd⟩ : ∃ md, md = (aC9 f.nodes nd).mode := ⟨_, rfl⟩
 obtain ⟨ui, hui⟩ : ∃ ui, ui = (aC9 f.nodes nd).uid := ⟨_, rfl⟩
 obtain ⟨gi, hgi⟩ : ∃ gi, gi = (aC9 f.nodes nd).gid := ⟨_, rfl⟩
 obtain ⟨ti, hti⟩ : ∃ ti, ti = (aC9 f.nodes nd).time := ⟨_, rfl⟩
 obtain ⟨xd, hxd⟩ : ∃ xd, xd = bs (aC9 f.nodes nd).data := ⟨_, rfl⟩
 obtain ⟨ln, hln⟩ : ∃ ln, ln = (aC9 f.nodes nd).list.length := ⟨_, rfl⟩
 rw [← hkd] at q0 hkk
 rw [← hmd] at q1
 rw [← hui] at q2
 rw [← hgi] at q3
 rw [← hti] at q4
 rw [← hxd] at q5
 rw [← hln] at q6
 have zb : (kd == 2) = false := by simpa using hkk
 have hl0 : ln = 0 := by omega
 subst hl0
 have hn0 : (0 : Int) ≤ (nd : Int) := by omega
 have hn1 : (nd : Int) < (f.nodes.length : Int) := by omega
 have hyb : ¬ ((nd : Int) < 0) := by omega
 obtain ⟨w3, hw3⟩ : ∃ w3, w3 = w2.alloc (.cells #[.int .i64 kd, .int .i64 md, .int .i64 ui, .int .i64 gi, .int .i64 ti, .string xd, .slice on 0 cn] 55) := ⟨_, rfl⟩
 have hb3 : Below w2.heap.size w2 w3 := by rw [hw3]; exact (Below.refl _ w2).alloc (Nat.le_refl _) _
 have KX3 : Hid (w3.heap[w2.heap.size]? = some (.cells #[.int .i64 kd, .int .i64 md, .int .i64 ui, .int .i64 gi, .int .i64 ti, .string xd, .slice on 0 cn] 55)) := qhZ (by rw [hw3]; exact heap_alloc_new w2 _)
 have HW3 := qhZ hw3
 have HB3 := qhZ (HB2.out.trans (hb3.mono HB2.out.size))
 have KA3 := qhZ (aD9 hb3 KA2.out)
 have KB3 := qhZ (aD9 hb3 KB2.out)
 have KZ3 := qhZ (aD9 hb3 KZ2.out)
 clear hb3
 clear hkd hmd hui hgi hti hxd hln hee5 hw3
 go_upto_region 8 with fail
 rw [← HW3.out]
 clear q0 q1 q2 q3 q4 q5 q6
 clear KA2c0 KA2c1
 have X30 : w3.cell? ⟨w2.heap.size, 0, none⟩ = some (.int .i64 kd) := (aA9 KX3.out 0).trans rfl
 have X36 : w3.cell? ⟨w2.heap.size, 6, none⟩ = some (.slice on 0 cn) := (aA9 KX3.out 6).trans rfl
 have KA3c0 : w3.cell? ⟨w.heap.size, 0, none⟩ = some (.slice (some ⟨g0, f0, none⟩) f.nodes.length c) := aA9 KA3.out 0
 have KA3c1 : w3.cell? ⟨w.heap.size, 1, none⟩ = some (.int .i64 f.room) := aA9 KA3.out 1
 have KB3c0 : w3.cell? ⟨w.heap.size + 1, 0, none⟩ = some (.int .i64 u) := aA9 KB3.out 0
 have KB3c1 : w3.cell? ⟨w.heap.size + 1, 1, none⟩ = some (.int .i64 g) := aA9 KB3.out 1
 go_wp2_with fail
 refine (l5Change_is HMB.out (HR.out.below HB3.out) hup HMO.out hl).mono ?_
 rintro e w4 ⟨rfl, hb4⟩
 have HB4 := qhZ (HB3.out.trans (hb4.mono HB3.out.size))
 have KA4 := qhZ (aD9 hb4 KA3.out)
 have KB4 := qhZ (aD9 hb4 KB3.out)
 have KZ4 := qhZ (aD9 hb4 KZ3.out)
 clear hb4
 clear KA3c0 KA3c1 KB3c0 KB3c1
 have KA4c0 : w4.cell? ⟨w.heap.size, 0, none⟩ = some (.slice (some ⟨g0, f0, none⟩) f.nodes.length c) := aA9 KA4.out 0
 have KA4c1 : w4.cell? ⟨w.heap.size, 1, none⟩ = some (.int .i64 f.room) := aA9 KA4.out 1
 have KZ4c0 : w4.cell? ⟨w.heap.size + 2, 0, none⟩ = some (.slice none 0 0) := aA9 KZ4.out 0
 have KZ4c1 : w4.cell? ⟨w.heap.size + 2, 1, none⟩ = some (.int .i64 0) := aA9 KZ4.out 1
 have KZ4f := aE9 KZ4.out
 clear X30 X36
 go_wp2_with fail
 refine (HTK.out _ (HR.out.below HB4.out)).mono ?_
 rintro e w5 ⟨nv5, ps5, rfl, hp5, hO5, hb5⟩
 have HB5 := qhZ (HB4.out.trans (hb5.mono HB4.out.size))
 have KA5 := qhZ (aD9 hb5 KA4.out)
 have KB5 := qhZ (aD9 hb5 KB4.out)
 have KZ5 := qhZ (aD9 hb5 KZ4.out)
 clear hb5
 clear KA4c0 KA4c1 KZ4c0 KZ4c1 KZ4f
 have KZ5c0 : w5.cell? ⟨w.heap.size + 2, 0, none⟩ = some (.slice none 0 0) := aA9 KZ5.out 0
 have KZ5c1 : w5.cell? ⟨w.heap.size + 2, 1, none⟩ = some (.int .i64 0) := aA9 KZ5.out 1
 have KZ5f := aE9 KZ5.out
 obtain ⟨oo5, cc5, rfl, -⟩ := aM9 hO5.row
 have HP5 := qhZ hp5
 have HO5 := qhZ hO5
 have hw4 : w.heap.size + 2 < w4.heap.size := aB9 KZ4.out
 clear hp5 hO5
 go_wp2
 have hq := bG9 KZ5.out (.slice oo5 ps5.length cc5) (.int .i64 f.room)
 have t0 := (aA9 hq 0).trans rfl
 have t1 := (aA9 hq 1).trans rfl
 refine bodyPost_ret (v := .tuple #[.agg #[.slice oo5 ps5.length cc5, .int .i64 f.room], .int .i64 0]) (by simp [results, Tryz.results48, go_sem, t0, t1]) rfl ?_
 have hB9 := aP9 (G := w.heap.size + 2) (x := (.slice oo5 ps5.length cc5)) (y := .int .i64 f.room) HB5.out (by omega)
 have hA9 := ((HO5.out.besides (b := w.heap.size + 2) hw4 0 (.slice oo5 ps5.length cc5)).besides (b := w.heap.size + 2) hw4 1 (.int .i64 f.room)).read (takFs f up nm t).room (by rw [HP5.out]; exact takFs_fit hup HNF.out)
 rw [HP5.out, takFs_room] at hA9
 have hA8 : FsA (((w5.setCell ⟨w.heap.size + 2, 0, none⟩ (.slice oo5 ps5.length cc5)).setCell ⟨w.heap.size + 2, 1, none⟩ (.int .i64 f.room))) (.agg #[.slice oo5 ps5.length cc5, .int .i64 f.room]) (takFs f up nm t) := by
   have e7 : (takFs f up nm t) = ⟨(takFs f up nm t).nodes, f.room⟩ := by rw [← takFs_room f up nm t]
   rw [e7]; exact hA9
 first
   | exact ⟨_, rfl, hA8, hB9⟩
   | exact ⟨rfl, hA8, hB9⟩
theorem l5Cut_is (f : FsD) (v : Value) (u g : Int) (s : ByteArray) (dir : Bool) (t : Int) (w : World) (cd : Int) (F : FsD) (hF : F = if cutC f u g s.data.toList dir = 0 then cutG f u g s.data.toList t else f) (hcd : cutC f u g s.data.toList dir = cd) (hR : FsA w v f) (hs : szF f ≤ 1048576) (hk : bC9 f u g = true) (hss : s.size ≤ 1048576) (hnf : aV9 f.nodes) :
   Calls Tryz.prog 48 #[v, .agg #[.int .i64 u, .int .i64 g], .string s, .bool dir, .int .i64 t] w fun e w' => ∃ v', e = .returned (.tuple #[v', .int .i64 cd]) ∧ FsA w' v' F ∧ Below w.heap.size w w' := by
 have hg := bN9 hk
 have hL := (look_of hg hs).1
 obtain ⟨⟨c2, up, nm⟩, hfp⟩ : ∃ q, fp0 f.nodes u g s.data.toList = q := ⟨_, rfl⟩
 by_cases hc : c2 = 0
 case neg =>
   have e1 : cutC f u g s.data.toList dir = c2 := cutC_bad hfp hc
   rw [hF, ← hcd, e1, if_neg hc]
   exact l5Cut_A f v u g s t w hR hs hk hss dir c2 up nm hfp hc
 subst hc
 obtain ⟨hnm, hup, hkd⟩ := fp0_facts hL hfp
 have hri := rise_node (good_nods hg) up
 have hld := leadI (good_nods hg)
 have e0 : cutC f u g s.data.toList dir = tkC f u g up nm dir := cutC_go hfp
 cases hi : isE (aC9 f.nodes up).list nm with
 | false =>
   have e1 : cutC f u g s.data.toList dir = 2 := by rw [e0, tkC_none hi]
   rw [hF, ← hcd, e1, if_neg (by decide)]
   exact l5Cut_B f v u g s t w hR hs hk hss dir up nm hfp hup (atE_not hg hi)
 | true =>
   obtain ⟨nd, hnb, hndl, hat⟩ := nbN_in hup hld hri hi
   cases dir with
   | true =>
       by_cases h2 : (aC9 f.nodes nd).kind = 2
       · skip
         by_cases hll : 0 < (aC9 f.nodes nd).list.length
         · have e1 : cutC f u g s.data.toList true = 9 := by rw [e0, tkC_kind hi hnb, if_neg (by simp), if_neg (by simp [h2]), if_pos hll]
           rw [hF, ← hcd, e1, if_neg (by decide)]
           exact l5Cut_Dt f v u g s t w hR hs hk hss up nm hfp hup nd hat hndl h2 hll
         · have hl0 : (aC9 f.nodes nd).list.length = 0 := by omega
           cases hm : mayB u g (aC9 f.nodes up).mode (aC9 f.nodes up).uid (aC9 f.nodes up).gid 3 with
           | false =>
             have e1 : cutC f u g s.data.toList true = 4 := by rw [e0, tkC_kind hi hnb, if_neg (by simp), if_neg (by simp [h2]), if_neg hll, if_pos hm]
             rw [hF, ← hcd, e1, if_neg (by decide)]
             exact l5Cut_Et f v u g s t w hR hs hk hss up nm hfp hup nd hat hndl h2 hl0 (mode_at hg hup hkd) hm
           | true =>
             have e1 : cutC f u g s.data.toList true = 0 := by rw [e0, tkC_kind hi hnb, if_neg (by simp), if_neg (by simp [h2]), if_neg hll, if_neg (by rw [hm]; decide)]
             rw [hF, ← hcd, e1, if_pos rfl, show cutG f u g s.data.toList t = takFs f up nm t from by unfold cutG; rw [hfp]]
             exact l5Cut_Ft f v u g s t w hR hs hk hss up nm hfp hup nd hat hndl h2 hl0 (mode_at hg hup hkd) hm hnb hnf
       · have e1 : cutC f u g s.data.toList true = 3 := by rw [e0, tkC_kind hi hnb, if_neg (by simp), if_pos ⟨rfl, h2⟩]
         rw [hF, ← hcd, e1, if_neg (by decide)]
         exact l5Cut_C3 f v u g s t w hR hs hk hss up nm hfp hup nd hat hndl h2
   | false =>
       by_cases h2 : (aC9 f.nodes nd).kind = 2
       · have e1 : cutC f u g s.data.toList false = 7 := by rw [e0, tkC_kind hi hnb, if_pos ⟨rfl, h2⟩]
         rw [hF, ← hcd, e1, if_neg (by decide)]
         exact l5Cut_C7 f v u g s t w hR hs hk hss up nm hfp hup nd hat hndl h2
       · skip
         by_cases hll : 0 < (aC9 f.nodes nd).list.length
         · have e1 : cutC f u g s.data.toList false = 9 := by rw [e0, tkC_kind hi hnb, if_neg (by simp [h2]), if_neg (by simp), if_pos hll]
           rw [hF, ← hcd, e1, if_neg (by decide)]
           exact l5Cut_Df f v u g s t w hR hs hk hss up nm hfp hup nd hat hndl h2 hll
         · have hl0 : (aC9 f.nodes nd).list.length = 0 := by omega
           cases hm : mayB u g (aC9 f.nodes up).mode (aC9 f.nodes up).uid (aC9 f.nodes up).gid 3 with
           | false =>
             have e1 : cutC f u g s.data.toList false = 4 := by rw [e0, tkC_kind hi hnb, if_neg (by simp [h2]), if_neg (by simp), if_neg hll, if_pos hm]
             rw [hF, ← hcd, e1, if_neg (by decide)]
             exact l5Cut_Ef f v u g s t w hR hs hk hss up nm hfp hup nd hat hndl h2 hl0 (mode_at hg hup hkd) hm
           | true =>
             have e1 : cutC f u g s.data.toList false = 0 := by rw [e0, tkC_kind hi hnb, if_neg (by simp [h2]), if_neg (by simp), if_neg hll, if_neg (by rw [hm]; decide)]
             rw [hF, ← hcd, e1, if_pos rfl, show cutG f u g s.data.toList t = takFs f up nm t from by unfold cutG; rw [hfp]]
             exact l5Cut_Ff f v u g s t w hR hs hk hss up nm hfp hup nd hat hndl h2 hl0 (mode_at hg hup hkd) hm hnb hnf
end Go.Proofs.YtknhacblialboaaGreatDoor
