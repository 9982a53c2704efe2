/-
  Joined: NewU NewV NewF MakS.
  Conditions: as each states.
-/
import Derived.Deep.RegionHeld3
import Derived.Deep.CutRange
import Derived.Deep.CutBlock
import Derived.Deep.DeepCutAuto
import Derived.Deep.RegionWith
import Derived.Test.YtknhacblialboaaGreatDoorLib4
import Derived.Test.YtknhacblialboaaGreatDoorLib5
import Derived.Test.YtknhacblialboaaGreatDoorLib13
import Derived.Test.YtknhacblialboaaGreatDoorLib19
import Derived.Test.YtknhacblialboaaGreatDoorLib22
import Derived.Test.YtknhacblialboaaGreatDoorLib24
namespace Go.Proofs.YtknhacblialboaaGreatDoor
open Go.ChangeShapes Go.WideShapes Go.ChangeAt Go.RowKit Go.Joins
set_option linter.unusedVariables false
set_option linter.unusedSimpArgs false
set_option maxHeartbeats 16000000
set_option maxRecDepth 100000 in
theorem l5New_N (f : FsD) (v : Value) (u g : Int) (p : ByteArray) (kd md t : Int) (x : ByteArray) (w : World) (hR : FsA w v f) (hs : szF f ≤ 1048576) (hk : bC9 f u g = true) (hsp : p.size ≤ 1048576) (hsx : x.size ≤ 60) (up : Nat) (nm : List UInt8) (hfp : fp0 f.nodes u g p.data.toList = (0, up, nm)) (hup : up < f.nodes.length) (hkd2 : (aC9 f.nodes up).kind = 2) (hat : atE (aC9 f.nodes up).list nm = -1) (hmo : inB 0 511 (aC9 f.nodes up).mode = true) (hmb : mayB u g (aC9 f.nodes up).mode (aC9 f.nodes up).uid (aC9 f.nodes up).gid 3 = true) (hfn : 0 ≤ bE9 f.nodes) (hro : (sumD f.nodes : Int) + (x.size : Int) ≤ f.room) (hri : Rise (aC9 f.nodes up).list) (hie : isE (aC9 f.nodes up).list nm = false) (hnf : aV9 f.nodes) (hnl : nm.length ≤ 8) (k : Nat) (hkf : (k : Int) = bE9 f.nodes) (hkl : k = f.nodes.length) (hukne : up ≠ k) :
   Calls Tryz.prog 36 #[v, .agg #[.int .i64 u, .int .i64 g], .string p, .agg #[.int .i64 kd, .int .i64 md, .int .i64 0, .int .i64 0, .int .i64 t, .string x, .slice none 0 0]] w fun e w' => ∃ v', e = .returned (.tuple #[v', .int .i64 0]) ∧ FsA w' v' (putFs (nodF f k (newN u g kd md t x.data.toList)) up nm k t) ∧ Below w.heap.size w w' := by
 have HKN := qhZ hkl
 clear hkl
 have HMO := qhZ hmo
 have HMB := qhZ hmb
 clear hmo hmb
 have HRI := qhZ hri
 have HIE := qhZ hie
 have HNF := qhZ hnf
 clear hri hie hnf
 have HR := qhZ hR
 obtain ⟨nv, rfl, hN⟩ := hR
 obtain ⟨o, c, rfl, hm, hH⟩ := hN
 have hpos : 0 < f.nodes.length := by have := lkFind_lt (look_of (bN9 hk) hs).1 u g [] false; omega
 obtain ⟨g0, f0, lv0, rfl, -⟩ := hH 0 hpos
 have HH := qhZ hH
 have HS := qhZ hs
 have HK := qhZ hk
 have HSP := qhZ hsp
 have hl : f.nodes.length ≤ 1048576 := (aG9 hs).1
 have HB0 : Hid (Below w.heap.size w ((((w.alloc (.cells #[.slice (some ⟨g0, f0, none⟩) f.nodes.length c, .int .i64 f.room] 30)).alloc (.cells #[.int .i64 u, .int .i64 g] 34)).alloc (.cells #[.int .i64 kd, .int .i64 md, .int .i64 0, .int .i64 0, .int .i64 t, .string x, .slice none 0 0] 55)).alloc (.cells #[.slice none 0 0, .int .i64 0] 30))) := qhZ (((((Below.refl _ _).alloc (Nat.le_refl _) _).alloc (by simp) _).alloc (by simp; omega) _).alloc (by simp; omega) _)
 have KA0 := qhZ (m4_0 w (.cells #[.slice (some ⟨g0, f0, none⟩) f.nodes.length c, .int .i64 f.room] 30) (.cells #[.int .i64 u, .int .i64 g] 34) (.cells #[.int .i64 kd, .int .i64 md, .int .i64 0, .int .i64 0, .int .i64 t, .string x, .slice none 0 0] 55) (.cells #[.slice none 0 0, .int .i64 0] 30))
 have KB0 := qhZ (m4_1 w (.cells #[.slice (some ⟨g0, f0, none⟩) f.nodes.length c, .int .i64 f.room] 30) (.cells #[.int .i64 u, .int .i64 g] 34) (.cells #[.int .i64 kd, .int .i64 md, .int .i64 0, .int .i64 0, .int .i64 t, .string x, .slice none 0 0] 55) (.cells #[.slice none 0 0, .int .i64 0] 30))
 have KN0 := qhZ (m4_2 w (.cells #[.slice (some ⟨g0, f0, none⟩) f.nodes.length c, .int .i64 f.room] 30) (.cells #[.int .i64 u, .int .i64 g] 34) (.cells #[.int .i64 kd, .int .i64 md, .int .i64 0, .int .i64 0, .int .i64 t, .string x, .slice none 0 0] 55) (.cells #[.slice none 0 0, .int .i64 0] 30))
 have KZ0 := qhZ (m4_3 w (.cells #[.slice (some ⟨g0, f0, none⟩) f.nodes.length c, .int .i64 f.room] 30) (.cells #[.int .i64 u, .int .i64 g] 34) (.cells #[.int .i64 kd, .int .i64 md, .int .i64 0, .int .i64 0, .int .i64 t, .string x, .slice none 0 0] 55) (.cells #[.slice none 0 0, .int .i64 0] 30))
 obtain ⟨fa, hfa⟩ : ∃ fa, bE9 f.nodes = fa := ⟨_, rfl⟩
 have HFA := qhZ hfa
 have HFP := qhZ hfp
 clear hH hs hk hsp hm hfp
 rw [hfa] at hfn hkf
 subst hkf
 obtain ⟨g4, f4, lv4, e4, hcc4, hee4⟩ := bL9 (c := c) HH.out hup (Below.refl w.heap.size w)
 have d6w := hcc4.c6
 simp only [Option.some.injEq, Addr.mk.injEq, and_true] at e4
 obtain ⟨rfl, rfl⟩ := e4
 obtain ⟨oe, ce, rfl, hle, -⟩ := id hee4
 have HEE := qhZ hee4
 have hg0 : g0 < w.heap.size := by obtain ⟨a1, a2, a3, a4, a5, -⟩ := HH.out up hup; simp only [Option.some.injEq, Addr.mk.injEq, and_true] at a4; rw [a4.1]; exact a5
 have HLL : Hid ((aC9 f.nodes up).list.length ≤ 1048576) := qhZ ((aG9 HS.out).2 (aC9 f.nodes up) (by rw [show aC9 f.nodes up = f.nodes[up] from aR9 hup]; exact List.getElem_mem hup)).1
 obtain ⟨xn, hxn⟩ : ∃ xn, xn = bs nm := ⟨_, rfl⟩
 have hxl : xn.data.toList = nm := by rw [hxn]; exact aY9 _
 have HAT : Hid (atE (aC9 f.nodes up).list xn.data.toList = -1) := qhZ (by rw [hxl]; exact hat)
 have HXN := qhZ hxn
 clear hcc4 hee4 hxl hat hfa
 go_enter Tryz.func36, Tryz.ntmps36
 go_wp2_with fail
 refine (l4Place_is HFP.out (HR.out.below HB0.out) HS.out HK.out HSP.out).mono ?_
 rintro e w1 ⟨rfl, hb1⟩
 rw [← hxn]
 clear hxn
 have HB1 := qhZ (HB0.out.trans (hb1.mono HB0.out.size))
 have KA1 := qhZ (aD9 hb1 KA0.out)
 have KB1 := qhZ (aD9 hb1 KB0.out)
 have KN1 := qhZ (aD9 hb1 KN0.out)
 have KZ1 := qhZ (aD9 hb1 KZ0.out)
 clear hb1
 have KA1c0 : w1.cell? ⟨w.heap.size, 0, none⟩ = some (.slice (some ⟨g0, f0, none⟩) f.nodes.length c) := aA9 KA1.out 0
 have KA1c1 : w1.cell? ⟨w.heap.size, 1, none⟩ = some (.int .i64 f.room) := aA9 KA1.out 1
 go_wp2_with fail
 refine (freeAt_is HFA.out (HR.out.below HB1.out) hl).mono ?_
 rintro e w2 ⟨rfl, hb2⟩
 have HB2 := qhZ (HB1.out.trans (hb2.mono HB1.out.size))
 have KA2 := qhZ (aD9 hb2 KA1.out)
 have KB2 := qhZ (aD9 hb2 KB1.out)
 have KN2 := qhZ (aD9 hb2 KN1.out)
 have KZ2 := qhZ (aD9 hb2 KZ1.out)
 clear hb2
 clear KA1c0 KA1c1
 have KA2c0 : w2.cell? ⟨w.heap.size, 0, none⟩ = some (.slice (some ⟨g0, f0, none⟩) f.nodes.length c) := aA9 KA2.out 0
 have KA2c1 : w2.cell? ⟨w.heap.size, 1, none⟩ = some (.int .i64 f.room) := aA9 KA2.out 1
 have d6 := (HB2.out.cell (p := ⟨g0, f0 + up * 7 + 6, none⟩) hg0).trans d6w
 go_wp2_with fail
 refine (l3At_isA HAT.out (HEE.out.below HB2.out) HLL.out).mono ?_
 rintro e w3 ⟨rfl, hb3⟩
 have HB3 := qhZ (HB2.out.trans (hb3.mono HB2.out.size))
 have KA3 := qhZ (aD9 hb3 KA2.out)
 have KB3 := qhZ (aD9 hb3 KB2.out)
 have KN3 := qhZ (aD9 hb3 KN2.out)
 have KZ3 := qhZ (aD9 hb3 KZ2.out)
 clear hb3
 clear KA2c0 KA2c1
 clear d6 d6w
 have KA3c0 : w3.cell? ⟨w.heap.size, 0, none⟩ = some (.slice (some ⟨g0, f0, none⟩) f.nodes.length c) := aA9 KA3.out 0
 have KA3c1 : w3.cell? ⟨w.heap.size, 1, none⟩ = some (.int .i64 f.room) := aA9 KA3.out 1
 have KB3c0 : w3.cell? ⟨w.heap.size + 1, 0, none⟩ = some (.int .i64 u) := aA9 KB3.out 0
 have KB3c1 : w3.cell? ⟨w.heap.size + 1, 1, none⟩ = some (.int .i64 g) := aA9 KB3.out 1
 go_wp2_with fail
 refine (l5Change_is HMB.out (HR.out.below HB3.out) hup HMO.out hl).mono ?_
 rintro e w4 ⟨rfl, hb4⟩
 have HB4 := qhZ (HB3.out.trans (hb4.mono HB3.out.size))
 have KA4 := qhZ (aD9 hb4 KA3.out)
 have KB4 := qhZ (aD9 hb4 KB3.out)
 have KN4 := qhZ (aD9 hb4 KN3.out)
 have KZ4 := qhZ (aD9 hb4 KZ3.out)
 clear hb4
 clear KA3c0 KA3c1 KB3c0 KB3c1
 have hnn : ¬ ((k : Int) < 0) := by omega
 have HFR4 := qhZ (HR.out.below HB4.out)
 obtain ⟨SS, hSS⟩ : ∃ SS, sumD f.nodes = SS := ⟨_, rfl⟩
 have HSU := qhZ hSS
 have hS8 : SS ≤ 1048576 := by have := sumD_le f.nodes; have := HS.out; unfold szF at this; omega
 have HBY : Hid (∀ W, Below w4.heap.size w4 W → Calls Tryz.prog 66 #[.agg #[.slice (some ⟨g0, f0, none⟩) f.nodes.length c, .int .i64 f.room]] W fun e w' => e = .returned (.int .i64 (SS : Int)) ∧ Below W.heap.size W w') := qhZ (fun W h => bytes_is HSU.out (HFR4.out.below h) HS.out)
 have hw1 : IntKind.i64.wrap ((SS : Int) + (x.size : Int)) = (SS : Int) + (x.size : Int) := IntWalk.i64_in _ (by omega)
 rw [hSS] at hro
 have hro' : ¬ (f.room < (SS : Int) + (x.size : Int)) := by omega
 clear hSS
 have KA4c0 : w4.cell? ⟨w.heap.size, 0, none⟩ = some (.slice (some ⟨g0, f0, none⟩) f.nodes.length c) := aA9 KA4.out 0
 have KA4c1 : w4.cell? ⟨w.heap.size, 1, none⟩ = some (.int .i64 f.room) := aA9 KA4.out 1
 have KN4c5 : w4.cell? ⟨w.heap.size + 2, 5, none⟩ = some (.string x) := aA9 KN4.out 5
 have v0 := fun d os => cell_regrown (w := w4) KA4c0 d os
 have v1 := fun d os => cell_regrown (w := w4) KA4c1 d os
 have v2 := fun d os => cell_regrown (w := w4) KN4c5 d os
 go_wp2
 refine wp_region_quiet_below (by kernel_rfl) (by kernel_rfl) ?_
 repeat (first | go_big_quiet_step ((go_at_call 66; exact Calls.regrown_of (HBY.out _ (below_regrown _ _ _)))) | quiet_step ((go_at_call 66; exact Calls.regrown_of (HBY.out _ (below_regrown _ _ _)))))
 refine wpQuiet_nil ?_
 intro w5 hwq
 have HQ5 : Hid (Below w4.heap.size w4 w5) := qhZ (by obtain ⟨pp, rfl⟩ := hwq; exact below_regrown _ _ _)
 clear hwq v0 v1 v2 KN4c5
 clear KA4c0 KA4c1
 have HB5 := qhZ (HB4.out.trans (HQ5.out.mono HB4.out.size))
 have KA5 := qhZ (aD9 HQ5.out KA4.out)
 have KB5 := qhZ (aD9 HQ5.out KB4.out)
 have KN5 := qhZ (aD9 HQ5.out KN4.out)
 have KZ5 := qhZ (aD9 HQ5.out KZ4.out)
 have KA5c0 : w5.cell? ⟨w.heap.size, 0, none⟩ = some (.slice (some ⟨g0, f0, none⟩) f.nodes.length c) := aA9 KA5.out 0
 have KA5c1 : w5.cell? ⟨w.heap.size, 1, none⟩ = some (.int .i64 f.room) := aA9 KA5.out 1
 have KB5c0 : w5.cell? ⟨w.heap.size + 1, 0, none⟩ = some (.int .i64 u) := aA9 KB5.out 0
 have KB5c1 : w5.cell? ⟨w.heap.size + 1, 1, none⟩ = some (.int .i64 g) := aA9 KB5.out 1
 have KN5c2 : w5.cell? ⟨w.heap.size + 2, 2, none⟩ = some (.int .i64 0) := aA9 KN5.out 2
 have KN5c3 : w5.cell? ⟨w.heap.size + 2, 3, none⟩ = some (.int .i64 0) := aA9 KN5.out 3
 have KN5f := aE9 KN5.out
 have KNs : Hid (((w5.setCell ⟨w.heap.size + 2, 2, none⟩ (.int .i64 u)).setCell ⟨w.heap.size + 2, 3, none⟩ (.int .i64 g)).heap[w.heap.size + 2]? = some (.cells #[.int .i64 kd, .int .i64 md, .int .i64 u, .int .i64 g, .int .i64 t, .string x, .slice none 0 0] 55)) := qhZ (heap_setCell_same _ (w.heap.size + 2) 3 _ 55 (.int .i64 g) (heap_setCell_same w5 (w.heap.size + 2) 2 _ 55 (.int .i64 u) KN5.out))
 have KAs : Hid (((w5.setCell ⟨w.heap.size + 2, 2, none⟩ (.int .i64 u)).setCell ⟨w.heap.size + 2, 3, none⟩ (.int .i64 g)).heap[w.heap.size]? = some (.cells #[.slice (some ⟨g0, f0, none⟩) f.nodes.length c, .int .i64 f.room] 30)) := qhZ ((Below.heap_setCell _ ⟨w.heap.size + 2, 3, none⟩ _ _ (by simp)).trans ((Below.heap_setCell _ ⟨w.heap.size + 2, 2, none⟩ _ _ (by simp)).trans KA5.out))
 have KBs : Hid (((w5.setCell ⟨w.heap.size + 2, 2, none⟩ (.int .i64 u)).setCell ⟨w.heap.size + 2, 3, none⟩ (.int .i64 g)).heap[w.heap.size + 1]? = some (.cells #[.int .i64 u, .int .i64 g] 34)) := qhZ ((Below.heap_setCell _ ⟨w.heap.size + 2, 3, none⟩ _ _ (by simp)).trans ((Below.heap_setCell _ ⟨w.heap.size + 2, 2, none⟩ _ _ (by simp)).trans KB5.out))
 have KZs : Hid (((w5.setCell ⟨w.heap.size + 2, 2, none⟩ (.int .i64 u)).setCell ⟨w.heap.size + 2, 3, none⟩ (.int .i64 g)).heap[w.heap.size + 3]? = some (.cells #[.slice none 0 0, .int .i64 0] 30)) := qhZ ((Below.heap_setCell _ ⟨w.heap.size + 2, 3, none⟩ _ _ (by simp)).trans ((Below.heap_setCell _ ⟨w.heap.size + 2, 2, none⟩ _ _ (by simp)).trans KZ5.out))
 have HBs : Hid (Below w.heap.size w ((w5.setCell ⟨w.heap.size + 2, 2, none⟩ (.int .i64 u)).setCell ⟨w.heap.size + 2, 3, none⟩ (.int .i64 g))) := qhZ ((HB5.out.setCell (p := ⟨w.heap.size + 2, 2, none⟩) (by simp) _).setCell (p := ⟨w.heap.size + 2, 3, none⟩) (by simp) _)
 have KSc0 : (w5.setCell ⟨w.heap.size + 2, 2, none⟩ (.int .i64 u)).cell? ⟨w.heap.size + 1, 1, none⟩ = some (.int .i64 g) := aA9 ((Below.heap_setCell _ ⟨w.heap.size + 2, 2, none⟩ _ _ (by simp)).trans KB5.out) 1
 have KSc1 : ((w5.setCell ⟨w.heap.size + 2, 2, none⟩ (.int .i64 u)).setCell ⟨w.heap.size + 2, 3, none⟩ (.int .i64 g)).cell? ⟨w.heap.size, 0, none⟩ = some (.slice (some ⟨g0, f0, none⟩) f.nodes.length c) := aA9 KAs.out 0
 have KSc2 : ((w5.setCell ⟨w.heap.size + 2, 2, none⟩ (.int .i64 u)).setCell ⟨w.heap.size + 2, 3, none⟩ (.int .i64 g)).cell? ⟨w.heap.size, 1, none⟩ = some (.int .i64 f.room) := aA9 KAs.out 1
 go_wp2_with fail
 refine (l3Own_any f _ _ (HR.out.below HBs.out) HS.out).mono ?_
 rintro e w6 ⟨nv6, ps6, rfl, hp6, hO6, hb6⟩
 obtain ⟨oo6, cc6, rfl, -⟩ := aM9 hO6.row
 have hlen6 : ps6.length = f.nodes.length := by rw [← hp6]; simp
 have HLN := qhZ hlen6
 have hpl8 : ps6.length ≤ 1048576 := by omega
 have HP6 := qhZ hp6
 have HB6 := qhZ (HBs.out.trans (hb6.mono HBs.out.size))
 have KN6 := qhZ (aD9 hb6 KNs.out)
 have KZ6 := qhZ (aD9 hb6 KZs.out)
 have hsz3 : w.heap.size + 3 < w5.heap.size := aB9 KZ5.out
 have hsz6 : w.heap.size + 3 < w6.heap.size := aB9 KZ6.out
 have HO6 := qhZ (hO6.low (R := w.heap.size + 4) (by simp; omega))
 have hlt6 : ∀ b, (Value.slice oo6 ps6.length cc6).ownBlock = some b → b < w6.heap.size := HO6.out.ltE.1
 have HB7 := qhZ (HB6.out.alloc HB6.out.size (.cells #[.slice oo6 ps6.length cc6, .int .i64 f.room] 30))
 have KO7 := qhZ (heap_alloc_new w6 (.cells #[.slice oo6 ps6.length cc6, .int .i64 f.room] 30))
 have HO7 := qhZ (HO6.out.below ((Below.refl _ w6).alloc (Nat.le_refl _) (.cells #[.slice oo6 ps6.length cc6, .int .i64 f.room] 30)))
 have KN7 := qhZ ((Below.heap_alloc w6 (.cells #[.slice oo6 ps6.length cc6, .int .i64 f.room] 30) _ (aB9 KN6.out)).trans KN6.out)
 have KZ7 := qhZ ((Below.heap_alloc w6 (.cells #[.slice oo6 ps6.length cc6, .int .i64 f.room] 30) _ (aB9 KZ6.out)).trans KZ6.out)
 have ko0 : (w6.alloc (.cells #[.slice oo6 ps6.length cc6, .int .i64 f.room] 30)).cell? ⟨w6.heap.size, 0, none⟩ = some (.slice oo6 ps6.length cc6) := aA9 KO7.out 0
 clear hp6 hO6 hb6 hlen6 KN5c2 KN5c3 KN5f KSc0 KSc1 KSc2
 go_upto_if 75 with fail
 obtain ⟨W7, hW7⟩ : ∃ W7, W7 = w6.alloc (.cells #[.slice oo6 ps6.length cc6, .int .i64 f.room] 30) := ⟨_, rfl⟩
 have hs7 : W7.heap.size = w6.heap.size + 1 := by rw [hW7, World.size_alloc]
 rw [← hW7] at HB7 KO7 HO7 KN7 KZ7 ko0 ⊢
 have HS7 := qhZ hs7
 clear hW7 hs7
 have hkl6 : k = ps6.length := by have := HLN.out; have := HKN.out; omega
 have hkle : k ≤ f.nodes.length := Nat.le_of_eq HKN.out
 obtain ⟨i8, hi8, hy0, hy1, hy2⟩ := node_infoN
 have hnlk : ((k : Int) == (ps6.length : Int)) = true := by rw [hkl6]; simp
 have HNLK := qhZ hnlk
 have HR7 := qhZ HO7.out.row
 have HNEW := qhZ (cells_new W7 [.int .i64 0, .int .i64 0, .int .i64 0, .int .i64 0, .int .i64 0, .string ⟨#[]⟩, .slice none 0 0] 55)
 have hs71 : w.heap.size + 4 ≤ W7.heap.size := by have := HS7.out; omega
 have hs76 : w6.heap.size < W7.heap.size := by have := HS7.out; omega
 have HKL := qhZ hkl6
 clear hnlk hlt6 hle hkl6
 refine wp_cond (t := ((k : Int) == (ps6.length : Int))) rfl ?_
 rw [HNLK.out]
 simp only [if_true]
 go_wp2_with (at_builtin; go_loud (refine wpList_append_own _ rfl _ _ 28 rfl (w.heap.size + 4) 55 i8 (.agg #[.int .i64 0, .int .i64 0, .int .i64 0, .int .i64 0, .int .i64 0, .string ⟨#[]⟩, .slice none 0 0]) 7 80 Tryz.underlying28 hi8 hy0 hy1 hy2 rfl (by decide) (.slice oo6 ps6.length cc6) ps6.length (nodsV ps6) rfl (World.ownsRow.alloc HR7.out _) ⟨W7.heap.size, 0, none⟩ 1 1 [.int .i64 0, .int .i64 0, .int .i64 0, .int .i64 0, .int .i64 0, .string ⟨#[]⟩, .slice none 0 0] rfl rfl HNEW.out (by simp [Value.oneCell']) (by unfold maxLen; omega) (by omega) (by simp; omega) ?_))
 intro v8 w8 hown8 hgrow8 _
 have HX8 := qhZ hown8
 have HG8 := qhZ hgrow8
 obtain ⟨oo8, cc8, rfl, hoo8⟩ := aM9 hown8
 obtain ⟨g9, e9, hg9a, hg9b⟩ : ∃ g9, oo8 = some ⟨g9, 0, none⟩ ∧ w.heap.size + 4 ≤ g9 ∧ g9 < w8.heap.size := by
   rcases hown8.2 with ⟨e, h0⟩ | ⟨g2, c2, cur, e, h1, h2, _⟩
   · omega
   · simp only [Value.slice.injEq] at e
     exact ⟨g2, e.1, h1, aB9 h2⟩
 subst e9
 have hne6 : ∀ b o, w6.heap.size ≤ b → W7.heap[b]? = some o → (∀ cs, o ≠ .cells cs 55) → some b ≠ (Value.slice oo6 ps6.length cc6).ownBlock := fun b o h1 h2 h3 e => by
   rcases HR7.out.2 with ⟨e2, _⟩ | ⟨g2, c2, cur, e2, _, h4, _⟩
   · rw [e2] at e; simp [Value.ownBlock] at e
   · rw [e2] at e
     simp only [Value.ownBlock, Option.some.injEq] at e
     subst e
     rw [h4] at h2
     exact h3 cur (Option.some.inj h2).symm
 have KO8 : Hid (w8.heap[w6.heap.size]? = some (.cells #[.slice oo6 ps6.length cc6, .int .i64 f.room] 30)) := qhZ ((HG8.out.block _ (by simp; have := aB9 KO7.out; omega) (hne6 _ _ (Nat.le_refl _) KO7.out (fun cs e => by cases e))).trans ((Below.heap_alloc W7 _ _ (aB9 KO7.out)).trans KO7.out))
 have hown6 : ∀ b, b < w.heap.size + 4 → some b ≠ (Value.slice oo6 ps6.length cc6).ownBlock := fun b hb e => by
   have := (World.ownsRow.lt HR7.out b e.symm).1
   omega
 have KN8 : Hid (w8.heap[w.heap.size + 2]? = some (.cells #[.int .i64 kd, .int .i64 md, .int .i64 u, .int .i64 g, .int .i64 t, .string x, .slice none 0 0] 55)) := qhZ ((HG8.out.block _ (by simp; have := aB9 KN7.out; omega) (hown6 _ (by omega))).trans ((Below.heap_alloc W7 _ _ (aB9 KN7.out)).trans KN7.out))
 have KZ8 : Hid (w8.heap[w.heap.size + 3]? = some (.cells #[.slice none 0 0, .int .i64 0] 30)) := qhZ ((HG8.out.block _ (by simp; have := aB9 KZ7.out; omega) (hown6 _ (by omega))).trans ((Below.heap_alloc W7 _ _ (aB9 KZ7.out)).trans KZ7.out))
 have HB8 : Hid (Below w.heap.size w w8) := qhZ ((HB7.out.alloc HB7.out.size _).trans ⟨HG8.out.os, HG8.out.tape, HG8.out.output, HG8.out.size, fun i hi => HG8.out.block i (by simp; have := HB7.out.size; omega) (hown6 i (by omega))⟩)
 have HO8 : Hid (Own w8 (w.heap.size + 4) (.slice (some ⟨g9, 0, none⟩) (ps6.length + 1) cc8) (ps6 ++ [((⟨0, 0, 0, 0, 0, [], []⟩ : Nod), .slice none 0 0)])) := qhZ ((HO7.out.below ((Below.refl _ W7).alloc (Nat.le_refl _) (.cells [.int .i64 0, .int .i64 0, .int .i64 0, .int .i64 0, .int .i64 0, .string ⟨#[]⟩, .slice none 0 0].toArray 55))).snoc hown8 hgrow8 (World.ownsRow_nil _ _ _ _) (dist_snoc HO7.out.dist rfl))
 clear hown8 hgrow8 hoo8 hne6 hown6
 have hb0 : w8.cell? ⟨w6.heap.size, 0, none⟩ = some (.slice oo6 ps6.length cc6) := aA9 KO8.out 0
 have hbf := aE9 KO8.out
 go_upto_region 16 with fail
 obtain ⟨qs8, hqs8⟩ : ∃ qs8 : List (Nod × Value), qs8 = ps6 ++ [((⟨0, 0, 0, 0, 0, [], []⟩ : Nod), .slice none 0 0)] := ⟨_, rfl⟩
 have hl8 : qs8.length = ps6.length + 1 := by rw [hqs8]; simp
 have HL8 := qhZ hl8
 have HQ8 := qhZ hqs8
 obtain ⟨W8, hW8⟩ : ∃ W8, W8 = w8.setCell ⟨w6.heap.size, 0, none⟩ (.slice (some ⟨g9, 0, none⟩) (ps6.length + 1) cc8) := ⟨_, rfl⟩
 have KO9z : Hid (W8.heap[w6.heap.size]? = some (.cells #[.slice (some ⟨g9, 0, none⟩) qs8.length cc8, .int .i64 f.room] 30)) := qhZ (by rw [hW8, hl8]; exact heap_setCell_same w8 w6.heap.size 0 _ 30 _ KO8.out)
 have KN9z : Hid (W8.heap[w.heap.size + 2]? = some (.cells #[.int .i64 kd, .int .i64 md, .int .i64 u, .int .i64 g, .int .i64 t, .string x, .slice none 0 0] 55)) := qhZ (by rw [hW8]; exact (Below.heap_setCell _ ⟨w6.heap.size, 0, none⟩ _ _ (by simp only; omega)).trans KN8.out)
 have KZ9z : Hid (W8.heap[w.heap.size + 3]? = some (.cells #[.slice none 0 0, .int .i64 0] 30)) := qhZ (by rw [hW8]; exact (Below.heap_setCell _ ⟨w6.heap.size, 0, none⟩ _ _ (by simp only; omega)).trans KZ8.out)
 have HB9z : Hid (Below w.heap.size w W8) := qhZ (by rw [hW8]; exact HB8.out.setCell (p := ⟨w6.heap.size, 0, none⟩) (by simp only; omega) _)
 have HO9z : Hid (Own W8 (w.heap.size + 4) (.slice (some ⟨g9, 0, none⟩) qs8.length cc8) qs8) := qhZ (by rw [hW8, hl8, hqs8]; exact HO8.out.aside KO8.out (by decide) (by decide) 0 _)
 have hne9 : w6.heap.size ≠ g9 := by
   have := own_notN HO9z.out.row KO9z.out (by decide)
   rcases this with h | h
   · simp [Value.ownBlock] at h
   · intro e; exact h (by rw [e]; rfl)
 rw [← hW8, ← hl8]
 have hkq : k < qs8.length := by have := HKL.out; omega
 have hq88 : qs8.length ≤ 1048577 := by omega
 clear hW8 hl8 hqs8 hb0 hbf ko0
 obtain ⟨g8, cap8, e8, hRg, hgl, hn9, hm9, hc9, hfr9⟩ := HO9z.out.at (i := k) hkq
 simp only [Value.slice.injEq, Option.some.injEq, Addr.mk.injEq, and_true, true_and] at e8
 obtain ⟨rfl, rfl⟩ := e8
 have q0 := hc9.c0
 have q1 := hc9.c1
 have q2 := hc9.c2
 have q3 := hc9.c3
 have q4 := hc9.c4
 have q5 := hc9.c5
 have q6 := hc9.c6
 have ko0 : W8.cell? ⟨w6.heap.size, 0, none⟩ = some (.slice (some ⟨g9, 0, none⟩) qs8.length cc8) := aA9 KO9z.out 0
 have n0 : W8.cell? ⟨w.heap.size + 2, 0, none⟩ = some (.int .i64 kd) := aA9 KN9z.out 0
 have n1 : W8.cell? ⟨w.heap.size + 2, 1, none⟩ = some (.int .i64 md) := aA9 KN9z.out 1
 have n2 : W8.cell? ⟨w.heap.size + 2, 2, none⟩ = some (.int .i64 u) := aA9 KN9z.out 2
 have n3 : W8.cell? ⟨w.heap.size + 2, 3, none⟩ = some (.int .i64 g) := aA9 KN9z.out 3
 have n4 : W8.cell? ⟨w.heap.size + 2, 4, none⟩ = some (.int .i64 t) := aA9 KN9z.out 4
 have n5 : W8.cell? ⟨w.heap.size + 2, 5, none⟩ = some (.string x) := aA9 KN9z.out 5
 have n6 : W8.cell? ⟨w.heap.size + 2, 6, none⟩ = some (.slice none 0 0) := aA9 KN9z.out 6
 have HOW0 : Hid (Own (((((((W8.setCell ⟨g9, k * 7, none⟩ (.int .i64 kd)).setCell ⟨g9, k * 7 + 1, none⟩ (.int .i64 md)).setCell ⟨g9, k * 7 + 2, none⟩ (.int .i64 u)).setCell ⟨g9, k * 7 + 3, none⟩ (.int .i64 g)).setCell ⟨g9, k * 7 + 4, none⟩ (.int .i64 t)).setCell ⟨g9, k * 7 + 5, none⟩ (.string x)).setCell ⟨g9, k * 7 + 6, none⟩ (.slice none 0 0)) (w.heap.size + 4) (.slice (some ⟨g9, 0, none⟩) qs8.length cc8) (qs8.set k (newN u g kd md t x.data.toList, .slice none 0 0))) := qhZ (HO9z.out.whole (i := k) hkq (newN u g kd md t x.data.toList) rfl)
 have KO9 : Hid ((((((((W8.setCell ⟨g9, k * 7, none⟩ (.int .i64 kd)).setCell ⟨g9, k * 7 + 1, none⟩ (.int .i64 md)).setCell ⟨g9, k * 7 + 2, none⟩ (.int .i64 u)).setCell ⟨g9, k * 7 + 3, none⟩ (.int .i64 g)).setCell ⟨g9, k * 7 + 4, none⟩ (.int .i64 t)).setCell ⟨g9, k * 7 + 5, none⟩ (.string x)).setCell ⟨g9, k * 7 + 6, none⟩ (.slice none 0 0)).heap[w6.heap.size]? = some (.cells #[.slice (some ⟨g9, 0, none⟩) qs8.length cc8, .int .i64 f.room] 30)) := qhZ ((row_ne hne9 _ _ _ _ _ _ _).trans KO9z.out)
 have KN9 : Hid ((((((((W8.setCell ⟨g9, k * 7, none⟩ (.int .i64 kd)).setCell ⟨g9, k * 7 + 1, none⟩ (.int .i64 md)).setCell ⟨g9, k * 7 + 2, none⟩ (.int .i64 u)).setCell ⟨g9, k * 7 + 3, none⟩ (.int .i64 g)).setCell ⟨g9, k * 7 + 4, none⟩ (.int .i64 t)).setCell ⟨g9, k * 7 + 5, none⟩ (.string x)).setCell ⟨g9, k * 7 + 6, none⟩ (.slice none 0 0)).heap[w.heap.size + 2]? = some (.cells #[.int .i64 kd, .int .i64 md, .int .i64 u, .int .i64 g, .int .i64 t, .string x, .slice none 0 0] 55)) := qhZ ((row_ne (by omega) _ _ _ _ _ _ _).trans KN9z.out)
 have KZ9 : Hid ((((((((W8.setCell ⟨g9, k * 7, none⟩ (.int .i64 kd)).setCell ⟨g9, k * 7 + 1, none⟩ (.int .i64 md)).setCell ⟨g9, k * 7 + 2, none⟩ (.int .i64 u)).setCell ⟨g9, k * 7 + 3, none⟩ (.int .i64 g)).setCell ⟨g9, k * 7 + 4, none⟩ (.int .i64 t)).setCell ⟨g9, k * 7 + 5, none⟩ (.string x)).setCell ⟨g9, k * 7 + 6, none⟩ (.slice none 0 0)).heap[w.heap.size + 3]? = some (.cells #[.slice none 0 0, .int .i64 0] 30)) := qhZ ((row_ne (by omega) _ _ _ _ _ _ _).trans KZ9z.out)
 have HB9 : Hid (Below w.heap.size w (((((((W8.setCell ⟨g9, k * 7, none⟩ (.int .i64 kd)).setCell ⟨g9, k * 7 + 1, none⟩ (.int .i64 md)).setCell ⟨g9, k * 7 + 2, none⟩ (.int .i64 u)).setCell ⟨g9, k * 7 + 3, none⟩ (.int .i64 g)).setCell ⟨g9, k * 7 + 4, none⟩ (.int .i64 t)).setCell ⟨g9, k * 7 + 5, none⟩ (.string x)).setCell ⟨g9, k * 7 + 6, none⟩ (.slice none 0 0))) := qhZ (bel_row HB9z.out (by omega) _ _ _ _ _ _ _)
 clear hc9
 go_upto_region 17 with fail
 obtain ⟨W9, hW9⟩ : ∃ W9, W9 = (((((((W8.setCell ⟨g9, k * 7, none⟩ (.int .i64 kd)).setCell ⟨g9, k * 7 + 1, none⟩ (.int .i64 md)).setCell ⟨g9, k * 7 + 2, none⟩ (.int .i64 u)).setCell ⟨g9, k * 7 + 3, none⟩ (.int .i64 g)).setCell ⟨g9, k * 7 + 4, none⟩ (.int .i64 t)).setCell ⟨g9, k * 7 + 5, none⟩ (.string x)).setCell ⟨g9, k * 7 + 6, none⟩ (.slice none 0 0)) := ⟨_, rfl⟩
 rw [← hW9] at HOW0 KO9 KN9 KZ9 HB9 ⊢
 clear hW9 q0 q1 q2 q3 q4 q5 q6 n0 n1 n2 n3 n4 n5 n6 ko0
 obtain ⟨qs, hqs⟩ : ∃ qs, qs = qs8.set k (newN u g kd md t x.data.toList, .slice none 0 0) := ⟨_, rfl⟩
 have hql : qs.length = qs8.length := by rw [hqs]; simp
 have hqe : qs.map Prod.fst = (nodF f k (newN u g kd md t x.data.toList)).nodes := by
   rw [hqs, HQ8.out, List.map_set, List.map_append, HP6.out, HKN.out, nodF_app]
   simp [List.set_append]
 have HMQ := qhZ hqe
 have HOW : Hid (Own W9 (w.heap.size + 4) (.slice (some ⟨g9, 0, none⟩) qs.length cc8) qs) := qhZ (by rw [hql, hqs]; exact HOW0.out)
 have KOs : Hid (W9.heap[w6.heap.size]? = some (.cells #[.slice (some ⟨g9, 0, none⟩) qs.length cc8, .int .i64 f.room] 30)) := qhZ (by rw [hql]; exact KO9.out)
 have hq8 : qs.length ≤ 1048577 := by omega
 clear hqe hqs hql
 obtain ⟨F9, hF9⟩ : ∃ F9 : FsD, F9 = nodF f k (newN u g kd md t x.data.toList) := ⟨_, rfl⟩
 have HF9 := qhZ hF9
 have hM9 : (qs.map Prod.fst) = F9.nodes := by rw [hF9]; exact HMQ.out
 have HFA9 : Hid (FsA W9 (.agg #[.slice (some ⟨g9, 0, none⟩) qs.length cc8, .int .i64 f.room]) F9) := qhZ (by
   have h := HOW.out.read f.room (by rw [hM9, hF9]; exact nodF_fit HNF.out (by show x.data.toList.length ≤ maxLen; rw [aW9]; unfold maxLen; omega) rfl)
   rw [hM9] at h
   have e9 : F9.room = f.room := by rw [hF9]; rfl
   rw [show F9 = ⟨F9.nodes, f.room⟩ from by rw [← e9]]
   exact h)
 have HZ9 : Hid (szF F9 ≤ 2097152) := qhZ (by
   rw [HF9.out]
   have h1 := nodF_sz (f := f) (k := k) (n := newN u g kd md t x.data.toList) hkle
   have h2 : szN (newN u g kd md t x.data.toList) = x.size := by unfold szN newN; simp [lensE, aW9]
   have h3 := HS.out
   omega)
 have HPU : Hid (∀ W, FsA W (.agg #[.slice (some ⟨g9, 0, none⟩) qs.length cc8, .int .i64 f.room]) F9 → Calls Tryz.prog 67 #[.agg #[.slice (some ⟨g9, 0, none⟩) qs.length cc8, .int .i64 f.room], .int .i64 up, .string xn, .int .i64 k, .int .i64 t] W fun e w' => ∃ nv ps, e = .returned (.agg #[nv, .int .i64 f.room]) ∧ ps.map Prod.fst = (putFs F9 up nm k t).nodes ∧ Own w' W.heap.size nv ps ∧ Below W.heap.size W w') := qhZ (fun W h => by
   have hq := l5Put_big F9 _ up nm k t W h HZ9.out
     (by rw [HF9.out, nodF_at hup hukne]; exact HLL.out) (by rw [HF9.out]; exact Nat.lt_of_lt_of_le hup nodF_len.1) (by rw [HF9.out, nodF_at hup hukne]; exact HRI.out) (by rw [HF9.out, nodF_at hup hukne]; exact HIE.out)
   rw [HXN.out]
   have e9 : F9.room = f.room := by rw [HF9.out]; rfl
   rw [e9] at hq
   exact hq)
 have jo0 : W9.cell? ⟨w6.heap.size, 0, none⟩ = some (.slice (some ⟨g9, 0, none⟩) qs.length cc8) := aA9 KOs.out 0
 have jo1 : W9.cell? ⟨w6.heap.size, 1, none⟩ = some (.int .i64 f.room) := aA9 KOs.out 1
 have jn4 : W9.cell? ⟨w.heap.size + 2, 4, none⟩ = some (.int .i64 t) := aA9 KN9.out 4
 clear hF9 hM9
 go_wp2_with fail
 refine (HPU.out _ HFA9.out).mono ?_
 rintro e wz ⟨nvz, psz, rfl, hpz, hOz, hbz⟩
 obtain ⟨ooz, ccz, rfl, -⟩ := aM9 hOz.row
 have HBz := qhZ (HB9.out.trans (hbz.mono HB9.out.size))
 have KZz := qhZ (aD9 hbz KZ9.out)
 have HPz := qhZ hpz
 have HOz := qhZ hOz
 have hw9 : w.heap.size + 3 < W9.heap.size := aB9 KZ9.out
 have z0 : wz.cell? ⟨w.heap.size + 3, 0, none⟩ = some (.slice none 0 0) := aA9 KZz.out 0
 have z1 : wz.cell? ⟨w.heap.size + 3, 1, none⟩ = some (.int .i64 0) := aA9 KZz.out 1
 have zf := aE9 KZz.out
 clear hpz hOz hbz jo0 jo1 jn4
 go_wp2
 have hq := bG9 KZz.out (.slice ooz psz.length ccz) (.int .i64 f.room)
 have t0 := (aA9 hq 0).trans rfl
 have t1 := (aA9 hq 1).trans rfl
 refine bodyPost_ret (v := .tuple #[.agg #[.slice ooz psz.length ccz, .int .i64 f.room], .int .i64 0]) (by simp [results, Tryz.results36, go_sem, t0, t1]) rfl ?_
 have hB9 := aP9 (G := w.heap.size + 3) (x := (.slice ooz psz.length ccz)) (y := .int .i64 f.room) HBz.out (by omega)
 have hA9 := ((HOz.out.besides (b := w.heap.size + 3) hw9 0 (.slice ooz psz.length ccz)).besides (b := w.heap.size + 3) hw9 1 (.int .i64 f.room)).read f.room (by rw [HPz.out, HF9.out]; exact putFs_fit (Nat.lt_of_lt_of_le hup nodF_len.1) (nodF_fit HNF.out (by show x.data.toList.length ≤ maxLen; rw [aW9]; unfold maxLen; omega) rfl) (by unfold maxLen; omega))
 rw [HPz.out, HF9.out] at hA9
 first
   | exact ⟨_, rfl, hA9, hB9⟩
   | exact ⟨rfl, hA9, hB9⟩
theorem l5New_is (f : FsD) (v : Value) (u g : Int) (p : ByteArray) (kd md t : Int) (x : ByteArray) (w : World) (cd : Int) (F : FsD) (hF : F = if newC f u g p.data.toList x.data.toList = 0 then newG f u g p.data.toList (newN u g kd md t x.data.toList) t else f) (hcd : newC f u g p.data.toList x.data.toList = cd) (hR : FsA w v f) (hs : szF f ≤ 1048576) (hk : bC9 f u g = true) (hsp : p.size ≤ 1048576) (hsx : x.size ≤ 60) (hnf : aV9 f.nodes) :
   Calls Tryz.prog 36 #[v, .agg #[.int .i64 u, .int .i64 g], .string p, .agg #[.int .i64 kd, .int .i64 md, .int .i64 0, .int .i64 0, .int .i64 t, .string x, .slice none 0 0]] w fun e w' => ∃ v', e = .returned (.tuple #[v', .int .i64 cd]) ∧ FsA w' v' F ∧ Below w.heap.size w w' := by
 have hg := bN9 hk
 have hL := (look_of hg hs).1
 have hxl : x.data.toList.length = x.size := aW9 x
 obtain ⟨⟨c2, up, nm⟩, hfp⟩ : ∃ q, fp0 f.nodes u g p.data.toList = q := ⟨_, rfl⟩
 by_cases h3 : c2 = 0
 case neg =>
   have e1 : newC f u g p.data.toList x.data.toList = c2 := by unfold newC; rw [spotC_bad hfp h3]; simp [h3]
   rw [e1] at hF hcd
   rw [if_neg h3] at hF
   rw [hF, ← hcd]
   exact l5New_A f v u g p kd md t x w hR hs hk hsp hsx c2 up nm hfp h3
 subst h3
 obtain ⟨hnm, hup, hkd⟩ := fp0_facts hL hfp
 cases hi : isE (aC9 f.nodes up).list nm with
 | true =>
   have e1 : newC f u g p.data.toList x.data.toList = 6 := by unfold newC; rw [spotC_there hfp hi]; simp
   rw [e1] at hF hcd
   rw [if_neg (by decide)] at hF
   rw [hF, ← hcd]
   exact l5New_B f v u g p kd md t x w hR hs hk hsp hsx up nm hfp hup hkd _ rfl (atE_there hg hi)
 | false =>
   cases hm : mayB u g (aC9 f.nodes up).mode (aC9 f.nodes up).uid (aC9 f.nodes up).gid 3 with
   | false =>
     have e1 : newC f u g p.data.toList x.data.toList = 4 := by unfold newC; rw [spotC_may hfp hi hm]; simp
     rw [e1] at hF hcd
     rw [if_neg (by decide)] at hF
     rw [hF, ← hcd]
     exact l5New_C f v u g p kd md t x w hR hs hk hsp hsx up nm hfp hup hkd (atE_not hg hi) (mode_at hg hup hkd) hm
   | true =>
     have e0 := spotC_ok hfp hi hm
     by_cases hn : bE9 f.nodes < 0
     · have e1 : newC f u g p.data.toList x.data.toList = 8 := by unfold newC; rw [e0]; simp [hn]
       rw [e1] at hF hcd
       rw [if_neg (by decide)] at hF
       rw [hF, ← hcd]
       exact l5New_D f v u g p kd md t x w hR hs hk hsp hsx up nm hfp hup hkd (atE_not hg hi) (mode_at hg hup hkd) hm hn
     by_cases hro : f.room < (sumD f.nodes : Int) + (x.size : Int)
     · have e1 : newC f u g p.data.toList x.data.toList = 8 := by unfold newC; rw [e0]; simp [hn, hxl, hro]
       rw [e1] at hF hcd
       rw [if_neg (by decide)] at hF
       rw [hF, ← hcd]
       exact l5New_E f v u g p kd md t x w hR hs hk hsp hsx up nm hfp hup hkd (atE_not hg hi) (mode_at hg hup hkd) hm (by omega) hro
     have e1 : newC f u g p.data.toList x.data.toList = 0 := by unfold newC; rw [e0]; simp [hn, hxl, hro]
     rw [e1] at hF hcd
     rw [if_pos rfl] at hF
     have h0 : 0 ≤ bE9 f.nodes := by omega
     obtain ⟨k, hkf⟩ : ∃ k : Nat, (k : Int) = bE9 f.nodes := ⟨(bE9 f.nodes).toNat, by omega⟩
     have hkt : (bE9 f.nodes).toNat = k := by omega
     have hle := (free_lt h0).1
     rw [hkt] at hle
     have e9 : newG f u g p.data.toList (newN u g kd md t x.data.toList) t = putFs (nodF f k (newN u g kd md t x.data.toList)) up nm k t := by
       unfold newG; rw [hfp, hkt, hkf]
     rw [hF, ← hcd, e9]
     by_cases hkl : k < f.nodes.length
     · have hz := free_kind h0 (by rw [hkt]; exact hkl)
       rw [hkt] at hz
       exact l5New_S f v u g p kd md t x w hR hs hk hsp hsx up nm hfp hup hkd (atE_not hg hi) (mode_at hg hup hkd) hm h0 (by omega) (rise_node (good_nods hg) up) hi hnf (name_len hnm) k hkf hkl (fun e => by rw [e, hz] at hkd; cases hkd)
     · exact l5New_N f v u g p kd md t x w hR hs hk hsp hsx up nm hfp hup hkd (atE_not hg hi) (mode_at hg hup hkd) hm h0 (by omega) (rise_node (good_nods hg) up) hi hnf (name_len hnm) k hkf (by omega) (by omega)
theorem newG_small {f : FsD} {u g : Int} {l : List UInt8} {n : Nod} {t : Int} (hk : bC9 f u g = true) (hs : szF f ≤ 1048576) (hnf : aV9 f.nodes) (hx : n.data.length ≤ 60) (hl : n.list = []) (h0 : newC f u g l n.data = 0) : szF (newG f u g l n t) ≤ 2097152 ∧ aV9 (newG f u g l n t).nodes := by
 have hL := (look_of (bN9 hk) hs).1
 have h1 : spotC f u g l = 0 := by
   unfold newC at h0
   split at h0
   · rename_i h; exact absurd h0 h
   · rename_i h; exact Decidable.not_not.1 h
 have h2 : 0 ≤ bE9 f.nodes := by
   unfold newC at h0
   rw [if_neg (by simpa using h1)] at h0
   split at h0
   · cases h0
   · omega
 obtain ⟨nd, nm, hfp, -, -⟩ := spotC_zero h1
 obtain ⟨hnm, hup, -⟩ := fp0_facts hL hfp
 have hn8 := name_len hnm
 have hk2 := (free_lt h2).1
 have hz := nodF_sz (f := f) (n := n) hk2
 have hupl : nd < (nodF f (bE9 f.nodes).toNat n).nodes.length := Nat.lt_of_lt_of_le hup nodF_len.1
 unfold newG
 rw [hfp]
 show szF (putFs (nodF f (bE9 f.nodes).toNat n) nd nm _ t) ≤ _ ∧ aV9 (putFs (nodF f (bE9 f.nodes).toNat n) nd nm _ t).nodes
 refine ⟨?_, putFs_fit hupl (nodF_fit hnf (by unfold maxLen; omega) hl) (by unfold maxLen; omega)⟩
 rw [putFs_sz hupl]
 have : szN n = n.data.length := by unfold szN; rw [hl]; simp [lensE]
 omega
def dataC (bad : Bool) (c : Int) : Int := if bad = true then 1 else c
theorem dataC_no {c : Int} : dataC false c = c := rfl
theorem dataC_bad {c : Int} : dataC true c = 1 := rfl
def filB (x : List UInt8) : Bool := decide (60 < x.length)
def lnkB (x : List UInt8) : Bool := !goodB x
theorem goodB_len {x : List UInt8} (h : goodB x = true) : x.length ≤ 60 := by
 unfold goodB at h; simp at h; exact h.1.2
theorem bytes_len (x : ByteArray) : x.data.toList.length = x.size := by simp
theorem l2Path_is {x : ByteArray} {b : Bool} (h : goodB x.data.toList = b) (w : World) (hs : x.size ≤ 1073741824) : Calls Tryz.prog 43 #[.string x] w fun e w' => e = .returned (.bool b) ∧ Below w.heap.size w w' := by
 subst h; exact l2Path_any x w hs
theorem makeDir_facts {f : FsD} {u g : Int} {l : List UInt8} {md t : Int} (hk : bC9 f u g = true) (hs : szF f ≤ 1048576) (hnf : aV9 f.nodes) (h0 : newC f u g l [] = 0) : szF (newG f u g l (newN u g 2 md t []) t) ≤ 2097152 ∧ aV9 (newG f u g l (newN u g 2 md t []) t).nodes :=
 newG_small (n := newN u g 2 md t []) hk hs hnf (by simp [newN]) rfl h0
theorem makeFile_facts {f : FsD} {u g : Int} {l x : List UInt8} {md t : Int} (hk : bC9 f u g = true) (hs : szF f ≤ 1048576) (hnf : aV9 f.nodes) (h0 : dataC (filB x) (newC f u g l x) = 0) : szF (newG f u g l (newN u g 1 md t x) t) ≤ 2097152 ∧ aV9 (newG f u g l (newN u g 1 md t x) t).nodes := by
 cases hb : filB x with
 | true => rw [hb, dataC_bad] at h0; cases h0
 | false =>
   rw [hb, dataC_no] at h0
   exact newG_small (n := newN u g 1 md t x) hk hs hnf (by unfold filB at hb; simp at hb; show x.length ≤ 60; omega) rfl h0
theorem makeLink_facts {f : FsD} {u g : Int} {l x : List UInt8} {t : Int} (hk : bC9 f u g = true) (hs : szF f ≤ 1048576) (hnf : aV9 f.nodes) (h0 : dataC (lnkB x) (newC f u g l x) = 0) : szF (newG f u g l (newN u g 3 511 t x) t) ≤ 2097152 ∧ aV9 (newG f u g l (newN u g 3 511 t x) t).nodes := by
 cases hb : lnkB x with
 | true => rw [hb, dataC_bad] at h0; cases h0
 | false =>
   rw [hb, dataC_no] at h0
   exact newG_small (n := newN u g 3 511 t x) hk hs hnf (show x.length ≤ 60 from goodB_len (by unfold lnkB at hb; simpa using hb)) rfl h0
theorem entsA_nil (w : World) : EntsA w (.slice none 0 0) [] := ⟨none, 0, rfl, Nat.zero_le _, fun i h => by cases h⟩
theorem set_three {w : World} {G : Nat} {x0 x1 x2 x3 x4 x5 x6 : Value} {T : TypeId} (h : w.heap[G]? = some (.cells #[x0, x1, x2, x3, x4, x5, x6] T (0, 0))) (a b c : Value) : (((w.setCell ⟨G, 2, none⟩ a).setCell ⟨G, 3, none⟩ b).setCell ⟨G, 4, none⟩ c).heap[G]? = some (.cells #[x0, x1, a, b, c, x5, x6] T (0, 0)) := by
 have h1 := heap_setCell_same w G 2 _ T a h
 have h2 := heap_setCell_same _ G 3 _ T b h1
 exact heap_setCell_same _ G 4 _ T c h2
theorem bel_three {w a : World} {R G : Nat} {x y z : Value} (h : Below R w a) (hG : R ≤ G) : Below R w (((a.setCell ⟨G, 2, none⟩ x).setCell ⟨G, 3, none⟩ y).setCell ⟨G, 4, none⟩ z) := ((h.setCell (p := ⟨G, 2, none⟩) hG x).setCell (p := ⟨G, 3, none⟩) hG y).setCell (p := ⟨G, 4, none⟩) hG z
def CreSays (R d : Nat) (f : FsD) (u g t cd : Int) (G : FsD) (w : World) (e : Ending) (w' : World) : Prop := ∃ E, e = .returned E ∧ CodeSays E cd ∧ Below R w w' ∧ ∃ nv2 ps2, w'.heap[d]? = some (.cells #[nv2, .int .i64 f.room, .int .i64 u, .int .i64 g, .int .i64 t] 75) ∧ Own w' R nv2 ps2 ∧ (cd = 0 → E = .nilIface ∧ ps2.map Prod.fst = G.nodes)
theorem cre_told {R d : Nat} {f : FsD} {u g t cd : Int} {G : FsD} {w w' : World} {E nv : Value} {ps : List (Nod × Value)} (hE : CodeSays E cd) (hc : cd ≠ 0) (hR : R ≤ w.heap.size) (hD : Drf w d R nv ps f u g t) (hb : Below w.heap.size w w') : CreSays R d f u g t cd G w (.returned E) w' :=
 ⟨E, rfl, hE, hb.mono hR, nv, ps, aD9 hb hD.box, hD.own.below hb, fun h => absurd h hc⟩
theorem errC_isM {c : Int} (h : c ≠ 0) : errC c = codeV c := by unfold errC; rw [if_neg h]
theorem says_codeM {c : Int} (h : c ≠ 0) : CodeSays (codeV c) c := by rw [← errC_isM h]; exact says_C c
theorem dirC_threeM {f : FsD} {u g : Int} {up : Nat} (hkd : (aC9 f.nodes up).kind = 2) : dirC (aC9 f.nodes up) u g 3 = if mayB u g (aC9 f.nodes up).mode (aC9 f.nodes up).uid (aC9 f.nodes up).gid 3 = false then 4 else 0 := by
 unfold dirC; rw [if_neg (by omega)]
theorem isGood_is {q : Nod} {b : Bool} {count : Int} (h : bP9 count q = b) {g : Nat} {lv : Value} {w : World} (hg : g < w.heap.size) (hc : NodC w g 0 lv q) (hE : EntsA w lv q.list) (hs : q.list.length ≤ 1048576) (hd : q.data.length ≤ 1048576) : Calls Tryz.prog 108 #[.pointer (some ⟨g, 0, none⟩), .int .i64 count] w fun e w' => e = .returned (.bool b) ∧ Below w.heap.size w w' := by
 subst h; exact isGoodNode_any q lv g 0 count w hg hc hE hs hd
set_option maxRecDepth 100000 in
theorem create_A (f : FsD) (u g t kd md : Int) (p x : ByteArray) (hok : bP9 f.nodes.length (newN u g kd md t x.data.toList) = false)  (hs : szF f ≤ 1048576) (hk : bC9 f u g = true) (hsp : p.size ≤ 1048576) (hsx : x.size ≤ 1048576) (d R : Nat) (nv : Value) (ps : List (Nod × Value)) (w : World) (hR : R ≤ w.heap.size) (hRd : R ≤ d) (hD : Drf w d R nv ps f u g t) :
   Calls Tryz.prog 71 #[.pointer (some ⟨d, 0, none⟩), .string p, .agg #[.int .i64 kd, .int .i64 md, .int .i64 0, .int .i64 0, .int .i64 0, .string x, .slice none 0 0]] w fun e w' => CreSays R d f u g t (1) (newG f u g p.data.toList (newN u g kd md t x.data.toList) t) w e w' := by
 obtain ⟨oo, cc, rfl, -⟩ := aM9 hD.own.row
 have HD := qhZ hD
 have HS := qhZ hs
 have HK := qhZ hk
 have HSP := qhZ hsp
 have hpl8 : ps.length ≤ 1048576 := by rw [hD.len]; exact (aG9 hs).1
 have hxl : x.data.toList.length ≤ 1048576 := by rw [bytes_len]; exact hsx
 obtain ⟨W0, hW0⟩ : ∃ W0, W0 = w.alloc (.cells #[.int .i64 kd, .int .i64 md, .int .i64 0, .int .i64 0, .int .i64 0, .string x, .slice none 0 0] 55) := ⟨_, rfl⟩
 have HK0 : Hid (Below w.heap.size w W0) := qhZ (by rw [hW0]; exact (Below.refl _ _).alloc (Nat.le_refl _) _)
 have KB0 : Hid (W0.heap[w.heap.size]? = some (.cells #[.int .i64 kd, .int .i64 md, .int .i64 0, .int .i64 0, .int .i64 0, .string x, .slice none 0 0] 55)) := qhZ (by rw [hW0]; exact heap_alloc_new w _)
 have KD0 := qhZ (aD9 HK0.out HD.out.box)
 have HWX := qhZ hW0
 have HGN : Hid (∀ W, W.heap[w.heap.size]? = some (.cells #[.int .i64 kd, .int .i64 md, .int .i64 u, .int .i64 g, .int .i64 t, .string x, .slice none 0 0] 55) → Calls Tryz.prog 108 #[.pointer (some ⟨w.heap.size, 0, none⟩), .int .i64 ps.length] W fun e w' => e = .returned (.bool false) ∧ Below W.heap.size W w') := qhZ (fun W h => by
   rw [hD.len]
   exact isGood_is (q := newN u g kd md t x.data.toList) hok (aB9 h) ⟨aA9 h 0, aA9 h 1, aA9 h 2, aA9 h 3, aA9 h 4, by rw [show bs (newN u g kd md t x.data.toList).data = x from rfl]; exact aA9 h 5, aA9 h 6⟩ (entsA_nil _) (by simp [newN]) hxl)
 have d2 : W0.cell? ⟨d, 2, none⟩ = some (.int .i64 u) := (aA9 KD0.out 2).trans rfl
 have d3 : W0.cell? ⟨d, 3, none⟩ = some (.int .i64 g) := (aA9 KD0.out 3).trans rfl
 have d4 : W0.cell? ⟨d, 4, none⟩ = some (.int .i64 t) := (aA9 KD0.out 4).trans rfl
 have n2 : W0.cell? ⟨w.heap.size, 2, none⟩ = some (.int .i64 0) := (aA9 KB0.out 2).trans rfl
 have n3 : W0.cell? ⟨w.heap.size, 3, none⟩ = some (.int .i64 0) := (aA9 KB0.out 3).trans rfl
 have n4 : W0.cell? ⟨w.heap.size, 4, none⟩ = some (.int .i64 0) := (aA9 KB0.out 4).trans rfl
 have nf := aE9 KB0.out
 have hdw : d ≠ w.heap.size := fun e => by have := aB9 HD.out.box; omega
 clear hD hW0 hs hk hsp hsx hok hxl
 go_enter Tryz.func71, Tryz.ntmps71
 go_upto_region 1 with fail
 rw [← HWX.out]
 go_cut [] from 11 to 27 (fun wx => wx.heap[w.heap.size]? = some (.cells #[.int .i64 kd, .int .i64 md, .int .i64 u, .int .i64 g, .int .i64 t, .string x, .slice none 0 0] 55) ∧ Below w.heap.size w wx)
 case first =>
   go_region_with (fail)
   all_goals
     go_wp2_with fail
     go_meet
     first
       | exact ⟨set_three KB0.out _ _ _, bel_three HK0.out (Nat.le_refl _)⟩
       | exact ⟨set_three (w := W0.drew) KB0.out _ _ _, bel_three HK0.out.drew (Nat.le_refl _)⟩
       | exact ⟨set_three KB0.out _ _ _, (bel_three HK0.out (Nat.le_refl _)).drew⟩
 case rest =>
 obtain ⟨hN1, hb1⟩ := hcut
 have HN1 := qhZ hN1
 have HB1 := qhZ hb1
 have KD1 := qhZ (aD9 hb1 HD.out.box)
 have e0 : wc.cell? ⟨d, 0, none⟩ = some (.slice oo ps.length cc) := (aA9 KD1.out 0).trans rfl
 clear hN1 hb1 d2 d3 d4 n2 n3 n4 nf
 go_wp2_with fail
 refine (HGN.out _ HN1.out).mono ?_
 rintro e w2 ⟨rfl, hb2⟩
 have HB2 := qhZ (HB1.out.trans (hb2.mono HB1.out.size))
 have HN2 := qhZ (aD9 hb2 HN1.out)
 have KD2 := qhZ (aD9 hb2 KD1.out)
 clear hb2 e0
 go_wp2
 go_ret
 exact cre_told (says_codeM (by decide)) (by decide) hR HD.out HB2.out
set_option maxRecDepth 100000 in
theorem create_C (f : FsD) (u g t kd md : Int) (p x : ByteArray) (hok : bP9 f.nodes.length (newN u g kd md t x.data.toList) = true) (c2 : Int) (up : Nat) (nm : List UInt8) (hfp : fp0 f.nodes u g p.data.toList = (c2, up, nm)) (hc2 : c2 ≠ 0) (hs : szF f ≤ 1048576) (hk : bC9 f u g = true) (hsp : p.size ≤ 1048576) (hsx : x.size ≤ 1048576) (d R : Nat) (nv : Value) (ps : List (Nod × Value)) (w : World) (hR : R ≤ w.heap.size) (hRd : R ≤ d) (hD : Drf w d R nv ps f u g t) :
   Calls Tryz.prog 71 #[.pointer (some ⟨d, 0, none⟩), .string p, .agg #[.int .i64 kd, .int .i64 md, .int .i64 0, .int .i64 0, .int .i64 0, .string x, .slice none 0 0]] w fun e w' => CreSays R d f u g t (c2) (newG f u g p.data.toList (newN u g kd md t x.data.toList) t) w e w' := by
 obtain ⟨oo, cc, rfl, -⟩ := aM9 hD.own.row
 have HD := qhZ hD
 have HS := qhZ hs
 have HK := qhZ hk
 have HSP := qhZ hsp
 have hpl8 : ps.length ≤ 1048576 := by rw [hD.len]; exact (aG9 hs).1
 have hxl : x.data.toList.length ≤ 1048576 := by rw [bytes_len]; exact hsx
 obtain ⟨W0, hW0⟩ : ∃ W0, W0 = w.alloc (.cells #[.int .i64 kd, .int .i64 md, .int .i64 0, .int .i64 0, .int .i64 0, .string x, .slice none 0 0] 55) := ⟨_, rfl⟩
 have HK0 : Hid (Below w.heap.size w W0) := qhZ (by rw [hW0]; exact (Below.refl _ _).alloc (Nat.le_refl _) _)
 have KB0 : Hid (W0.heap[w.heap.size]? = some (.cells #[.int .i64 kd, .int .i64 md, .int .i64 0, .int .i64 0, .int .i64 0, .string x, .slice none 0 0] 55)) := qhZ (by rw [hW0]; exact heap_alloc_new w _)
 have KD0 := qhZ (aD9 HK0.out HD.out.box)
 have HWX := qhZ hW0
 have HGN : Hid (∀ W, W.heap[w.heap.size]? = some (.cells #[.int .i64 kd, .int .i64 md, .int .i64 u, .int .i64 g, .int .i64 t, .string x, .slice none 0 0] 55) → Calls Tryz.prog 108 #[.pointer (some ⟨w.heap.size, 0, none⟩), .int .i64 ps.length] W fun e w' => e = .returned (.bool true) ∧ Below W.heap.size W w') := qhZ (fun W h => by
   rw [hD.len]
   exact isGood_is (q := newN u g kd md t x.data.toList) hok (aB9 h) ⟨aA9 h 0, aA9 h 1, aA9 h 2, aA9 h 3, aA9 h 4, by rw [show bs (newN u g kd md t x.data.toList).data = x from rfl]; exact aA9 h 5, aA9 h 6⟩ (entsA_nil _) (by simp [newN]) hxl)
 have d2 : W0.cell? ⟨d, 2, none⟩ = some (.int .i64 u) := (aA9 KD0.out 2).trans rfl
 have d3 : W0.cell? ⟨d, 3, none⟩ = some (.int .i64 g) := (aA9 KD0.out 3).trans rfl
 have d4 : W0.cell? ⟨d, 4, none⟩ = some (.int .i64 t) := (aA9 KD0.out 4).trans rfl
 have n2 : W0.cell? ⟨w.heap.size, 2, none⟩ = some (.int .i64 0) := (aA9 KB0.out 2).trans rfl
 have n3 : W0.cell? ⟨w.heap.size, 3, none⟩ = some (.int .i64 0) := (aA9 KB0.out 3).trans rfl
 have n4 : W0.cell? ⟨w.heap.size, 4, none⟩ = some (.int .i64 0) := (aA9 KB0.out 4).trans rfl
 have nf := aE9 KB0.out
 have HFR := qhZ (fun W (h : Drf W d R (.slice oo ps.length cc) ps f u g t) => freeSpot_bad f u g t p c2 up nm hfp hc2 hs hk hsp d R _ ps W h)
 have HC2 := qhZ hc2
 have hdw : d ≠ w.heap.size := fun e => by have := aB9 HD.out.box; omega
 clear hD hW0 hs hk hsp hsx hok hxl hfp hc2
 go_enter Tryz.func71, Tryz.ntmps71
 go_upto_region 1 with fail
 rw [← HWX.out]
 go_cut [] from 11 to 27 (fun wx => wx.heap[w.heap.size]? = some (.cells #[.int .i64 kd, .int .i64 md, .int .i64 u, .int .i64 g, .int .i64 t, .string x, .slice none 0 0] 55) ∧ Below w.heap.size w wx)
 case first =>
   go_region_with (fail)
   all_goals
     go_wp2_with fail
     go_meet
     first
       | exact ⟨set_three KB0.out _ _ _, bel_three HK0.out (Nat.le_refl _)⟩
       | exact ⟨set_three (w := W0.drew) KB0.out _ _ _, bel_three HK0.out.drew (Nat.le_refl _)⟩
       | exact ⟨set_three KB0.out _ _ _, (bel_three HK0.out (Nat.le_refl _)).drew⟩
 case rest =>
 obtain ⟨hN1, hb1⟩ := hcut
 have HN1 := qhZ hN1
 have HB1 := qhZ hb1
 have KD1 := qhZ (aD9 hb1 HD.out.box)
 have e0 : wc.cell? ⟨d, 0, none⟩ = some (.slice oo ps.length cc) := (aA9 KD1.out 0).trans rfl
 clear hN1 hb1 d2 d3 d4 n2 n3 n4 nf
 go_wp2_with fail
 refine (HGN.out _ HN1.out).mono ?_
 rintro e w2 ⟨rfl, hb2⟩
 have HB2 := qhZ (HB1.out.trans (hb2.mono HB1.out.size))
 have HN2 := qhZ (aD9 hb2 HN1.out)
 have KD2 := qhZ (aD9 hb2 KD1.out)
 clear hb2 e0
 go_wp2_with (go_at_call 84; refine (HFR.out _ (HD.out.below HB2.out)).mono ?_)
 rintro e w3 ⟨q, rfl, hb3⟩
 have HE := qhZ (errV_not q HC2.out)
 rw [HE.out]
 have HB3 := qhZ (HB2.out.trans (hb3.mono HB2.out.size))
 have HB4 := qhZ (HB3.out.alloc HB3.out.size (.cells #[.int .i64 0, .string ⟨#[]⟩] 77))
 clear hb3
 go_wp2
 go_ret
 rw [← HE.out]
 exact cre_told (says_V q c2) HC2.out hR HD.out HB4.out
set_option maxRecDepth 100000 in
theorem create_D (f : FsD) (u g t kd md : Int) (p x : ByteArray) (hok : bP9 f.nodes.length (newN u g kd md t x.data.toList) = true) (up : Nat) (nm : List UInt8) (hfp : fp0 f.nodes u g p.data.toList = (0, up, nm)) (hup : up < f.nodes.length) (hri : Rise (aC9 f.nodes up).list) (hie : isE (aC9 f.nodes up).list nm = true) (hs : szF f ≤ 1048576) (hk : bC9 f u g = true) (hsp : p.size ≤ 1048576) (hsx : x.size ≤ 1048576) (d R : Nat) (nv : Value) (ps : List (Nod × Value)) (w : World) (hR : R ≤ w.heap.size) (hRd : R ≤ d) (hD : Drf w d R nv ps f u g t) :
   Calls Tryz.prog 71 #[.pointer (some ⟨d, 0, none⟩), .string p, .agg #[.int .i64 kd, .int .i64 md, .int .i64 0, .int .i64 0, .int .i64 0, .string x, .slice none 0 0]] w fun e w' => CreSays R d f u g t (6) (newG f u g p.data.toList (newN u g kd md t x.data.toList) t) w e w' := by
 obtain ⟨oo, cc, rfl, -⟩ := aM9 hD.own.row
 have HD := qhZ hD
 have HS := qhZ hs
 have HK := qhZ hk
 have HSP := qhZ hsp
 have hpl8 : ps.length ≤ 1048576 := by rw [hD.len]; exact (aG9 hs).1
 have hxl : x.data.toList.length ≤ 1048576 := by rw [bytes_len]; exact hsx
 obtain ⟨W0, hW0⟩ : ∃ W0, W0 = w.alloc (.cells #[.int .i64 kd, .int .i64 md, .int .i64 0, .int .i64 0, .int .i64 0, .string x, .slice none 0 0] 55) := ⟨_, rfl⟩
 have HK0 : Hid (Below w.heap.size w W0) := qhZ (by rw [hW0]; exact (Below.refl _ _).alloc (Nat.le_refl _) _)
 have KB0 : Hid (W0.heap[w.heap.size]? = some (.cells #[.int .i64 kd, .int .i64 md, .int .i64 0, .int .i64 0, .int .i64 0, .string x, .slice none 0 0] 55)) := qhZ (by rw [hW0]; exact heap_alloc_new w _)
 have KD0 := qhZ (aD9 HK0.out HD.out.box)
 have HWX := qhZ hW0
 have HGN : Hid (∀ W, W.heap[w.heap.size]? = some (.cells #[.int .i64 kd, .int .i64 md, .int .i64 u, .int .i64 g, .int .i64 t, .string x, .slice none 0 0] 55) → Calls Tryz.prog 108 #[.pointer (some ⟨w.heap.size, 0, none⟩), .int .i64 ps.length] W fun e w' => e = .returned (.bool true) ∧ Below W.heap.size W w') := qhZ (fun W h => by
   rw [hD.len]
   exact isGood_is (q := newN u g kd md t x.data.toList) hok (aB9 h) ⟨aA9 h 0, aA9 h 1, aA9 h 2, aA9 h 3, aA9 h 4, by rw [show bs (newN u g kd md t x.data.toList).data = x from rfl]; exact aA9 h 5, aA9 h 6⟩ (entsA_nil _) (by simp [newN]) hxl)
 have d2 : W0.cell? ⟨d, 2, none⟩ = some (.int .i64 u) := (aA9 KD0.out 2).trans rfl
 have d3 : W0.cell? ⟨d, 3, none⟩ = some (.int .i64 g) := (aA9 KD0.out 3).trans rfl
 have d4 : W0.cell? ⟨d, 4, none⟩ = some (.int .i64 t) := (aA9 KD0.out 4).trans rfl
 have n2 : W0.cell? ⟨w.heap.size, 2, none⟩ = some (.int .i64 0) := (aA9 KB0.out 2).trans rfl
 have n3 : W0.cell? ⟨w.heap.size, 3, none⟩ = some (.int .i64 0) := (aA9 KB0.out 3).trans rfl
 have n4 : W0.cell? ⟨w.heap.size, 4, none⟩ = some (.int .i64 0) := (aA9 KB0.out 4).trans rfl
 have nf := aE9 KB0.out
 have HFR := qhZ (fun W (h : Drf W d R (.slice oo ps.length cc) ps f u g t) => freeSpot_there f u g t p up nm hfp hup hie hri hs hk hsp d R _ ps W h)
 have hdw : d ≠ w.heap.size := fun e => by have := aB9 HD.out.box; omega
 clear hD hW0 hs hk hsp hsx hok hxl hfp hie hri
 go_enter Tryz.func71, Tryz.ntmps71
 go_upto_region 1 with fail
 rw [← HWX.out]
 go_cut [] from 11 to 27 (fun wx => wx.heap[w.heap.size]? = some (.cells #[.int .i64 kd, .int .i64 md, .int .i64 u, .int .i64 g, .int .i64 t, .string x, .slice none 0 0] 55) ∧ Below w.heap.size w wx)
 case first =>
   go_region_with (fail)
   all_goals
     go_wp2_with fail
     go_meet
     first
       | exact ⟨set_three KB0.out _ _ _, bel_three HK0.out (Nat.le_refl _)⟩
       | exact ⟨set_three (w := W0.drew) KB0.out _ _ _, bel_three HK0.out.drew (Nat.le_refl _)⟩
       | exact ⟨set_three KB0.out _ _ _, (bel_three HK0.out (Nat.le_refl _)).drew⟩
 case rest =>
 obtain ⟨hN1, hb1⟩ := hcut
 have HN1 := qhZ hN1
 have HB1 := qhZ hb1
 have KD1 := qhZ (aD9 hb1 HD.out.box)
 have e0 : wc.cell? ⟨d, 0, none⟩ = some (.slice oo ps.length cc) := (aA9 KD1.out 0).trans rfl
 clear hN1 hb1 d2 d3 d4 n2 n3 n4 nf
 go_wp2_with fail
 refine (HGN.out _ HN1.out).mono ?_
 rintro e w2 ⟨rfl, hb2⟩
 have HB2 := qhZ (HB1.out.trans (hb2.mono HB1.out.size))
 have HN2 := qhZ (aD9 hb2 HN1.out)
 have KD2 := qhZ (aD9 hb2 KD1.out)
 clear hb2 e0
 go_wp2_with (go_at_call 84; refine (HFR.out _ (HD.out.below HB2.out)).mono ?_)
 rintro e w3 ⟨rfl, hb3⟩
 have HB3 := qhZ (HB2.out.trans (hb3.mono HB2.out.size))
 have HB4 := qhZ (HB3.out.alloc HB3.out.size (.cells #[.int .i64 0, .string ⟨#[]⟩] 77))
 clear hb3
 unfold codeV
 go_wp2
 go_ret
 exact cre_told (E := codeV 6) (says_codeM (by decide)) (by decide) hR HD.out HB4.out
set_option maxRecDepth 100000 in
theorem create_E (f : FsD) (u g t kd md : Int) (p x : ByteArray) (hok : bP9 f.nodes.length (newN u g kd md t x.data.toList) = true) (up : Nat) (nm : List UInt8) (hfp : fp0 f.nodes u g p.data.toList = (0, up, nm)) (hup : up < f.nodes.length) (hri : Rise (aC9 f.nodes up).list) (hie : isE (aC9 f.nodes up).list nm = false) (hdc : errC (dirC (aC9 f.nodes up) u g 3) = codeV 4) (hs : szF f ≤ 1048576) (hk : bC9 f u g = true) (hsp : p.size ≤ 1048576) (hsx : x.size ≤ 1048576) (d R : Nat) (nv : Value) (ps : List (Nod × Value)) (w : World) (hR : R ≤ w.heap.size) (hRd : R ≤ d) (hD : Drf w d R nv ps f u g t) :
   Calls Tryz.prog 71 #[.pointer (some ⟨d, 0, none⟩), .string p, .agg #[.int .i64 kd, .int .i64 md, .int .i64 0, .int .i64 0, .int .i64 0, .string x, .slice none 0 0]] w fun e w' => CreSays R d f u g t (4) (newG f u g p.data.toList (newN u g kd md t x.data.toList) t) w e w' := by
 obtain ⟨oo, cc, rfl, -⟩ := aM9 hD.own.row
 have HD := qhZ hD
 have HS := qhZ hs
 have HK := qhZ hk
 have HSP := qhZ hsp
 have hpl8 : ps.length ≤ 1048576 := by rw [hD.len]; exact (aG9 hs).1
 have hxl : x.data.toList.length ≤ 1048576 := by rw [bytes_len]; exact hsx
 obtain ⟨W0, hW0⟩ : ∃ W0, W0 = w.alloc (.cells #[.int .i64 kd, .int .i64 md, .int .i64 0, .int .i64 0, .int .i64 0, .string x, .slice none 0 0] 55) := ⟨_, rfl⟩
 have HK0 : Hid (Below w.heap.size w W0) := qhZ (by rw [hW0]; exact (Below.refl _ _).alloc (Nat.le_refl _) _)
 have KB0 : Hid (W0.heap[w.heap.size]? = some (.cells #[.int .i64 kd, .int .i64 md, .int .i64 0, .int .i64 0, .int .i64 0, .string x, .slice none 0 0] 55)) := qhZ (by rw [hW0]; exact heap_alloc_new w _)
 have KD0 := qhZ (aD9 HK0.out HD.out.box)
 have HWX := qhZ hW0
 have HGN : Hid (∀ W, W.heap[w.heap.size]? = some (.cells #[.int .i64 kd, .int .i64 md, .int .i64 u, .int .i64 g, .int .i64 t, .string x, .slice none 0 0] 55) → Calls Tryz.prog 108 #[.pointer (some ⟨w.heap.size, 0, none⟩), .int .i64 ps.length] W fun e w' => e = .returned (.bool true) ∧ Below W.heap.size W w') := qhZ (fun W h => by
   rw [hD.len]
   exact isGood_is (q := newN u g kd md t x.data.toList) hok (aB9 h) ⟨aA9 h 0, aA9 h 1, aA9 h 2, aA9 h 3, aA9 h 4, by rw [show bs (newN u g kd md t x.data.toList).data = x from rfl]; exact aA9 h 5, aA9 h 6⟩ (entsA_nil _) (by simp [newN]) hxl)
 have d2 : W0.cell? ⟨d, 2, none⟩ = some (.int .i64 u) := (aA9 KD0.out 2).trans rfl
 have d3 : W0.cell? ⟨d, 3, none⟩ = some (.int .i64 g) := (aA9 KD0.out 3).trans rfl
 have d4 : W0.cell? ⟨d, 4, none⟩ = some (.int .i64 t) := (aA9 KD0.out 4).trans rfl
 have n2 : W0.cell? ⟨w.heap.size, 2, none⟩ = some (.int .i64 0) := (aA9 KB0.out 2).trans rfl
 have n3 : W0.cell? ⟨w.heap.size, 3, none⟩ = some (.int .i64 0) := (aA9 KB0.out 3).trans rfl
 have n4 : W0.cell? ⟨w.heap.size, 4, none⟩ = some (.int .i64 0) := (aA9 KB0.out 4).trans rfl
 have nf := aE9 KB0.out
 have HFR := qhZ (fun W (h : Drf W d R (.slice oo ps.length cc) ps f u g t) => freeSpot_ask f u g t p up nm _ hfp hup hie hri hdc hs hk hsp d R _ ps W h)
 obtain ⟨xn, hxn⟩ : ∃ xn, xn = bs nm := ⟨_, rfl⟩
 rw [← hxn] at HFR
 have hdw : d ≠ w.heap.size := fun e => by have := aB9 HD.out.box; omega
 clear hD hW0 hs hk hsp hsx hok hxl hfp hie hri hdc hxn
 go_enter Tryz.func71, Tryz.ntmps71
 go_upto_region 1 with fail
 rw [← HWX.out]
 go_cut [] from 11 to 27 (fun wx => wx.heap[w.heap.size]? = some (.cells #[.int .i64 kd, .int .i64 md, .int .i64 u, .int .i64 g, .int .i64 t, .string x, .slice none 0 0] 55) ∧ Below w.heap.size w wx)
 case first =>
   go_region_with (fail)
   all_goals
     go_wp2_with fail
     go_meet
     first
       | exact ⟨set_three KB0.out _ _ _, bel_three HK0.out (Nat.le_refl _)⟩
       | exact ⟨set_three (w := W0.drew) KB0.out _ _ _, bel_three HK0.out.drew (Nat.le_refl _)⟩
       | exact ⟨set_three KB0.out _ _ _, (bel_three HK0.out (Nat.le_refl _)).drew⟩
 case rest =>
 obtain ⟨hN1, hb1⟩ := hcut
 have HN1 := qhZ hN1
 have HB1 := qhZ hb1
 have KD1 := qhZ (aD9 hb1 HD.out.box)
 have e0 : wc.cell? ⟨d, 0, none⟩ = some (.slice oo ps.length cc) := (aA9 KD1.out 0).trans rfl
 clear hN1 hb1 d2 d3 d4 n2 n3 n4 nf
 go_wp2_with fail
 refine (HGN.out _ HN1.out).mono ?_
 rintro e w2 ⟨rfl, hb2⟩
 have HB2 := qhZ (HB1.out.trans (hb2.mono HB1.out.size))
 have HN2 := qhZ (aD9 hb2 HN1.out)
 have KD2 := qhZ (aD9 hb2 KD1.out)
 clear hb2 e0
 go_wp2_with (go_at_call 84; refine (HFR.out _ (HD.out.below HB2.out)).mono ?_)
 rintro e w3 ⟨rfl, hb3⟩
 have HB3 := qhZ (HB2.out.trans (hb3.mono HB2.out.size))
 have HB4 := qhZ (HB3.out.alloc HB3.out.size (.cells #[.int .i64 up, .string xn] 77))
 clear hb3
 unfold codeV
 go_wp2
 go_ret
 exact cre_told (E := codeV 4) (says_codeM (by decide)) (by decide) hR HD.out HB4.out
set_option maxRecDepth 100000 in
theorem create_G (f : FsD) (u g t kd md : Int) (p x : ByteArray) (hok : bP9 f.nodes.length (newN u g kd md t x.data.toList) = true) (up : Nat) (nm : List UInt8) (hfp : fp0 f.nodes u g p.data.toList = (0, up, nm)) (hup : up < f.nodes.length) (hri : Rise (aC9 f.nodes up).list) (hie : isE (aC9 f.nodes up).list nm = false) (hdc : errC (dirC (aC9 f.nodes up) u g 3) = .nilIface) (hfn : freeF f = 0 ∧ freeK f = false) (hs : szF f ≤ 1048576) (hk : bC9 f u g = true) (hsp : p.size ≤ 1048576) (hsx : x.size ≤ 1048576) (d R : Nat) (nv : Value) (ps : List (Nod × Value)) (w : World) (hR : R ≤ w.heap.size) (hRd : R ≤ d) (hD : Drf w d R nv ps f u g t) :
   Calls Tryz.prog 71 #[.pointer (some ⟨d, 0, none⟩), .string p, .agg #[.int .i64 kd, .int .i64 md, .int .i64 0, .int .i64 0, .int .i64 0, .string x, .slice none 0 0]] w fun e w' => CreSays R d f u g t (8) (newG f u g p.data.toList (newN u g kd md t x.data.toList) t) w e w' := by
 obtain ⟨oo, cc, rfl, -⟩ := aM9 hD.own.row
 have HD := qhZ hD
 have HS := qhZ hs
 have HK := qhZ hk
 have HSP := qhZ hsp
 have hpl8 : ps.length ≤ 1048576 := by rw [hD.len]; exact (aG9 hs).1
 have hxl : x.data.toList.length ≤ 1048576 := by rw [bytes_len]; exact hsx
 obtain ⟨W0, hW0⟩ : ∃ W0, W0 = w.alloc (.cells #[.int .i64 kd, .int .i64 md, .int .i64 0, .int .i64 0, .int .i64 0, .string x, .slice none 0 0] 55) := ⟨_, rfl⟩
 have HK0 : Hid (Below w.heap.size w W0) := qhZ (by rw [hW0]; exact (Below.refl _ _).alloc (Nat.le_refl _) _)
 have KB0 : Hid (W0.heap[w.heap.size]? = some (.cells #[.int .i64 kd, .int .i64 md, .int .i64 0, .int .i64 0, .int .i64 0, .string x, .slice none 0 0] 55)) := qhZ (by rw [hW0]; exact heap_alloc_new w _)
 have KD0 := qhZ (aD9 HK0.out HD.out.box)
 have HWX := qhZ hW0
 have HGN : Hid (∀ W, W.heap[w.heap.size]? = some (.cells #[.int .i64 kd, .int .i64 md, .int .i64 u, .int .i64 g, .int .i64 t, .string x, .slice none 0 0] 55) → Calls Tryz.prog 108 #[.pointer (some ⟨w.heap.size, 0, none⟩), .int .i64 ps.length] W fun e w' => e = .returned (.bool true) ∧ Below W.heap.size W w') := qhZ (fun W h => by
   rw [hD.len]
   exact isGood_is (q := newN u g kd md t x.data.toList) hok (aB9 h) ⟨aA9 h 0, aA9 h 1, aA9 h 2, aA9 h 3, aA9 h 4, by rw [show bs (newN u g kd md t x.data.toList).data = x from rfl]; exact aA9 h 5, aA9 h 6⟩ (entsA_nil _) (by simp [newN]) hxl)
 have d2 : W0.cell? ⟨d, 2, none⟩ = some (.int .i64 u) := (aA9 KD0.out 2).trans rfl
 have d3 : W0.cell? ⟨d, 3, none⟩ = some (.int .i64 g) := (aA9 KD0.out 3).trans rfl
 have d4 : W0.cell? ⟨d, 4, none⟩ = some (.int .i64 t) := (aA9 KD0.out 4).trans rfl
 have n2 : W0.cell? ⟨w.heap.size, 2, none⟩ = some (.int .i64 0) := (aA9 KB0.out 2).trans rfl
 have n3 : W0.cell? ⟨w.heap.size, 3, none⟩ = some (.int .i64 0) := (aA9 KB0.out 3).trans rfl
 have n4 : W0.cell? ⟨w.heap.size, 4, none⟩ = some (.int .i64 0) := (aA9 KB0.out 4).trans rfl
 have nf := aE9 KB0.out
 have HFN : Hid (∀ W, Drf W d R (.slice oo ps.length cc) ps f u g t → Calls Tryz.prog 109 #[.agg #[.slice oo ps.length cc, .int .i64 f.room]] W fun e w' => e = .returned (.tuple #[.int .i64 0, .bool false]) ∧ Below W.heap.size W w') := qhZ (fun W h => by
   have := freeNode_any f _ W h.fsA hs
   rw [hfn.1, hfn.2] at this
   exact this)
 have HFR := qhZ (fun W (h : Drf W d R (.slice oo ps.length cc) ps f u g t) => freeSpot_ask f u g t p up nm _ hfp hup hie hri hdc hs hk hsp d R _ ps W h)
 obtain ⟨xn, hxn⟩ : ∃ xn, xn = bs nm := ⟨_, rfl⟩
 rw [← hxn] at HFR
 have hdw : d ≠ w.heap.size := fun e => by have := aB9 HD.out.box; omega
 clear hD hW0 hs hk hsp hsx hok hxl hfp hie hri hdc hxn hfn
 go_enter Tryz.func71, Tryz.ntmps71
 go_upto_region 1 with fail
 rw [← HWX.out]
 go_cut [] from 11 to 27 (fun wx => wx.heap[w.heap.size]? = some (.cells #[.int .i64 kd, .int .i64 md, .int .i64 u, .int .i64 g, .int .i64 t, .string x, .slice none 0 0] 55) ∧ Below w.heap.size w wx)
 case first =>
   go_region_with (fail)
   all_goals
     go_wp2_with fail
     go_meet
     first
       | exact ⟨set_three KB0.out _ _ _, bel_three HK0.out (Nat.le_refl _)⟩
       | exact ⟨set_three (w := W0.drew) KB0.out _ _ _, bel_three HK0.out.drew (Nat.le_refl _)⟩
       | exact ⟨set_three KB0.out _ _ _, (bel_three HK0.out (Nat.le_refl _)).drew⟩
 case rest =>
 obtain ⟨hN1, hb1⟩ := hcut
 have HN1 := qhZ hN1
 have HB1 := qhZ hb1
 have KD1 := qhZ (aD9 hb1 HD.out.box)
 have e0 : wc.cell? ⟨d, 0, none⟩ = some (.slice oo ps.length cc) := (aA9 KD1.out 0).trans rfl
 clear hN1 hb1 d2 d3 d4 n2 n3 n4 nf
 go_wp2_with fail
 refine (HGN.out _ HN1.out).mono ?_
 rintro e w2 ⟨rfl, hb2⟩
 have HB2 := qhZ (HB1.out.trans (hb2.mono HB1.out.size))
 have HN2 := qhZ (aD9 hb2 HN1.out)
 have KD2 := qhZ (aD9 hb2 KD1.out)
 clear hb2 e0
 go_wp2_with (go_at_call 84; refine (HFR.out _ (HD.out.below HB2.out)).mono ?_)
 rintro e w3 ⟨rfl, hb3⟩
 have HB3 := qhZ (HB2.out.trans (hb3.mono HB2.out.size))
 have HN3 := qhZ (aD9 hb3 HN2.out)
 have HB4 := qhZ (HB3.out.alloc HB3.out.size (.cells #[.int .i64 up, .string xn] 77))
 have HN4 := qhZ ((Below.heap_alloc w3 (.cells #[.int .i64 up, .string xn] 77) _ (aB9 HN3.out)).trans HN3.out)
 have KS4 := qhZ (heap_alloc_new w3 (.cells #[.int .i64 up, .string xn] 77))
 obtain ⟨w4, hw4⟩ : ∃ w4, w4 = w3.alloc (.cells #[.int .i64 up, .string xn] 77) := ⟨_, rfl⟩
 have HW4 := qhZ hw4
 rw [← hw4] at HB4 HN4 KS4
 have KD4 := qhZ (aD9 HB4.out HD.out.box)
 have e0 : w4.cell? ⟨d, 0, none⟩ = some (.slice oo ps.length cc) := (aA9 KD4.out 0).trans rfl
 have e1 : w4.cell? ⟨d, 1, none⟩ = some (.int .i64 f.room) := (aA9 KD4.out 1).trans rfl
 clear hb3 hw4
 go_upto_region 5 with fail
 rw [← HW4.out]
 go_wp2_with (go_at_call 109; refine (HFN.out _ (HD.out.below HB4.out)).mono ?_)
 rintro e w5 ⟨rfl, hb5⟩
 have HB5 := qhZ (HB4.out.trans (hb5.mono HB4.out.size))
 have HN5 := qhZ (aD9 hb5 HN4.out)
 have KS5 := qhZ (aD9 hb5 KS4.out)
 clear hb5 e0 e1
 go_wp2
 go_ret
 exact cre_told (E := codeV 8) (says_codeM (by decide)) (by decide) hR HD.out HB5.out
end Go.Proofs.YtknhacblialboaaGreatDoor
