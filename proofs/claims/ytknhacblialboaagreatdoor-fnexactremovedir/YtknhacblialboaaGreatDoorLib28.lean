/-
  Joined: TakP CutS.
  Conditions: as each states.
-/
import Derived.Test.YtknhacblialboaaGreatDoorLib13
import Derived.Test.YtknhacblialboaaGreatDoorLib15
import Derived.Test.YtknhacblialboaaGreatDoorLib22
import Derived.Test.YtknhacblialboaaGreatDoorLib23
import Derived.Test.YtknhacblialboaaGreatDoorLib27
namespace Go.Proofs.YtknhacblialboaaGreatDoor
open Go.ChangeShapes Go.WideShapes Go.ChangeAt Go.RowKit Go.Joins
set_option linter.unusedVariables false
set_option linter.unusedSimpArgs false
set_option maxHeartbeats 16000000
def TakSays (R d : Nat) (f : FsD) (u g t cd : Int) (G : FsD) (w : World) (e : Ending) (w' : World) : Prop := ∃ E, e = .returned E ∧ CodeSays E cd ∧ Below R w w' ∧ ∃ nv2 ps2, w'.heap[d]? = some (.cells #[nv2, .int .i64 f.room, .int .i64 u, .int .i64 g, .int .i64 t] 75) ∧ Own w' R nv2 ps2 ∧ (cd = 0 → E = .nilIface ∧ ps2.map Prod.fst = G.nodes)
theorem tak_told {R d : Nat} {f : FsD} {u g t cd : Int} {G : FsD} {w w' : World} {E nv : Value} {ps : List (Nod × Value)} (hE : CodeSays E cd) (hc : cd ≠ 0) (hR : R ≤ w.heap.size) (hD : Drf w d R nv ps f u g t) (hb : Below w.heap.size w w') : TakSays R d f u g t cd G w (.returned E) w' :=
 ⟨E, rfl, hE, hb.mono hR, nv, ps, aD9 hb hD.box, hD.own.below hb, fun h => absurd h hc⟩
theorem errC_isT {c : Int} (h : c ≠ 0) : errC c = codeV c := by unfold errC; rw [if_neg h]
theorem says_codeT {c : Int} (h : c ≠ 0) : CodeSays (codeV c) c := by rw [← errC_isT h]; exact says_C c
theorem dirC_threeT {f : FsD} {u g : Int} {up : Nat} (hkd : (aC9 f.nodes up).kind = 2) : dirC (aC9 f.nodes up) u g 3 = if mayB u g (aC9 f.nodes up).mode (aC9 f.nodes up).uid (aC9 f.nodes up).gid 3 = false then 4 else 0 := by
 unfold dirC; rw [if_neg (by omega)]
set_option maxRecDepth 100000 in
theorem takeAway_A (f : FsD) (u g t : Int) (up : Nat) (nm : List UInt8) (dir : Bool) (hie : isE (aC9 f.nodes up).list nm = false) (hup : up < f.nodes.length) (hri : Rise (aC9 f.nodes up).list) (hs : szF f ≤ 1048576) (hk : bC9 f u g = true) (d R : Nat) (nv : Value) (ps : List (Nod × Value)) (w : World) (hR : R ≤ w.heap.size) (hRd : R ≤ d) (hD : Drf w d R nv ps f u g t) :
   Calls Tryz.prog 88 #[.pointer (some ⟨d, 0, none⟩), .agg #[.int .i64 up, .string (bs nm)], .bool dir] w fun e w' => TakSays R d f u g t 2 (takFs f up nm t) w e w' := by
 obtain ⟨oo, cc, rfl, -⟩ := aM9 hD.own.row
 have HD := qhZ hD
 have hpl8 : ps.length ≤ 1048576 := by rw [hD.len]; exact (aG9 hs).1
 have HNO := qhZ (fun W (h : Drf W d R (.slice oo ps.length cc) ps f u g t) => nodeOf_is f u g t up nm false _ hup hie rfl hs hri d R _ ps W h)
 obtain ⟨xn, hxn⟩ : ∃ xn, xn = bs nm := ⟨_, rfl⟩
 rw [← hxn]
 rw [← hxn] at HNO
 obtain ⟨W0, hW0⟩ : ∃ W0, W0 = w.alloc (.cells #[.int .i64 up, .string xn] 77) := ⟨_, rfl⟩
 have HK0 : Hid (Below w.heap.size w W0) := qhZ (by rw [hW0]; exact (Below.refl _ _).alloc (Nat.le_refl _) _)
 have KS0 : Hid (W0.heap[w.heap.size]? = some (.cells #[.int .i64 up, .string xn] 77)) := qhZ (by rw [hW0]; exact heap_alloc_new w _)
 have HWX := qhZ hW0
 have s0 : W0.cell? ⟨w.heap.size, 0, none⟩ = some (.int .i64 up) := (aA9 KS0.out 0).trans rfl
 have s1 : W0.cell? ⟨w.heap.size, 1, none⟩ = some (.string xn) := (aA9 KS0.out 1).trans rfl
 clear hD hW0 hs hk hxn hri hie
 go_enter Tryz.func88, Tryz.ntmps88
 go_upto_region 1 with fail
 rw [← HWX.out]
 go_wp2_with fail
 refine (HNO.out _ (HD.out.below HK0.out)).mono ?_
 rintro e w1 ⟨rfl, hb1⟩
 have HB1 := qhZ (HK0.out.trans (hb1.mono HK0.out.size))
 have KS1 := qhZ (aD9 hb1 KS0.out)
 clear hb1 s0 s1
 simp only [Bool.false_eq_true, if_false]
 unfold codeV
 go_wp2
 go_ret
 exact tak_told (E := codeV 2) (says_codeT (by decide)) (by decide) hR HD.out HB1.out
set_option maxRecDepth 100000 in
theorem takeAway_B (f : FsD) (u g t : Int) (up : Nat) (nm : List UInt8) (hie : isE (aC9 f.nodes up).list nm = true) (nd : Nat) (hnb : nbN (aC9 f.nodes up).list nm = (nd : Int)) (hndl : nd < f.nodes.length) (hkk : (aC9 f.nodes nd).kind = 2) (hup : up < f.nodes.length) (hri : Rise (aC9 f.nodes up).list) (hs : szF f ≤ 1048576) (hk : bC9 f u g = true) (d R : Nat) (nv : Value) (ps : List (Nod × Value)) (w : World) (hR : R ≤ w.heap.size) (hRd : R ≤ d) (hD : Drf w d R nv ps f u g t) :
   Calls Tryz.prog 88 #[.pointer (some ⟨d, 0, none⟩), .agg #[.int .i64 up, .string (bs nm)], .bool false] w fun e w' => TakSays R d f u g t 7 (takFs f up nm t) w e w' := by
 obtain ⟨oo, cc, rfl, -⟩ := aM9 hD.own.row
 have HD := qhZ hD
 have hpl8 : ps.length ≤ 1048576 := by rw [hD.len]; exact (aG9 hs).1
 have HNO := qhZ (fun W (h : Drf W d R (.slice oo ps.length cc) ps f u g t) => nodeOf_is f u g t up nm true _ hup hie hnb hs hri d R _ ps W h)
 have hnl : nd < ps.length := by rw [hD.len]; exact hndl
 obtain ⟨G, cap, e0, hRG, hGl, hnc, hm, hc, hfr⟩ := hD.own.at hnl
 simp only [Value.slice.injEq, true_and] at e0
 obtain ⟨rfl, rfl⟩ := e0
 have hq1 : ps[nd].1 = aC9 f.nodes nd := at_map hD.map hnl
 have x0 : w.cell? ⟨G, nd * 7, none⟩ = some (.int .i64 (aC9 f.nodes nd).kind) := by rw [← hq1]; exact hc.c0
 have x6 : w.cell? ⟨G, nd * 7 + 6, none⟩ = some ps[nd].2 := hc.c6
 obtain ⟨oe, ce, hev, -⟩ := aM9 (hD.own.ent _ (List.getElem_mem hnl))
 rw [hev, hq1] at x6
 obtain ⟨kd, hkd⟩ : ∃ kd, kd = (aC9 f.nodes nd).kind := ⟨_, rfl⟩
 obtain ⟨ln, hln⟩ : ∃ ln, ln = (aC9 f.nodes nd).list.length := ⟨_, rfl⟩
 rw [← hkd] at x0 hkk
 rw [← hln] at x6
 have hk2 : kd = 2 := hkk
 subst hk2
 obtain ⟨xn, hxn⟩ : ∃ xn, xn = bs nm := ⟨_, rfl⟩
 rw [← hxn]
 rw [← hxn] at HNO
 obtain ⟨W0, hW0⟩ : ∃ W0, W0 = w.alloc (.cells #[.int .i64 up, .string xn] 77) := ⟨_, rfl⟩
 have HK0 : Hid (Below w.heap.size w W0) := qhZ (by rw [hW0]; exact (Below.refl _ _).alloc (Nat.le_refl _) _)
 have KS0 : Hid (W0.heap[w.heap.size]? = some (.cells #[.int .i64 up, .string xn] 77)) := qhZ (by rw [hW0]; exact heap_alloc_new w _)
 have HWX := qhZ hW0
 have s0 : W0.cell? ⟨w.heap.size, 0, none⟩ = some (.int .i64 up) := (aA9 KS0.out 0).trans rfl
 have s1 : W0.cell? ⟨w.heap.size, 1, none⟩ = some (.string xn) := (aA9 KS0.out 1).trans rfl
 clear hD hW0 hs hk hxn hri hie hnb hc hfr hq1 hev hkd hln hkk
 go_enter Tryz.func88, Tryz.ntmps88
 go_upto_region 1 with fail
 rw [← HWX.out]
 go_wp2_with fail
 refine (HNO.out _ (HD.out.below HK0.out)).mono ?_
 rintro e w1 ⟨rfl, hb1⟩
 have HB1 := qhZ (HK0.out.trans (hb1.mono HK0.out.size))
 have KS1 := qhZ (aD9 hb1 KS0.out)
 clear hb1 s0 s1
 simp only [if_true]
 have KD1 := qhZ (aD9 HB1.out HD.out.box)
 have d0 : w1.cell? ⟨d, 0, none⟩ = some (.slice (some ⟨G, 0, none⟩) ps.length cc) := (aA9 KD1.out 0).trans rfl
 have k0 : w1.cell? ⟨G, nd * 7, none⟩ = some (.int .i64 2) := (HB1.out.cell (p := ⟨G, nd * 7, none⟩) hGl).trans x0
 have k6 : w1.cell? ⟨G, nd * 7 + 6, none⟩ = some (.slice oe ln ce) := (HB1.out.cell (p := ⟨G, nd * 7 + 6, none⟩) hGl).trans x6
 have n0 : (0 : Int) ≤ (nd : Int) := by omega
 have n1 : (nd : Int) < (ps.length : Int) := by omega
 have s0 : w1.cell? ⟨w.heap.size, 0, none⟩ = some (.int .i64 up) := (aA9 KS1.out 0).trans rfl
 have s1 : w1.cell? ⟨w.heap.size, 1, none⟩ = some (.string xn) := (aA9 KS1.out 1).trans rfl
 clear x0 x6
 go_wp2
 go_ret
 exact tak_told (E := codeV 7) (says_codeT (by decide)) (by decide) hR HD.out HB1.out
set_option maxRecDepth 100000 in
theorem takeAway_C (f : FsD) (u g t : Int) (up : Nat) (nm : List UInt8) (hie : isE (aC9 f.nodes up).list nm = true) (nd : Nat) (hnb : nbN (aC9 f.nodes up).list nm = (nd : Int)) (hndl : nd < f.nodes.length) (hkk : (aC9 f.nodes nd).kind ≠ 2) (hup : up < f.nodes.length) (hri : Rise (aC9 f.nodes up).list) (hs : szF f ≤ 1048576) (hk : bC9 f u g = true) (d R : Nat) (nv : Value) (ps : List (Nod × Value)) (w : World) (hR : R ≤ w.heap.size) (hRd : R ≤ d) (hD : Drf w d R nv ps f u g t) :
   Calls Tryz.prog 88 #[.pointer (some ⟨d, 0, none⟩), .agg #[.int .i64 up, .string (bs nm)], .bool true] w fun e w' => TakSays R d f u g t 3 (takFs f up nm t) w e w' := by
 obtain ⟨oo, cc, rfl, -⟩ := aM9 hD.own.row
 have HD := qhZ hD
 have hpl8 : ps.length ≤ 1048576 := by rw [hD.len]; exact (aG9 hs).1
 have HNO := qhZ (fun W (h : Drf W d R (.slice oo ps.length cc) ps f u g t) => nodeOf_is f u g t up nm true _ hup hie hnb hs hri d R _ ps W h)
 have hnl : nd < ps.length := by rw [hD.len]; exact hndl
 obtain ⟨G, cap, e0, hRG, hGl, hnc, hm, hc, hfr⟩ := hD.own.at hnl
 simp only [Value.slice.injEq, true_and] at e0
 obtain ⟨rfl, rfl⟩ := e0
 have hq1 : ps[nd].1 = aC9 f.nodes nd := at_map hD.map hnl
 have x0 : w.cell? ⟨G, nd * 7, none⟩ = some (.int .i64 (aC9 f.nodes nd).kind) := by rw [← hq1]; exact hc.c0
 have x6 : w.cell? ⟨G, nd * 7 + 6, none⟩ = some ps[nd].2 := hc.c6
 obtain ⟨oe, ce, hev, -⟩ := aM9 (hD.own.ent _ (List.getElem_mem hnl))
 rw [hev, hq1] at x6
 obtain ⟨kd, hkd⟩ : ∃ kd, kd = (aC9 f.nodes nd).kind := ⟨_, rfl⟩
 obtain ⟨ln, hln⟩ : ∃ ln, ln = (aC9 f.nodes nd).list.length := ⟨_, rfl⟩
 rw [← hkd] at x0 hkk
 rw [← hln] at x6
 have zb : (kd != 2) = true := by simpa using hkk
 obtain ⟨xn, hxn⟩ : ∃ xn, xn = bs nm := ⟨_, rfl⟩
 rw [← hxn]
 rw [← hxn] at HNO
 obtain ⟨W0, hW0⟩ : ∃ W0, W0 = w.alloc (.cells #[.int .i64 up, .string xn] 77) := ⟨_, rfl⟩
 have HK0 : Hid (Below w.heap.size w W0) := qhZ (by rw [hW0]; exact (Below.refl _ _).alloc (Nat.le_refl _) _)
 have KS0 : Hid (W0.heap[w.heap.size]? = some (.cells #[.int .i64 up, .string xn] 77)) := qhZ (by rw [hW0]; exact heap_alloc_new w _)
 have HWX := qhZ hW0
 have s0 : W0.cell? ⟨w.heap.size, 0, none⟩ = some (.int .i64 up) := (aA9 KS0.out 0).trans rfl
 have s1 : W0.cell? ⟨w.heap.size, 1, none⟩ = some (.string xn) := (aA9 KS0.out 1).trans rfl
 clear hD hW0 hs hk hxn hri hie hnb hc hfr hq1 hev hkd hln hkk
 go_enter Tryz.func88, Tryz.ntmps88
 go_upto_region 1 with fail
 rw [← HWX.out]
 go_wp2_with fail
 refine (HNO.out _ (HD.out.below HK0.out)).mono ?_
 rintro e w1 ⟨rfl, hb1⟩
 have HB1 := qhZ (HK0.out.trans (hb1.mono HK0.out.size))
 have KS1 := qhZ (aD9 hb1 KS0.out)
 clear hb1 s0 s1
 simp only [if_true]
 have KD1 := qhZ (aD9 HB1.out HD.out.box)
 have d0 : w1.cell? ⟨d, 0, none⟩ = some (.slice (some ⟨G, 0, none⟩) ps.length cc) := (aA9 KD1.out 0).trans rfl
 have k0 : w1.cell? ⟨G, nd * 7, none⟩ = some (.int .i64 kd) := (HB1.out.cell (p := ⟨G, nd * 7, none⟩) hGl).trans x0
 have k6 : w1.cell? ⟨G, nd * 7 + 6, none⟩ = some (.slice oe ln ce) := (HB1.out.cell (p := ⟨G, nd * 7 + 6, none⟩) hGl).trans x6
 have n0 : (0 : Int) ≤ (nd : Int) := by omega
 have n1 : (nd : Int) < (ps.length : Int) := by omega
 have s0 : w1.cell? ⟨w.heap.size, 0, none⟩ = some (.int .i64 up) := (aA9 KS1.out 0).trans rfl
 have s1 : w1.cell? ⟨w.heap.size, 1, none⟩ = some (.string xn) := (aA9 KS1.out 1).trans rfl
 clear x0 x6
 go_wp2
 go_ret
 exact tak_told (E := codeV 3) (says_codeT (by decide)) (by decide) hR HD.out HB1.out
set_option maxRecDepth 100000 in
theorem takeAway_Dt (f : FsD) (u g t : Int) (up : Nat) (nm : List UInt8) (hie : isE (aC9 f.nodes up).list nm = true) (nd : Nat) (hnb : nbN (aC9 f.nodes up).list nm = (nd : Int)) (hndl : nd < f.nodes.length) (hkk : (aC9 f.nodes nd).kind = 2) (hll : 0 < (aC9 f.nodes nd).list.length) (hup : up < f.nodes.length) (hri : Rise (aC9 f.nodes up).list) (hs : szF f ≤ 1048576) (hk : bC9 f u g = true) (d R : Nat) (nv : Value) (ps : List (Nod × Value)) (w : World) (hR : R ≤ w.heap.size) (hRd : R ≤ d) (hD : Drf w d R nv ps f u g t) :
   Calls Tryz.prog 88 #[.pointer (some ⟨d, 0, none⟩), .agg #[.int .i64 up, .string (bs nm)], .bool true] w fun e w' => TakSays R d f u g t 9 (takFs f up nm t) w e w' := by
 obtain ⟨oo, cc, rfl, -⟩ := aM9 hD.own.row
 have HD := qhZ hD
 have hpl8 : ps.length ≤ 1048576 := by rw [hD.len]; exact (aG9 hs).1
 have HNO := qhZ (fun W (h : Drf W d R (.slice oo ps.length cc) ps f u g t) => nodeOf_is f u g t up nm true _ hup hie hnb hs hri d R _ ps W h)
 have hnl : nd < ps.length := by rw [hD.len]; exact hndl
 obtain ⟨G, cap, e0, hRG, hGl, hnc, hm, hc, hfr⟩ := hD.own.at hnl
 simp only [Value.slice.injEq, true_and] at e0
 obtain ⟨rfl, rfl⟩ := e0
 have hq1 : ps[nd].1 = aC9 f.nodes nd := at_map hD.map hnl
 have x0 : w.cell? ⟨G, nd * 7, none⟩ = some (.int .i64 (aC9 f.nodes nd).kind) := by rw [← hq1]; exact hc.c0
 have x6 : w.cell? ⟨G, nd * 7 + 6, none⟩ = some ps[nd].2 := hc.c6
 obtain ⟨oe, ce, hev, -⟩ := aM9 (hD.own.ent _ (List.getElem_mem hnl))
 rw [hev, hq1] at x6
 obtain ⟨kd, hkd⟩ : ∃ kd, kd = (aC9 f.nodes nd).kind := ⟨_, rfl⟩
 obtain ⟨ln, hln⟩ : ∃ ln, ln = (aC9 f.nodes nd).list.length := ⟨_, rfl⟩
 rw [← hkd] at x0 hkk
 rw [← hln] at x6
 have hk2 : kd = 2 := hkk
 subst hk2
 have hl0 : (0 : Int) < (ln : Int) := by omega
 obtain ⟨xn, hxn⟩ : ∃ xn, xn = bs nm := ⟨_, rfl⟩
 rw [← hxn]
 rw [← hxn] at HNO
 obtain ⟨W0, hW0⟩ : ∃ W0, W0 = w.alloc (.cells #[.int .i64 up, .string xn] 77) := ⟨_, rfl⟩
 have HK0 : Hid (Below w.heap.size w W0) := qhZ (by rw [hW0]; exact (Below.refl _ _).alloc (Nat.le_refl _) _)
 have KS0 : Hid (W0.heap[w.heap.size]? = some (.cells #[.int .i64 up, .string xn] 77)) := qhZ (by rw [hW0]; exact heap_alloc_new w _)
 have HWX := qhZ hW0
 have s0 : W0.cell? ⟨w.heap.size, 0, none⟩ = some (.int .i64 up) := (aA9 KS0.out 0).trans rfl
 have s1 : W0.cell? ⟨w.heap.size, 1, none⟩ = some (.string xn) := (aA9 KS0.out 1).trans rfl
 clear hD hW0 hs hk hxn hri hie hnb hc hfr hq1 hev hkd hln hkk hll
 go_enter Tryz.func88, Tryz.ntmps88
 go_upto_region 1 with fail
 rw [← HWX.out]
 go_wp2_with fail
 refine (HNO.out _ (HD.out.below HK0.out)).mono ?_
 rintro e w1 ⟨rfl, hb1⟩
 have HB1 := qhZ (HK0.out.trans (hb1.mono HK0.out.size))
 have KS1 := qhZ (aD9 hb1 KS0.out)
 clear hb1 s0 s1
 simp only [if_true]
 have KD1 := qhZ (aD9 HB1.out HD.out.box)
 have d0 : w1.cell? ⟨d, 0, none⟩ = some (.slice (some ⟨G, 0, none⟩) ps.length cc) := (aA9 KD1.out 0).trans rfl
 have k0 : w1.cell? ⟨G, nd * 7, none⟩ = some (.int .i64 2) := (HB1.out.cell (p := ⟨G, nd * 7, none⟩) hGl).trans x0
 have k6 : w1.cell? ⟨G, nd * 7 + 6, none⟩ = some (.slice oe ln ce) := (HB1.out.cell (p := ⟨G, nd * 7 + 6, none⟩) hGl).trans x6
 have n0 : (0 : Int) ≤ (nd : Int) := by omega
 have n1 : (nd : Int) < (ps.length : Int) := by omega
 have s0 : w1.cell? ⟨w.heap.size, 0, none⟩ = some (.int .i64 up) := (aA9 KS1.out 0).trans rfl
 have s1 : w1.cell? ⟨w.heap.size, 1, none⟩ = some (.string xn) := (aA9 KS1.out 1).trans rfl
 clear x0 x6
 go_wp2
 go_ret
 exact tak_told (E := codeV 9) (says_codeT (by decide)) (by decide) hR HD.out HB1.out
set_option maxRecDepth 100000 in
theorem takeAway_Df (f : FsD) (u g t : Int) (up : Nat) (nm : List UInt8) (hie : isE (aC9 f.nodes up).list nm = true) (nd : Nat) (hnb : nbN (aC9 f.nodes up).list nm = (nd : Int)) (hndl : nd < f.nodes.length) (hkk : (aC9 f.nodes nd).kind ≠ 2) (hll : 0 < (aC9 f.nodes nd).list.length) (hup : up < f.nodes.length) (hri : Rise (aC9 f.nodes up).list) (hs : szF f ≤ 1048576) (hk : bC9 f u g = true) (d R : Nat) (nv : Value) (ps : List (Nod × Value)) (w : World) (hR : R ≤ w.heap.size) (hRd : R ≤ d) (hD : Drf w d R nv ps f u g t) :
   Calls Tryz.prog 88 #[.pointer (some ⟨d, 0, none⟩), .agg #[.int .i64 up, .string (bs nm)], .bool false] w fun e w' => TakSays R d f u g t 9 (takFs f up nm t) w e w' := by
 obtain ⟨oo, cc, rfl, -⟩ := aM9 hD.own.row
 have HD := qhZ hD
 have hpl8 : ps.length ≤ 1048576 := by rw [hD.len]; exact (aG9 hs).1
 have HNO := qhZ (fun W (h : Drf W d R (.slice oo ps.length cc) ps f u g t) => nodeOf_is f u g t up nm true _ hup hie hnb hs hri d R _ ps W h)
 have hnl : nd < ps.length := by rw [hD.len]; exact hndl
 obtain ⟨G, cap, e0, hRG, hGl, hnc, hm, hc, hfr⟩ := hD.own.at hnl
 simp only [Value.slice.injEq, true_and] at e0
 obtain ⟨rfl, rfl⟩ := e0
 have hq1 : ps[nd].1 = aC9 f.nodes nd := at_map hD.map hnl
 have x0 : w.cell? ⟨G, nd * 7, none⟩ = some (.int .i64 (aC9 f.nodes nd).kind) := by rw [← hq1]; exact hc.c0
 have x6 : w.cell? ⟨G, nd * 7 + 6, none⟩ = some ps[nd].2 := hc.c6
 obtain ⟨oe, ce, hev, -⟩ := aM9 (hD.own.ent _ (List.getElem_mem hnl))
 rw [hev, hq1] at x6
 obtain ⟨kd, hkd⟩ : ∃ kd, kd = (aC9 f.nodes nd).kind := ⟨_, rfl⟩
 obtain ⟨ln, hln⟩ : ∃ ln, ln = (aC9 f.nodes nd).list.length := ⟨_, rfl⟩
 rw [← hkd] at x0 hkk
 rw [← hln] at x6
 have zb : (kd == 2) = false := by simpa using hkk
 have hl0 : (0 : Int) < (ln : Int) := by omega
 obtain ⟨xn, hxn⟩ : ∃ xn, xn = bs nm := ⟨_, rfl⟩
 rw [← hxn]
 rw [← hxn] at HNO
 obtain ⟨W0, hW0⟩ : ∃ W0, W0 = w.alloc (.cells #[.int .i64 up, .string xn] 77) := ⟨_, rfl⟩
 have HK0 : Hid (Below w.heap.size w W0) := qhZ (by rw [hW0]; exact (Below.refl _ _).alloc (Nat.le_refl _) _)
 have KS0 : Hid (W0.heap[w.heap.size]? = some (.cells #[.int .i64 up, .string xn] 77)) := qhZ (by rw [hW0]; exact heap_alloc_new w _)
 have HWX := qhZ hW0
 have s0 : W0.cell? ⟨w.heap.size, 0, none⟩ = some (.int .i64 up) := (aA9 KS0.out 0).trans rfl
 have s1 : W0.cell? ⟨w.heap.size, 1, none⟩ = some (.string xn) := (aA9 KS0.out 1).trans rfl
 clear hD hW0 hs hk hxn hri hie hnb hc hfr hq1 hev hkd hln hkk hll
 go_enter Tryz.func88, Tryz.ntmps88
 go_upto_region 1 with fail
 rw [← HWX.out]
 go_wp2_with fail
 refine (HNO.out _ (HD.out.below HK0.out)).mono ?_
 rintro e w1 ⟨rfl, hb1⟩
 have HB1 := qhZ (HK0.out.trans (hb1.mono HK0.out.size))
 have KS1 := qhZ (aD9 hb1 KS0.out)
 clear hb1 s0 s1
 simp only [if_true]
 have KD1 := qhZ (aD9 HB1.out HD.out.box)
 have d0 : w1.cell? ⟨d, 0, none⟩ = some (.slice (some ⟨G, 0, none⟩) ps.length cc) := (aA9 KD1.out 0).trans rfl
 have k0 : w1.cell? ⟨G, nd * 7, none⟩ = some (.int .i64 kd) := (HB1.out.cell (p := ⟨G, nd * 7, none⟩) hGl).trans x0
 have k6 : w1.cell? ⟨G, nd * 7 + 6, none⟩ = some (.slice oe ln ce) := (HB1.out.cell (p := ⟨G, nd * 7 + 6, none⟩) hGl).trans x6
 have n0 : (0 : Int) ≤ (nd : Int) := by omega
 have n1 : (nd : Int) < (ps.length : Int) := by omega
 have s0 : w1.cell? ⟨w.heap.size, 0, none⟩ = some (.int .i64 up) := (aA9 KS1.out 0).trans rfl
 have s1 : w1.cell? ⟨w.heap.size, 1, none⟩ = some (.string xn) := (aA9 KS1.out 1).trans rfl
 clear x0 x6
 go_wp2
 go_ret
 exact tak_told (E := codeV 9) (says_codeT (by decide)) (by decide) hR HD.out HB1.out
set_option maxRecDepth 100000 in
theorem takeAway_Et (f : FsD) (u g t : Int) (up : Nat) (nm : List UInt8) (hie : isE (aC9 f.nodes up).list nm = true) (nd : Nat) (hnb : nbN (aC9 f.nodes up).list nm = (nd : Int)) (hndl : nd < f.nodes.length) (hkk : (aC9 f.nodes nd).kind = 2) (hll : (aC9 f.nodes nd).list.length = 0) (hdc : errC (dirC (aC9 f.nodes up) u g 3) = codeV 4) (hup : up < f.nodes.length) (hri : Rise (aC9 f.nodes up).list) (hs : szF f ≤ 1048576) (hk : bC9 f u g = true) (d R : Nat) (nv : Value) (ps : List (Nod × Value)) (w : World) (hR : R ≤ w.heap.size) (hRd : R ≤ d) (hD : Drf w d R nv ps f u g t) :
   Calls Tryz.prog 88 #[.pointer (some ⟨d, 0, none⟩), .agg #[.int .i64 up, .string (bs nm)], .bool true] w fun e w' => TakSays R d f u g t 4 (takFs f up nm t) w e w' := by
 obtain ⟨oo, cc, rfl, -⟩ := aM9 hD.own.row
 have HD := qhZ hD
 have hpl8 : ps.length ≤ 1048576 := by rw [hD.len]; exact (aG9 hs).1
 have HNO := qhZ (fun W (h : Drf W d R (.slice oo ps.length cc) ps f u g t) => nodeOf_is f u g t up nm true _ hup hie hnb hs hri d R _ ps W h)
 have hnl : nd < ps.length := by rw [hD.len]; exact hndl
 obtain ⟨G, cap, e0, hRG, hGl, hnc, hm, hc, hfr⟩ := hD.own.at hnl
 simp only [Value.slice.injEq, true_and] at e0
 obtain ⟨rfl, rfl⟩ := e0
 have hq1 : ps[nd].1 = aC9 f.nodes nd := at_map hD.map hnl
 have x0 : w.cell? ⟨G, nd * 7, none⟩ = some (.int .i64 (aC9 f.nodes nd).kind) := by rw [← hq1]; exact hc.c0
 have x6 : w.cell? ⟨G, nd * 7 + 6, none⟩ = some ps[nd].2 := hc.c6
 obtain ⟨oe, ce, hev, -⟩ := aM9 (hD.own.ent _ (List.getElem_mem hnl))
 rw [hev, hq1] at x6
 obtain ⟨kd, hkd⟩ : ∃ kd, kd = (aC9 f.nodes nd).kind := ⟨_, rfl⟩
 obtain ⟨ln, hln⟩ : ∃ ln, ln = (aC9 f.nodes nd).list.length := ⟨_, rfl⟩
 rw [← hkd] at x0 hkk
 rw [← hln] at x6
 have hk2 : kd = 2 := hkk
 subst hk2
 have hl0 : ln = 0 := by omega
 subst hl0
 have HCK := qhZ (fun W (h : Drf W d R (.slice (some ⟨G, 0, none⟩) ps.length cc) ps f u g t) => checkChange_is f u g t up nm _ hup hdc hs hk d R _ ps W h)
 obtain ⟨xn, hxn⟩ : ∃ xn, xn = bs nm := ⟨_, rfl⟩
 rw [← hxn]
 rw [← hxn] at HNO
 rw [← hxn] at HCK
 obtain ⟨W0, hW0⟩ : ∃ W0, W0 = w.alloc (.cells #[.int .i64 up, .string xn] 77) := ⟨_, rfl⟩
 have HK0 : Hid (Below w.heap.size w W0) := qhZ (by rw [hW0]; exact (Below.refl _ _).alloc (Nat.le_refl _) _)
 have KS0 : Hid (W0.heap[w.heap.size]? = some (.cells #[.int .i64 up, .string xn] 77)) := qhZ (by rw [hW0]; exact heap_alloc_new w _)
 have HWX := qhZ hW0
 have s0 : W0.cell? ⟨w.heap.size, 0, none⟩ = some (.int .i64 up) := (aA9 KS0.out 0).trans rfl
 have s1 : W0.cell? ⟨w.heap.size, 1, none⟩ = some (.string xn) := (aA9 KS0.out 1).trans rfl
 clear hD hW0 hs hk hxn hri hie hnb hc hfr hq1 hev hkd hln hkk hll hdc
 go_enter Tryz.func88, Tryz.ntmps88
 go_upto_region 1 with fail
 rw [← HWX.out]
 go_wp2_with fail
 refine (HNO.out _ (HD.out.below HK0.out)).mono ?_
 rintro e w1 ⟨rfl, hb1⟩
 have HB1 := qhZ (HK0.out.trans (hb1.mono HK0.out.size))
 have KS1 := qhZ (aD9 hb1 KS0.out)
 clear hb1 s0 s1
 simp only [if_true]
 have KD1 := qhZ (aD9 HB1.out HD.out.box)
 have d0 : w1.cell? ⟨d, 0, none⟩ = some (.slice (some ⟨G, 0, none⟩) ps.length cc) := (aA9 KD1.out 0).trans rfl
 have k0 : w1.cell? ⟨G, nd * 7, none⟩ = some (.int .i64 2) := (HB1.out.cell (p := ⟨G, nd * 7, none⟩) hGl).trans x0
 have k6 : w1.cell? ⟨G, nd * 7 + 6, none⟩ = some (.slice oe 0 ce) := (HB1.out.cell (p := ⟨G, nd * 7 + 6, none⟩) hGl).trans x6
 have n0 : (0 : Int) ≤ (nd : Int) := by omega
 have n1 : (nd : Int) < (ps.length : Int) := by omega
 have s0 : w1.cell? ⟨w.heap.size, 0, none⟩ = some (.int .i64 up) := (aA9 KS1.out 0).trans rfl
 have s1 : w1.cell? ⟨w.heap.size, 1, none⟩ = some (.string xn) := (aA9 KS1.out 1).trans rfl
 clear x0 x6
 go_wp2_with (go_at_call 91; refine (HCK.out _ (HD.out.below HB1.out)).mono ?_)
 rintro e w2 ⟨rfl, hb2⟩
 have HB2 := qhZ (HB1.out.trans (hb2.mono HB1.out.size))
 clear hb2
 unfold codeV
 go_wp2
 go_ret
 exact tak_told (E := codeV 4) (says_codeT (by decide)) (by decide) hR HD.out HB2.out
set_option maxRecDepth 100000 in
theorem takeAway_Ef (f : FsD) (u g t : Int) (up : Nat) (nm : List UInt8) (hie : isE (aC9 f.nodes up).list nm = true) (nd : Nat) (hnb : nbN (aC9 f.nodes up).list nm = (nd : Int)) (hndl : nd < f.nodes.length) (hkk : (aC9 f.nodes nd).kind ≠ 2) (hll : (aC9 f.nodes nd).list.length = 0) (hdc : errC (dirC (aC9 f.nodes up) u g 3) = codeV 4) (hup : up < f.nodes.length) (hri : Rise (aC9 f.nodes up).list) (hs : szF f ≤ 1048576) (hk : bC9 f u g = true) (d R : Nat) (nv : Value) (ps : List (Nod × Value)) (w : World) (hR : R ≤ w.heap.size) (hRd : R ≤ d) (hD : Drf w d R nv ps f u g t) :
   Calls Tryz.prog 88 #[.pointer (some ⟨d, 0, none⟩), .agg #[.int .i64 up, .string (bs nm)], .bool false] w fun e w' => TakSays R d f u g t 4 (takFs f up nm t) w e w' := by
 obtain ⟨oo, cc, rfl, -⟩ := aM9 hD.own.row
 have HD := qhZ hD
 have hpl8 : ps.length ≤ 1048576 := by rw [hD.len]; exact (aG9 hs).1
 have HNO := qhZ (fun W (h : Drf W d R (.slice oo ps.length cc) ps f u g t) => nodeOf_is f u g t up nm true _ hup hie hnb hs hri d R _ ps W h)
 have hnl : nd < ps.length := by rw [hD.len]; exact hndl
 obtain ⟨G, cap, e0, hRG, hGl, hnc, hm, hc, hfr⟩ := hD.own.at hnl
 simp only [Value.slice.injEq, true_and] at e0
 obtain ⟨rfl, rfl⟩ := e0
 have hq1 : ps[nd].1 = aC9 f.nodes nd := at_map hD.map hnl
 have x0 : w.cell? ⟨G, nd * 7, none⟩ = some (.int .i64 (aC9 f.nodes nd).kind) := by rw [← hq1]; exact hc.c0
 have x6 : w.cell? ⟨G, nd * 7 + 6, none⟩ = some ps[nd].2 := hc.c6
 obtain ⟨oe, ce, hev, -⟩ := aM9 (hD.own.ent _ (List.getElem_mem hnl))
 rw [hev, hq1] at x6
 obtain ⟨kd, hkd⟩ : ∃ kd, kd = (aC9 f.nodes nd).kind := ⟨_, rfl⟩
 obtain ⟨ln, hln⟩ : ∃ ln, ln = (aC9 f.nodes nd).list.length := ⟨_, rfl⟩
 rw [← hkd] at x0 hkk
 rw [← hln] at x6
 have zb : (kd == 2) = false := by simpa using hkk
 have hl0 : ln = 0 := by omega
 subst hl0
 have HCK := qhZ (fun W (h : Drf W d R (.slice (some ⟨G, 0, none⟩) ps.length cc) ps f u g t) => checkChange_is f u g t up nm _ hup hdc hs hk d R _ ps W h)
 obtain ⟨xn, hxn⟩ : ∃ xn, xn = bs nm := ⟨_, rfl⟩
 rw [← hxn]
 rw [← hxn] at HNO
 rw [← hxn] at HCK
 obtain ⟨W0, hW0⟩ : ∃ W0, W0 = w.alloc (.cells #[.int .i64 up, .string xn] 77) := ⟨_, rfl⟩
 have HK0 : Hid (Below w.heap.size w W0) := qhZ (by rw [hW0]; exact (Below.refl _ _).alloc (Nat.le_refl _) _)
 have KS0 : Hid (W0.heap[w.heap.size]? = some (.cells #[.int .i64 up, .string xn] 77)) := qhZ (by rw [hW0]; exact heap_alloc_new w _)
 have HWX := qhZ hW0
 have s0 : W0.cell? ⟨w.heap.size, 0, none⟩ = some (.int .i64 up) := (aA9 KS0.out 0).trans rfl
 have s1 : W0.cell? ⟨w.heap.size, 1, none⟩ = some (.string xn) := (aA9 KS0.out 1).trans rfl
 clear hD hW0 hs hk hxn hri hie hnb hc hfr hq1 hev hkd hln hkk hll hdc
 go_enter Tryz.func88, Tryz.ntmps88
 go_upto_region 1 with fail
 rw [← HWX.out]
 go_wp2_with fail
 refine (HNO.out _ (HD.out.below HK0.out)).mono ?_
 rintro e w1 ⟨rfl, hb1⟩
 have HB1 := qhZ (HK0.out.trans (hb1.mono HK0.out.size))
 have KS1 := qhZ (aD9 hb1 KS0.out)
 clear hb1 s0 s1
 simp only [if_true]
 have KD1 := qhZ (aD9 HB1.out HD.out.box)
 have d0 : w1.cell? ⟨d, 0, none⟩ = some (.slice (some ⟨G, 0, none⟩) ps.length cc) := (aA9 KD1.out 0).trans rfl
 have k0 : w1.cell? ⟨G, nd * 7, none⟩ = some (.int .i64 kd) := (HB1.out.cell (p := ⟨G, nd * 7, none⟩) hGl).trans x0
 have k6 : w1.cell? ⟨G, nd * 7 + 6, none⟩ = some (.slice oe 0 ce) := (HB1.out.cell (p := ⟨G, nd * 7 + 6, none⟩) hGl).trans x6
 have n0 : (0 : Int) ≤ (nd : Int) := by omega
 have n1 : (nd : Int) < (ps.length : Int) := by omega
 have s0 : w1.cell? ⟨w.heap.size, 0, none⟩ = some (.int .i64 up) := (aA9 KS1.out 0).trans rfl
 have s1 : w1.cell? ⟨w.heap.size, 1, none⟩ = some (.string xn) := (aA9 KS1.out 1).trans rfl
 clear x0 x6
 go_wp2_with (go_at_call 91; refine (HCK.out _ (HD.out.below HB1.out)).mono ?_)
 rintro e w2 ⟨rfl, hb2⟩
 have HB2 := qhZ (HB1.out.trans (hb2.mono HB1.out.size))
 clear hb2
 unfold codeV
 go_wp2
 go_ret
 exact tak_told (E := codeV 4) (says_codeT (by decide)) (by decide) hR HD.out HB2.out
set_option maxRecDepth 100000 in
theorem takeAway_Ft (f : FsD) (u g t : Int) (up : Nat) (nm : List UInt8) (hie : isE (aC9 f.nodes up).list nm = true) (nd : Nat) (hnb : nbN (aC9 f.nodes up).list nm = (nd : Int)) (hndl : nd < f.nodes.length) (hkk : (aC9 f.nodes nd).kind = 2) (hll : (aC9 f.nodes nd).list.length = 0) (hdc : errC (dirC (aC9 f.nodes up) u g 3) = .nilIface) (hld : Lead f.nodes) (hup : up < f.nodes.length) (hri : Rise (aC9 f.nodes up).list) (hs : szF f ≤ 1048576) (hk : bC9 f u g = true) (d R : Nat) (nv : Value) (ps : List (Nod × Value)) (w : World) (hR : R ≤ w.heap.size) (hRd : R ≤ d) (hD : Drf w d R nv ps f u g t) :
   Calls Tryz.prog 88 #[.pointer (some ⟨d, 0, none⟩), .agg #[.int .i64 up, .string (bs nm)], .bool true] w fun e w' => TakSays R d f u g t 0 (takFs f up nm t) w e w' := by
 obtain ⟨oo, cc, rfl, -⟩ := aM9 hD.own.row
 have HD := qhZ hD
 have hpl8 : ps.length ≤ 1048576 := by rw [hD.len]; exact (aG9 hs).1
 have HNO := qhZ (fun W (h : Drf W d R (.slice oo ps.length cc) ps f u g t) => nodeOf_is f u g t up nm true _ hup hie hnb hs hri d R _ ps W h)
 have hnl : nd < ps.length := by rw [hD.len]; exact hndl
 obtain ⟨G, cap, e0, hRG, hGl, hnc, hm, hc, hfr⟩ := hD.own.at hnl
 simp only [Value.slice.injEq, true_and] at e0
 obtain ⟨rfl, rfl⟩ := e0
 have hq1 : ps[nd].1 = aC9 f.nodes nd := at_map hD.map hnl
 have x0 : w.cell? ⟨G, nd * 7, none⟩ = some (.int .i64 (aC9 f.nodes nd).kind) := by rw [← hq1]; exact hc.c0
 have x6 : w.cell? ⟨G, nd * 7 + 6, none⟩ = some ps[nd].2 := hc.c6
 obtain ⟨oe, ce, hev, -⟩ := aM9 (hD.own.ent _ (List.getElem_mem hnl))
 rw [hev, hq1] at x6
 obtain ⟨kd, hkd⟩ : ∃ kd, kd = (aC9 f.nodes nd).kind := ⟨_, rfl⟩
 obtain ⟨ln, hln⟩ : ∃ ln, ln = (aC9 f.nodes nd).list.length := ⟨_, rfl⟩
 rw [← hkd] at x0 hkk
 rw [← hln] at x6
 have hk2 : kd = 2 := hkk
 subst hk2
 have hl0 : ln = 0 := by omega
 subst hl0
 have HCK := qhZ (fun W (h : Drf W d R (.slice (some ⟨G, 0, none⟩) ps.length cc) ps f u g t) => checkChange_is f u g t up nm _ hup hdc hs hk d R _ ps W h)
 have HDR := qhZ (fun W (hw : R ≤ W.heap.size) (h : Drf W d R (.slice (some ⟨G, 0, none⟩) ps.length cc) ps f u g t) => dropName_any f u g t up nm nd hup hri hie hnb hndl hld hs d R _ ps W hw hRd h)
 obtain ⟨xn, hxn⟩ : ∃ xn, xn = bs nm := ⟨_, rfl⟩
 rw [← hxn]
 rw [← hxn] at HNO
 rw [← hxn] at HCK
 rw [← hxn] at HDR
 obtain ⟨W0, hW0⟩ : ∃ W0, W0 = w.alloc (.cells #[.int .i64 up, .string xn] 77) := ⟨_, rfl⟩
 have HK0 : Hid (Below w.heap.size w W0) := qhZ (by rw [hW0]; exact (Below.refl _ _).alloc (Nat.le_refl _) _)
 have KS0 : Hid (W0.heap[w.heap.size]? = some (.cells #[.int .i64 up, .string xn] 77)) := qhZ (by rw [hW0]; exact heap_alloc_new w _)
 have HWX := qhZ hW0
 have s0 : W0.cell? ⟨w.heap.size, 0, none⟩ = some (.int .i64 up) := (aA9 KS0.out 0).trans rfl
 have s1 : W0.cell? ⟨w.heap.size, 1, none⟩ = some (.string xn) := (aA9 KS0.out 1).trans rfl
 clear hD hW0 hs hk hxn hri hie hnb hc hfr hq1 hev hkd hln hkk hll hdc hld
 go_enter Tryz.func88, Tryz.ntmps88
 go_upto_region 1 with fail
 rw [← HWX.out]
 go_wp2_with fail
 refine (HNO.out _ (HD.out.below HK0.out)).mono ?_
 rintro e w1 ⟨rfl, hb1⟩
 have HB1 := qhZ (HK0.out.trans (hb1.mono HK0.out.size))
 have KS1 := qhZ (aD9 hb1 KS0.out)
 clear hb1 s0 s1
 simp only [if_true]
 have KD1 := qhZ (aD9 HB1.out HD.out.box)
 have d0 : w1.cell? ⟨d, 0, none⟩ = some (.slice (some ⟨G, 0, none⟩) ps.length cc) := (aA9 KD1.out 0).trans rfl
 have k0 : w1.cell? ⟨G, nd * 7, none⟩ = some (.int .i64 2) := (HB1.out.cell (p := ⟨G, nd * 7, none⟩) hGl).trans x0
 have k6 : w1.cell? ⟨G, nd * 7 + 6, none⟩ = some (.slice oe 0 ce) := (HB1.out.cell (p := ⟨G, nd * 7 + 6, none⟩) hGl).trans x6
 have n0 : (0 : Int) ≤ (nd : Int) := by omega
 have n1 : (nd : Int) < (ps.length : Int) := by omega
 have s0 : w1.cell? ⟨w.heap.size, 0, none⟩ = some (.int .i64 up) := (aA9 KS1.out 0).trans rfl
 have s1 : w1.cell? ⟨w.heap.size, 1, none⟩ = some (.string xn) := (aA9 KS1.out 1).trans rfl
 clear x0 x6
 go_wp2_with (go_at_call 91; refine (HCK.out _ (HD.out.below HB1.out)).mono ?_)
 rintro e w2 ⟨rfl, hb2⟩
 have HB2 := qhZ (HB1.out.trans (hb2.mono HB1.out.size))
 have KS2 := qhZ (aD9 hb2 KS1.out)
 clear hb2 s0 s1 k0 k6 d0
 have s0 : w2.cell? ⟨w.heap.size, 0, none⟩ = some (.int .i64 up) := (aA9 KS2.out 0).trans rfl
 have s1 : w2.cell? ⟨w.heap.size, 1, none⟩ = some (.string xn) := (aA9 KS2.out 1).trans rfl
 go_wp2_with (go_at_call 126; refine (HDR.out _ (Nat.le_trans hR HB2.out.size) (HD.out.below HB2.out)).mono ?_)
 rintro e w3 ⟨rfl, hb3, ps3, hd3, hm3, ho3⟩
 have HB3 := qhZ ((HB2.out.mono hR).trans hb3)
 have HX3 := qhZ hd3
 have HM3 := qhZ hm3
 have HO3 := qhZ ho3
 clear hb3 hd3 hm3 ho3 s0 s1
 go_wp2
 go_ret
 exact ⟨.nilIface, rfl, says_C 0, HB3.out, _, ps3, HX3.out, HO3.out, fun _ => ⟨rfl, HM3.out⟩⟩
set_option maxRecDepth 100000 in
theorem takeAway_Ff (f : FsD) (u g t : Int) (up : Nat) (nm : List UInt8) (hie : isE (aC9 f.nodes up).list nm = true) (nd : Nat) (hnb : nbN (aC9 f.nodes up).list nm = (nd : Int)) (hndl : nd < f.nodes.length) (hkk : (aC9 f.nodes nd).kind ≠ 2) (hll : (aC9 f.nodes nd).list.length = 0) (hdc : errC (dirC (aC9 f.nodes up) u g 3) = .nilIface) (hld : Lead f.nodes) (hup : up < f.nodes.length) (hri : Rise (aC9 f.nodes up).list) (hs : szF f ≤ 1048576) (hk : bC9 f u g = true) (d R : Nat) (nv : Value) (ps : List (Nod × Value)) (w : World) (hR : R ≤ w.heap.size) (hRd : R ≤ d) (hD : Drf w d R nv ps f u g t) :
   Calls Tryz.prog 88 #[.pointer (some ⟨d, 0, none⟩), .agg #[.int .i64 up, .string (bs nm)], .bool false] w fun e w' => TakSays R d f u g t 0 (takFs f up nm t) w e w' := by
 obtain ⟨oo, cc, rfl, -⟩ := aM9 hD.own.row
 have HD := qhZ hD
 have hpl8 : ps.length ≤ 1048576 := by rw [hD.len]; exact (aG9 hs).1
 have HNO := qhZ (fun W (h : Drf W d R (.slice oo ps.length cc) ps f u g t) => nodeOf_is f u g t up nm true _ hup hie hnb hs hri d R _ ps W h)
 have hnl : nd < ps.length := by rw [hD.len]; exact hndl
 obtain ⟨G, cap, e0, hRG, hGl, hnc, hm, hc, hfr⟩ := hD.own.at hnl
 simp only [Value.slice.injEq, true_and] at e0
 obtain ⟨rfl, rfl⟩ := e0
 have hq1 : ps[nd].1 = aC9 f.nodes nd := at_map hD.map hnl
 have x0 : w.cell? ⟨G, nd * 7, none⟩ = some (.int .i64 (aC9 f.nodes nd).kind) := by rw [← hq1]; exact hc.c0
 have x6 : w.cell? ⟨G, nd * 7 + 6, none⟩ = some ps[nd].2 := hc.c6
 obtain ⟨oe, ce, hev, -⟩ := aM9 (hD.own.ent _ (List.getElem_mem hnl))
 rw [hev, hq1] at x6
 obtain ⟨kd, hkd⟩ : ∃ kd, kd = (aC9 f.nodes nd).kind := ⟨_, rfl⟩
 obtain ⟨ln, hln⟩ : ∃ ln, ln = (aC9 f.nodes nd).list.length := ⟨_, rfl⟩
 rw [← hkd] at x0 hkk
 rw [← hln] at x6
 have zb : (kd == 2) = false := by simpa using hkk
 have hl0 : ln = 0 := by omega
 subst hl0
 have HCK := qhZ (fun W (h : Drf W d R (.slice (some ⟨G, 0, none⟩) ps.length cc) ps f u g t) => checkChange_is f u g t up nm _ hup hdc hs hk d R _ ps W h)
 have HDR := qhZ (fun W (hw : R ≤ W.heap.size) (h : Drf W d R (.slice (some ⟨G, 0, none⟩) ps.length cc) ps f u g t) => dropName_any f u g t up nm nd hup hri hie hnb hndl hld hs d R _ ps W hw hRd h)
 obtain ⟨xn, hxn⟩ : ∃ xn, xn = bs nm := ⟨_, rfl⟩
 rw [← hxn]
 rw [← hxn] at HNO
 rw [← hxn] at HCK
 rw [← hxn] at HDR
 obtain ⟨W0, hW0⟩ : ∃ W0, W0 = w.alloc (.cells #[.int .i64 up, .string xn] 77) := ⟨_, rfl⟩
 have HK0 : Hid (Below w.heap.size w W0) := qhZ (by rw [hW0]; exact (Below.refl _ _).alloc (Nat.le_refl _) _)
 have KS0 : Hid (W0.heap[w.heap.size]? = some (.cells #[.int .i64 up, .string xn] 77)) := qhZ (by rw [hW0]; exact heap_alloc_new w _)
 have HWX := qhZ hW0
 have s0 : W0.cell? ⟨w.heap.size, 0, none⟩ = some (.int .i64 up) := (aA9 KS0.out 0).trans rfl
 have s1 : W0.cell? ⟨w.heap.size, 1, none⟩ = some (.string xn) := (aA9 KS0.out 1).trans rfl
 clear hD hW0 hs hk hxn hri hie hnb hc hfr hq1 hev hkd hln hkk hll hdc hld
 go_enter Tryz.func88, Tryz.ntmps88
 go_upto_region 1 with fail
 rw [← HWX.out]
 go_wp2_with fail
 refine (HNO.out _ (HD.out.below HK0.out)).mono ?_
 rintro e w1 ⟨rfl, hb1⟩
 have HB1 := qhZ (HK0.out.trans (hb1.mono HK0.out.size))
 have KS1 := qhZ (aD9 hb1 KS0.out)
 clear hb1 s0 s1
 simp only [if_true]
 have KD1 := qhZ (aD9 HB1.out HD.out.box)
 have d0 : w1.cell? ⟨d, 0, none⟩ = some (.slice (some ⟨G, 0, none⟩) ps.length cc) := (aA9 KD1.out 0).trans rfl
 have k0 : w1.cell? ⟨G, nd * 7, none⟩ = some (.int .i64 kd) := (HB1.out.cell (p := ⟨G, nd * 7, none⟩) hGl).trans x0
 have k6 : w1.cell? ⟨G, nd * 7 + 6, none⟩ = some (.slice oe 0 ce) := (HB1.out.cell (p := ⟨G, nd * 7 + 6, none⟩) hGl).trans x6
 have n0 : (0 : Int) ≤ (nd : Int) := by omega
 have n1 : (nd : Int) < (ps.length : Int) := by omega
 have s0 : w1.cell? ⟨w.heap.size, 0, none⟩ = some (.int .i64 up) := (aA9 KS1.out 0).trans rfl
 have s1 : w1.cell? ⟨w.heap.size, 1, none⟩ = some (.string xn) := (aA9 KS1.out 1).trans rfl
 clear x0 x6
 go_wp2_with (go_at_call 91; refine (HCK.out _ (HD.out.below HB1.out)).mono ?_)
 rintro e w2 ⟨rfl, hb2⟩
 have HB2 := qhZ (HB1.out.trans (hb2.mono HB1.out.size))
 have KS2 := qhZ (aD9 hb2 KS1.out)
 clear hb2 s0 s1 k0 k6 d0
 have s0 : w2.cell? ⟨w.heap.size, 0, none⟩ = some (.int .i64 up) := (aA9 KS2.out 0).trans rfl
 have s1 : w2.cell? ⟨w.heap.size, 1, none⟩ = some (.string xn) := (aA9 KS2.out 1).trans rfl
 go_wp2_with (go_at_call 126; refine (HDR.out _ (Nat.le_trans hR HB2.out.size) (HD.out.below HB2.out)).mono ?_)
 rintro e w3 ⟨rfl, hb3, ps3, hd3, hm3, ho3⟩
 have HB3 := qhZ ((HB2.out.mono hR).trans hb3)
 have HX3 := qhZ hd3
 have HM3 := qhZ hm3
 have HO3 := qhZ ho3
 clear hb3 hd3 hm3 ho3 s0 s1
 go_wp2
 go_ret
 exact ⟨.nilIface, rfl, says_C 0, HB3.out, _, ps3, HX3.out, HO3.out, fun _ => ⟨rfl, HM3.out⟩⟩
theorem takeAway_is (f : FsD) (u g t : Int) (up : Nat) (nm : List UInt8) (dir : Bool) (hup : up < f.nodes.length) (hkd : (aC9 f.nodes up).kind = 2) (hs : szF f ≤ 1048576) (hk : bC9 f u g = true) (d R : Nat) (nv : Value) (ps : List (Nod × Value)) (w : World) (hR : R ≤ w.heap.size) (hRd : R ≤ d) (hD : Drf w d R nv ps f u g t) :
   Calls Tryz.prog 88 #[.pointer (some ⟨d, 0, none⟩), .agg #[.int .i64 up, .string (bs nm)], .bool dir] w fun e w' => TakSays R d f u g t (tkC f u g up nm dir) (takFs f up nm t) w e w' := by
 have hg := bN9 hk
 have hri := rise_node (good_nods hg) up
 have hld := leadI (good_nods hg)
 cases hi : isE (aC9 f.nodes up).list nm with
 | false => rw [tkC_none hi]; exact takeAway_A f u g t up nm dir hi hup hri hs hk d R nv ps w hR hRd hD
 | true =>
   obtain ⟨nd, hnb, hndl, -⟩ := nbN_in hup hld hri hi
   rw [tkC_kind hi hnb]
   by_cases hll : 0 < (aC9 f.nodes nd).list.length
   · cases dir with
     | true =>
       by_cases h2 : (aC9 f.nodes nd).kind = 2
       · rw [if_neg (by simp), if_neg (by simp [h2]), if_pos hll]
         exact takeAway_Dt f u g t up nm hi nd hnb hndl h2 hll hup hri hs hk d R nv ps w hR hRd hD
       · rw [if_neg (by simp), if_pos ⟨rfl, h2⟩]
         exact takeAway_C f u g t up nm hi nd hnb hndl h2 hup hri hs hk d R nv ps w hR hRd hD
     | false =>
       by_cases h2 : (aC9 f.nodes nd).kind = 2
       · rw [if_pos ⟨rfl, h2⟩]
         exact takeAway_B f u g t up nm hi nd hnb hndl h2 hup hri hs hk d R nv ps w hR hRd hD
       · rw [if_neg (by simp [h2]), if_neg (by simp), if_pos hll]
         exact takeAway_Df f u g t up nm hi nd hnb hndl h2 hll hup hri hs hk d R nv ps w hR hRd hD
   have hl0 : (aC9 f.nodes nd).list.length = 0 := by omega
   cases hm : mayB u g (aC9 f.nodes up).mode (aC9 f.nodes up).uid (aC9 f.nodes up).gid 3 with
   | false =>
     have hdc : errC (dirC (aC9 f.nodes up) u g 3) = codeV 4 := by rw [dirC_threeT hkd, hm]; rfl
     cases dir with
     | true =>
       by_cases h2 : (aC9 f.nodes nd).kind = 2
       · rw [if_neg (by simp), if_neg (by simp [h2]), if_neg hll, if_pos rfl]
         exact takeAway_Et f u g t up nm hi nd hnb hndl h2 hl0 hdc hup hri hs hk d R nv ps w hR hRd hD
       · rw [if_neg (by simp), if_pos ⟨rfl, h2⟩]
         exact takeAway_C f u g t up nm hi nd hnb hndl h2 hup hri hs hk d R nv ps w hR hRd hD
     | false =>
       by_cases h2 : (aC9 f.nodes nd).kind = 2
       · rw [if_pos ⟨rfl, h2⟩]
         exact takeAway_B f u g t up nm hi nd hnb hndl h2 hup hri hs hk d R nv ps w hR hRd hD
       · rw [if_neg (by simp [h2]), if_neg (by simp), if_neg hll, if_pos rfl]
         exact takeAway_Ef f u g t up nm hi nd hnb hndl h2 hl0 hdc hup hri hs hk d R nv ps w hR hRd hD
   | true =>
     have hdc : errC (dirC (aC9 f.nodes up) u g 3) = .nilIface := by rw [dirC_threeT hkd, hm]; rfl
     cases dir with
     | true =>
       by_cases h2 : (aC9 f.nodes nd).kind = 2
       · rw [if_neg (by simp), if_neg (by simp [h2]), if_neg hll, if_neg (by simp)]
         exact takeAway_Ft f u g t up nm hi nd hnb hndl h2 hl0 hdc hld hup hri hs hk d R nv ps w hR hRd hD
       · rw [if_neg (by simp), if_pos ⟨rfl, h2⟩]
         exact takeAway_C f u g t up nm hi nd hnb hndl h2 hup hri hs hk d R nv ps w hR hRd hD
     | false =>
       by_cases h2 : (aC9 f.nodes nd).kind = 2
       · rw [if_pos ⟨rfl, h2⟩]
         exact takeAway_B f u g t up nm hi nd hnb hndl h2 hup hri hs hk d R nv ps w hR hRd hD
       · rw [if_neg (by simp [h2]), if_neg (by simp), if_neg hll, if_neg (by simp)]
         exact takeAway_Ff f u g t up nm hi nd hnb hndl h2 hl0 hdc hld hup hri hs hk d R nv ps w hR hRd hD
set_option maxRecDepth 100000 in
theorem remove_bad (f : FsD) (u g t : Int) (s : ByteArray) (dir : Bool) (cd : Int) (nd : Nat) (nm : List UInt8) (hfp : fp0 f.nodes u g s.data.toList = (cd, nd, nm)) (hc : cd ≠ 0) (hs : szF f ≤ 1048576) (hk : bC9 f u g = true) (hss : s.size ≤ 1048576) (d R : Nat) (nv : Value) (ps : List (Nod × Value)) (w : World) (hR : R ≤ w.heap.size) (hRd : R ≤ d) (hD : Drf w d R nv ps f u g t) :
   Calls Tryz.prog 50 #[.pointer (some ⟨d, 0, none⟩), .string s, .bool dir] w fun e w' => TakSays R d f u g t cd (cutG f u g s.data.toList t) w e w' := by
 have HD := qhZ hD
 have HC := qhZ hc
 have HSP := qhZ (fun W (h : Drf W d R nv ps f u g t) => spotAt_is f u g t s cd nd nm hfp hs hk hss d R nv ps W h)
 obtain ⟨xn, hxn⟩ : ∃ xn, xn = bs nm := ⟨_, rfl⟩
 rw [← hxn] at HSP
 clear hD hfp hs hk hss hc hxn
 go_enter Tryz.func50, Tryz.ntmps50
 go_wp2_with fail
 refine (HSP.out _ HD.out).mono ?_
 rintro e w1 ⟨q, rfl, hb1⟩
 have HE := qhZ (errV_not q HC.out)
 rw [HE.out]
 have HB1 := qhZ hb1
 have HB2 := qhZ (HB1.out.alloc HB1.out.size (.cells #[.int .i64 nd, .string xn] 77))
 clear hb1
 go_wp2
 go_ret
 rw [← HE.out]
 exact tak_told (says_V q cd) HC.out hR HD.out HB2.out
set_option maxRecDepth 100000 in
theorem remove_go (f : FsD) (u g t : Int) (s : ByteArray) (dir : Bool) (up : Nat) (nm : List UInt8) (hfp : fp0 f.nodes u g s.data.toList = (0, up, nm)) (hup : up < f.nodes.length) (hkd : (aC9 f.nodes up).kind = 2) (hs : szF f ≤ 1048576) (hk : bC9 f u g = true) (hss : s.size ≤ 1048576) (d R : Nat) (nv : Value) (ps : List (Nod × Value)) (w : World) (hR : R ≤ w.heap.size) (hRd : R ≤ d) (hD : Drf w d R nv ps f u g t) :
   Calls Tryz.prog 50 #[.pointer (some ⟨d, 0, none⟩), .string s, .bool dir] w fun e w' => TakSays R d f u g t (tkC f u g up nm dir) (takFs f up nm t) w e w' := by
 have HD := qhZ hD
 have HSP := qhZ (fun W (h : Drf W d R nv ps f u g t) => spotAt_is f u g t s 0 up nm hfp hs hk hss d R nv ps W h)
 have HTA := qhZ (fun W (hw : R ≤ W.heap.size) (h : Drf W d R nv ps f u g t) => takeAway_is f u g t up nm dir hup hkd hs hk d R nv ps W hw hRd h)
 obtain ⟨xn, hxn⟩ : ∃ xn, xn = bs nm := ⟨_, rfl⟩
 rw [← hxn] at HSP HTA
 obtain ⟨CD, hCD⟩ : ∃ C, C = tkC f u g up nm dir := ⟨_, rfl⟩
 obtain ⟨GG, hGG⟩ : ∃ F, F = takFs f up nm t := ⟨_, rfl⟩
 rw [← hCD, ← hGG] at HTA ⊢
 clear hD hfp hs hk hss hxn hCD hGG hkd
 go_enter Tryz.func50, Tryz.ntmps50
 go_wp2_with fail
 refine (HSP.out _ HD.out).mono ?_
 rintro e w1 ⟨q, rfl, hb1⟩
 rw [errV_nil]
 have HB1 := qhZ hb1
 have HB2 := qhZ (HB1.out.alloc HB1.out.size (.cells #[.int .i64 up, .string xn] 77))
 clear hb1
 go_wp2_with fail
 refine (HTA.out _ (Nat.le_trans hR HB2.out.size) (HD.out.below HB2.out)).mono ?_
 rintro e w3 ⟨E, rfl, hE, hb3, nv3, ps3, hd3, ho3, hz3⟩
 have HB3 := qhZ ((HB2.out.mono hR).trans hb3)
 have HE := qhZ hE
 have HX3 := qhZ hd3
 have HO3 := qhZ ho3
 have HZ3 := qhZ hz3
 clear hb3 hd3 ho3 hE hz3
 go_wp2
 go_ret
 exact ⟨E, rfl, HE.out, HB3.out, nv3, ps3, HX3.out, HO3.out, HZ3.out⟩
theorem remove_is (f : FsD) (u g t : Int) (s : ByteArray) (dir : Bool) (hs : szF f ≤ 1048576) (hk : bC9 f u g = true) (hss : s.size ≤ 1048576) (d R : Nat) (nv : Value) (ps : List (Nod × Value)) (w : World) (hR : R ≤ w.heap.size) (hRd : R ≤ d) (hD : Drf w d R nv ps f u g t) :
   Calls Tryz.prog 50 #[.pointer (some ⟨d, 0, none⟩), .string s, .bool dir] w fun e w' => TakSays R d f u g t (cutC f u g s.data.toList dir) (cutG f u g s.data.toList t) w e w' := by
 obtain ⟨⟨cd, up, nm⟩, hfp⟩ : ∃ q, fp0 f.nodes u g s.data.toList = q := ⟨_, rfl⟩
 by_cases hc : cd = 0
 · subst hc
   obtain ⟨-, hup, hkd⟩ := fp0_facts (look_of (bN9 hk) hs).1 hfp
   rw [cutC_go hfp, show cutG f u g s.data.toList t = takFs f up nm t from by unfold cutG; rw [hfp]]
   exact remove_go f u g t s dir up nm hfp hup hkd hs hk hss d R nv ps w hR hRd hD
 · rw [cutC_bad hfp hc]
   exact remove_bad f u g t s dir cd up nm hfp hc hs hk hss d R nv ps w hR hRd hD
theorem app1_1c (a b : Value) : #[a] ++ #[b] = #[a, b] := rfl
theorem al4c (w : World) (a b c d : Obj) : let W := (((w.alloc a).alloc b).alloc c).alloc d
   W.heap[w.heap.size]? = some a ∧ W.heap[w.heap.size + 1]? = some b ∧ W.heap[w.heap.size + 2]? = some c ∧ W.heap[w.heap.size + 3]? = some d := by
 have s : ∀ (w : World) (o : Obj) (i : Nat) (z : Obj), w.heap[i]? = some z → (w.alloc o).heap[i]? = some z := fun w o i z h => (Below.heap_alloc w o i (aB9 h)).trans h
 have n : ∀ (w : World) (o : Obj) (i : Nat), i = w.heap.size → (w.alloc o).heap[i]? = some o := fun w o i h => by rw [h]; exact heap_alloc_new w o
 exact ⟨s _ _ _ _ (s _ _ _ _ (s _ _ _ _ (n _ _ _ rfl))), s _ _ _ _ (s _ _ _ _ (n _ _ _ (by simp))), s _ _ _ _ (n _ _ _ (by simp)), n _ _ _ (by simp)⟩
theorem bel4c (w : World) (a b c d : Obj) : Below w.heap.size w ((((w.alloc a).alloc b).alloc c).alloc d) := aH9 (aH9 (aH9 (aH9 (Below.refl _ w))))
def FsAnsC (w : World) (F : FsD) (cd : Int) (ak : Bool) (e : Ending) (w' : World) : Prop := ∃ nv ps, e = .returned (.tuple #[.agg #[nv, .int .i64 F.room], .int .i64 cd, .bool ak]) ∧ ps.map Prod.fst = F.nodes ∧ Own w' w.heap.size nv ps ∧ Below w.heap.size w w'
end Go.Proofs.YtknhacblialboaaGreatDoor
