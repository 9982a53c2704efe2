/-
  Joined: NewA5 TryD.
  Conditions: as each states.
-/
import Derived.Deep.RegionHeld3
import Derived.Deep.CutRange
import Derived.Deep.CutBlock
import Derived.Deep.DeepCutAuto
import Derived.Test.YtknhacblialboaaGreatDoorLib15
import Derived.Test.YtknhacblialboaaGreatDoorLib21
namespace Go.Proofs.YtknhacblialboaaGreatDoor
open Go.ChangeShapes Go.WideShapes Go.ChangeAt Go.RowKit Go.Joins
set_option linter.unusedVariables false
set_option linter.unusedSimpArgs false
set_option maxHeartbeats 16000000
theorem m4_0 (w : World) (a b c d : Obj) : ((((w.alloc a).alloc b).alloc c).alloc d).heap[w.heap.size]? = some a := by
 rw [Below.heap_alloc _ d _ (by first | (simp; done) | (simp; omega)), Below.heap_alloc _ c _ (by first | (simp; done) | (simp; omega)), Below.heap_alloc _ b _ (by first | (simp; done) | (simp; omega))]
 exact heap_alloc_new w a
theorem m4_1 (w : World) (a b c d : Obj) : ((((w.alloc a).alloc b).alloc c).alloc d).heap[w.heap.size + 1]? = some b := by
 rw [Below.heap_alloc _ d _ (by first | (simp; done) | (simp; omega)), Below.heap_alloc _ c _ (by first | (simp; done) | (simp; omega))]
 have h := heap_alloc_new (w.alloc a) b
 rw [World.size_alloc] at h
 exact h
theorem m4_2 (w : World) (a b c d : Obj) : ((((w.alloc a).alloc b).alloc c).alloc d).heap[w.heap.size + 2]? = some c := by
 rw [Below.heap_alloc _ d _ (by first | (simp; done) | (simp; omega))]
 have h := heap_alloc_new ((w.alloc a).alloc b) c
 rw [World.size_alloc, World.size_alloc] at h
 exact h
theorem m4_3 (w : World) (a b c d : Obj) : ((((w.alloc a).alloc b).alloc c).alloc d).heap[w.heap.size + 3]? = some d := by
 have h := heap_alloc_new (((w.alloc a).alloc b).alloc c) d
 rw [World.size_alloc, World.size_alloc, World.size_alloc] at h
 exact h
theorem freeAt_is {f : FsD} {v : Value} {w : World} {y : Int} (h : bE9 f.nodes = y) (hR : FsA w v f) (hs : f.nodes.length ≤ 1048576) : Calls Tryz.prog 63 #[v] w fun e w' => e = .returned (.int .i64 y) ∧ Below w.heap.size w w' := by
 rw [← h]; exact l3Free_any f v w hR hs
theorem bytes_is {f : FsD} {v : Value} {w : World} {y : Nat} (h : sumD f.nodes = y) (hR : FsA w v f) (hs : szF f ≤ 1048576) : Calls Tryz.prog 66 #[v] w fun e w' => e = .returned (.int .i64 (y : Nat)) ∧ Below w.heap.size w w' := by
 rw [← h]; exact l3Bytes_any f v w hR hs
theorem cells_new (w : World) (cs : List Value) (T : TypeId) : ∀ j u, cs[j]? = some u → (w.alloc (.cells cs.toArray T)).cell? ((⟨w.heap.size, 0, none⟩ : Addr).add j) = some u := by
 intro j u h
 rw [add_plainE, Nat.zero_add, aA9 (heap_alloc_new w _) j]
 simpa using h
theorem own_notN {w : World} {R : Nat} {T T' : TypeId} {sz n : Nat} {v : Value} {xs : List Value} {b : Nat} {cs : Array Value} (h : w.ownsRow R T sz v n xs) (hb : w.heap[b]? = some (.cells cs T')) (hT : T ≠ T') : v.ownBlock = none ∨ v.ownBlock ≠ some b := by
 rcases h.2 with ⟨rfl, _⟩ | ⟨g, cap, cur, rfl, _, hg, _⟩
 · exact .inl rfl
 · refine .inr fun e => ?_
   simp only [Value.ownBlock, Option.some.injEq] at e
   subst e
   rw [hg] at hb
   simp only [Option.some.injEq, Obj.cells.injEq] at hb
   exact hT hb.2.1
theorem Own.aside {w : World} {R : Nat} {nv : Value} {ps : List (Nod × Value)} (h : Own w R nv ps) {b : Nat} {cs : Array Value} {T : TypeId} (hb : w.heap[b]? = some (.cells cs T)) (h1 : 55 ≠ T) (h2 : 126 ≠ T) (j : Nat) (u : Value) : Own (w.setCell ⟨b, j, none⟩ u) R nv ps := by
 have h0 : Below 0 w (w.setCell ⟨b, j, none⟩ u) := (Below.refl 0 w).setCell (p := ⟨b, j, none⟩) (Nat.zero_le _) u
 have hg : w.grownBy (w.setCell ⟨b, j, none⟩ u) (some b) := ⟨h0.os, h0.tape, h0.output, h0.size, fun k hk hne => Below.heap_setCell w ⟨b, j, none⟩ u k (fun e => hne (by rw [show k = b from e]))⟩
 exact ⟨World.ownsRow.kept h.row hg (own_notN h.row hb h1), fun p hp => World.ownsRow.kept (h.ent p hp) hg (own_notN (h.ent p hp) hb h2), h.dist⟩
theorem node_infoN : ∃ i, Tryz.prog.info? 55 = some i ∧ i.zero = some (.agg #[.int .i64 0, .int .i64 0, .int .i64 0, .int .i64 0, .int .i64 0, .string ⟨#[]⟩, .slice none 0 0]) ∧ i.size = 7 ∧ i.bytes = 80 := info_parts nodInfo
set_option maxRecDepth 100000 in
theorem l5New_A (f : FsD) (v : Value) (u g : Int) (p : ByteArray) (kd md t : Int) (x : ByteArray) (w : World) (hR : FsA w v f) (hs : szF f ≤ 1048576) (hk : bC9 f u g = true) (hsp : p.size ≤ 1048576) (hsx : x.size ≤ 60) (cd : Int) (up : Nat) (nm : List UInt8) (hfp : fp0 f.nodes u g p.data.toList = (cd, up, nm)) (hc : cd ≠ 0) :
   Calls Tryz.prog 36 #[v, .agg #[.int .i64 u, .int .i64 g], .string p, .agg #[.int .i64 kd, .int .i64 md, .int .i64 0, .int .i64 0, .int .i64 t, .string x, .slice none 0 0]] w fun e w' => ∃ v', e = .returned (.tuple #[v', .int .i64 cd]) ∧ FsA w' v' f ∧ Below w.heap.size w w' := by
 have HR := qhZ hR
 obtain ⟨nv, rfl, hN⟩ := hR
 obtain ⟨o, c, rfl, hm, hH⟩ := hN
 have hpos : 0 < f.nodes.length := by have := lkFind_lt (look_of (bN9 hk) hs).1 u g [] false; omega
 obtain ⟨g0, f0, lv0, rfl, -⟩ := hH 0 hpos
 have HH := qhZ hH
 have HS := qhZ hs
 have HK := qhZ hk
 have HSP := qhZ hsp
 have hl : f.nodes.length ≤ 1048576 := (aG9 hs).1
 have HB0 : Hid (Below w.heap.size w ((((w.alloc (.cells #[.slice (some ⟨g0, f0, none⟩) f.nodes.length c, .int .i64 f.room] 30)).alloc (.cells #[.int .i64 u, .int .i64 g] 34)).alloc (.cells #[.int .i64 kd, .int .i64 md, .int .i64 0, .int .i64 0, .int .i64 t, .string x, .slice none 0 0] 55)).alloc (.cells #[.slice none 0 0, .int .i64 0] 30))) := qhZ (((((Below.refl _ _).alloc (Nat.le_refl _) _).alloc (by simp) _).alloc (by simp; omega) _).alloc (by simp; omega) _)
 have KA0 := qhZ (m4_0 w (.cells #[.slice (some ⟨g0, f0, none⟩) f.nodes.length c, .int .i64 f.room] 30) (.cells #[.int .i64 u, .int .i64 g] 34) (.cells #[.int .i64 kd, .int .i64 md, .int .i64 0, .int .i64 0, .int .i64 t, .string x, .slice none 0 0] 55) (.cells #[.slice none 0 0, .int .i64 0] 30))
 have KB0 := qhZ (m4_1 w (.cells #[.slice (some ⟨g0, f0, none⟩) f.nodes.length c, .int .i64 f.room] 30) (.cells #[.int .i64 u, .int .i64 g] 34) (.cells #[.int .i64 kd, .int .i64 md, .int .i64 0, .int .i64 0, .int .i64 t, .string x, .slice none 0 0] 55) (.cells #[.slice none 0 0, .int .i64 0] 30))
 have KN0 := qhZ (m4_2 w (.cells #[.slice (some ⟨g0, f0, none⟩) f.nodes.length c, .int .i64 f.room] 30) (.cells #[.int .i64 u, .int .i64 g] 34) (.cells #[.int .i64 kd, .int .i64 md, .int .i64 0, .int .i64 0, .int .i64 t, .string x, .slice none 0 0] 55) (.cells #[.slice none 0 0, .int .i64 0] 30))
 have KZ0 := qhZ (m4_3 w (.cells #[.slice (some ⟨g0, f0, none⟩) f.nodes.length c, .int .i64 f.room] 30) (.cells #[.int .i64 u, .int .i64 g] 34) (.cells #[.int .i64 kd, .int .i64 md, .int .i64 0, .int .i64 0, .int .i64 t, .string x, .slice none 0 0] 55) (.cells #[.slice none 0 0, .int .i64 0] 30))
 obtain ⟨fa, hfa⟩ : ∃ fa, bE9 f.nodes = fa := ⟨_, rfl⟩
 have HFA := qhZ hfa
 have HFP := qhZ hfp
 clear hH hs hk hsp hm hfp
 obtain ⟨xn, hxn⟩ : ∃ xn, xn = bs nm := ⟨_, rfl⟩
 clear hfa
 go_enter Tryz.func36, Tryz.ntmps36
 go_wp2_with fail
 refine (l4Place_is HFP.out (HR.out.below HB0.out) HS.out HK.out HSP.out).mono ?_
 rintro e w1 ⟨rfl, hb1⟩
 rw [← hxn]
 clear hxn
 have HB1 := qhZ (HB0.out.trans (hb1.mono HB0.out.size))
 have KA1 := qhZ (aD9 hb1 KA0.out)
 have KB1 := qhZ (aD9 hb1 KB0.out)
 have KN1 := qhZ (aD9 hb1 KN0.out)
 have KZ1 := qhZ (aD9 hb1 KZ0.out)
 clear hb1
 have KA1c0 : w1.cell? ⟨w.heap.size, 0, none⟩ = some (.slice (some ⟨g0, f0, none⟩) f.nodes.length c) := aA9 KA1.out 0
 have KA1c1 : w1.cell? ⟨w.heap.size, 1, none⟩ = some (.int .i64 f.room) := aA9 KA1.out 1
 go_wp2_with fail
 refine (freeAt_is HFA.out (HR.out.below HB1.out) hl).mono ?_
 rintro e w2 ⟨rfl, hb2⟩
 have HB2 := qhZ (HB1.out.trans (hb2.mono HB1.out.size))
 have KA2 := qhZ (aD9 hb2 KA1.out)
 have KB2 := qhZ (aD9 hb2 KB1.out)
 have KN2 := qhZ (aD9 hb2 KN1.out)
 have KZ2 := qhZ (aD9 hb2 KZ1.out)
 clear hb2
 clear KA1c0 KA1c1
 have KA2c0 : w2.cell? ⟨w.heap.size, 0, none⟩ = some (.slice (some ⟨g0, f0, none⟩) f.nodes.length c) := aA9 KA2.out 0
 have KA2c1 : w2.cell? ⟨w.heap.size, 1, none⟩ = some (.int .i64 f.room) := aA9 KA2.out 1
 have KZ2c0 : w2.cell? ⟨w.heap.size + 3, 0, none⟩ = some (.slice none 0 0) := aA9 KZ2.out 0
 have KZ2c1 : w2.cell? ⟨w.heap.size + 3, 1, none⟩ = some (.int .i64 0) := aA9 KZ2.out 1
 have KZ2f := aE9 KZ2.out
 have hq := bG9 KZ2.out (.slice (some ⟨g0, f0, none⟩) f.nodes.length c) (.int .i64 f.room)
 have t0 := (aA9 hq 0).trans rfl
 have t1 := (aA9 hq 1).trans rfl
 go_wp2
 refine bodyPost_ret (v := .tuple #[.agg #[.slice (some ⟨g0, f0, none⟩) f.nodes.length c, .int .i64 f.room], .int .i64 cd]) (by simp [results, Tryz.results36, go_sem, t0, t1]) rfl ?_
 have hB9 := aP9 (G := w.heap.size + 3) (x := (.slice (some ⟨g0, f0, none⟩) f.nodes.length c)) (y := .int .i64 f.room) HB2.out (by omega)
 first
   | exact ⟨_, rfl, HR.out.below hB9, hB9⟩
   | exact ⟨rfl, HR.out.below hB9, hB9⟩
set_option maxRecDepth 100000 in
theorem l5New_B (f : FsD) (v : Value) (u g : Int) (p : ByteArray) (kd md t : Int) (x : ByteArray) (w : World) (hR : FsA w v f) (hs : szF f ≤ 1048576) (hk : bC9 f u g = true) (hsp : p.size ≤ 1048576) (hsx : x.size ≤ 60) (up : Nat) (nm : List UInt8) (hfp : fp0 f.nodes u g p.data.toList = (0, up, nm)) (hup : up < f.nodes.length) (hkd2 : (aC9 f.nodes up).kind = 2) (y : Int) (hat : atE (aC9 f.nodes up).list nm = y) (hy : 0 ≤ y) :
   Calls Tryz.prog 36 #[v, .agg #[.int .i64 u, .int .i64 g], .string p, .agg #[.int .i64 kd, .int .i64 md, .int .i64 0, .int .i64 0, .int .i64 t, .string x, .slice none 0 0]] w fun e w' => ∃ v', e = .returned (.tuple #[v', .int .i64 6]) ∧ FsA w' v' f ∧ Below w.heap.size w w' := by
 have HR := qhZ hR
 obtain ⟨nv, rfl, hN⟩ := hR
 obtain ⟨o, c, rfl, hm, hH⟩ := hN
 have hpos : 0 < f.nodes.length := by have := lkFind_lt (look_of (bN9 hk) hs).1 u g [] false; omega
 obtain ⟨g0, f0, lv0, rfl, -⟩ := hH 0 hpos
 have HH := qhZ hH
 have HS := qhZ hs
 have HK := qhZ hk
 have HSP := qhZ hsp
 have hl : f.nodes.length ≤ 1048576 := (aG9 hs).1
 have HB0 : Hid (Below w.heap.size w ((((w.alloc (.cells #[.slice (some ⟨g0, f0, none⟩) f.nodes.length c, .int .i64 f.room] 30)).alloc (.cells #[.int .i64 u, .int .i64 g] 34)).alloc (.cells #[.int .i64 kd, .int .i64 md, .int .i64 0, .int .i64 0, .int .i64 t, .string x, .slice none 0 0] 55)).alloc (.cells #[.slice none 0 0, .int .i64 0] 30))) := qhZ (((((Below.refl _ _).alloc (Nat.le_refl _) _).alloc (by simp) _).alloc (by simp; omega) _).alloc (by simp; omega) _)
 have KA0 := qhZ (m4_0 w (.cells #[.slice (some ⟨g0, f0, none⟩) f.nodes.length c, .int .i64 f.room] 30) (.cells #[.int .i64 u, .int .i64 g] 34) (.cells #[.int .i64 kd, .int .i64 md, .int .i64 0, .int .i64 0, .int .i64 t, .string x, .slice none 0 0] 55) (.cells #[.slice none 0 0, .int .i64 0] 30))
 have KB0 := qhZ (m4_1 w (.cells #[.slice (some ⟨g0, f0, none⟩) f.nodes.length c, .int .i64 f.room] 30) (.cells #[.int .i64 u, .int .i64 g] 34) (.cells #[.int .i64 kd, .int .i64 md, .int .i64 0, .int .i64 0, .int .i64 t, .string x, .slice none 0 0] 55) (.cells #[.slice none 0 0, .int .i64 0] 30))
 have KN0 := qhZ (m4_2 w (.cells #[.slice (some ⟨g0, f0, none⟩) f.nodes.length c, .int .i64 f.room] 30) (.cells #[.int .i64 u, .int .i64 g] 34) (.cells #[.int .i64 kd, .int .i64 md, .int .i64 0, .int .i64 0, .int .i64 t, .string x, .slice none 0 0] 55) (.cells #[.slice none 0 0, .int .i64 0] 30))
 have KZ0 := qhZ (m4_3 w (.cells #[.slice (some ⟨g0, f0, none⟩) f.nodes.length c, .int .i64 f.room] 30) (.cells #[.int .i64 u, .int .i64 g] 34) (.cells #[.int .i64 kd, .int .i64 md, .int .i64 0, .int .i64 0, .int .i64 t, .string x, .slice none 0 0] 55) (.cells #[.slice none 0 0, .int .i64 0] 30))
 obtain ⟨fa, hfa⟩ : ∃ fa, bE9 f.nodes = fa := ⟨_, rfl⟩
 have HFA := qhZ hfa
 have HFP := qhZ hfp
 clear hH hs hk hsp hm hfp
 obtain ⟨g4, f4, lv4, e4, hcc4, hee4⟩ := bL9 (c := c) HH.out hup (Below.refl w.heap.size w)
 have d6w := hcc4.c6
 simp only [Option.some.injEq, Addr.mk.injEq, and_true] at e4
 obtain ⟨rfl, rfl⟩ := e4
 obtain ⟨oe, ce, rfl, hle, -⟩ := id hee4
 have HEE := qhZ hee4
 have hg0 : g0 < w.heap.size := by obtain ⟨a1, a2, a3, a4, a5, -⟩ := HH.out up hup; simp only [Option.some.injEq, Addr.mk.injEq, and_true] at a4; rw [a4.1]; exact a5
 have HLL : Hid ((aC9 f.nodes up).list.length ≤ 1048576) := qhZ ((aG9 HS.out).2 (aC9 f.nodes up) (by rw [show aC9 f.nodes up = f.nodes[up] from aR9 hup]; exact List.getElem_mem hup)).1
 obtain ⟨xn, hxn⟩ : ∃ xn, xn = bs nm := ⟨_, rfl⟩
 have hxl : xn.data.toList = nm := by rw [hxn]; exact aY9 _
 have HAT : Hid (atE (aC9 f.nodes up).list xn.data.toList = y) := qhZ (by rw [hxl]; exact hat)
 have HXN := qhZ hxn
 clear hcc4 hee4 hxl hat hfa
 go_enter Tryz.func36, Tryz.ntmps36
 go_wp2_with fail
 refine (l4Place_is HFP.out (HR.out.below HB0.out) HS.out HK.out HSP.out).mono ?_
 rintro e w1 ⟨rfl, hb1⟩
 rw [← hxn]
 clear hxn
 have HB1 := qhZ (HB0.out.trans (hb1.mono HB0.out.size))
 have KA1 := qhZ (aD9 hb1 KA0.out)
 have KB1 := qhZ (aD9 hb1 KB0.out)
 have KN1 := qhZ (aD9 hb1 KN0.out)
 have KZ1 := qhZ (aD9 hb1 KZ0.out)
 clear hb1
 have KA1c0 : w1.cell? ⟨w.heap.size, 0, none⟩ = some (.slice (some ⟨g0, f0, none⟩) f.nodes.length c) := aA9 KA1.out 0
 have KA1c1 : w1.cell? ⟨w.heap.size, 1, none⟩ = some (.int .i64 f.room) := aA9 KA1.out 1
 go_wp2_with fail
 refine (freeAt_is HFA.out (HR.out.below HB1.out) hl).mono ?_
 rintro e w2 ⟨rfl, hb2⟩
 have HB2 := qhZ (HB1.out.trans (hb2.mono HB1.out.size))
 have KA2 := qhZ (aD9 hb2 KA1.out)
 have KB2 := qhZ (aD9 hb2 KB1.out)
 have KN2 := qhZ (aD9 hb2 KN1.out)
 have KZ2 := qhZ (aD9 hb2 KZ1.out)
 clear hb2
 clear KA1c0 KA1c1
 have KA2c0 : w2.cell? ⟨w.heap.size, 0, none⟩ = some (.slice (some ⟨g0, f0, none⟩) f.nodes.length c) := aA9 KA2.out 0
 have KA2c1 : w2.cell? ⟨w.heap.size, 1, none⟩ = some (.int .i64 f.room) := aA9 KA2.out 1
 have d6 := (HB2.out.cell (p := ⟨g0, f0 + up * 7 + 6, none⟩) hg0).trans d6w
 go_wp2_with fail
 refine (l3At_isA HAT.out (HEE.out.below HB2.out) HLL.out).mono ?_
 rintro e w3 ⟨rfl, hb3⟩
 have HB3 := qhZ (HB2.out.trans (hb3.mono HB2.out.size))
 have KA3 := qhZ (aD9 hb3 KA2.out)
 have KB3 := qhZ (aD9 hb3 KB2.out)
 have KN3 := qhZ (aD9 hb3 KN2.out)
 have KZ3 := qhZ (aD9 hb3 KZ2.out)
 clear hb3
 clear KA2c0 KA2c1
 clear d6 d6w
 have KA3c0 : w3.cell? ⟨w.heap.size, 0, none⟩ = some (.slice (some ⟨g0, f0, none⟩) f.nodes.length c) := aA9 KA3.out 0
 have KA3c1 : w3.cell? ⟨w.heap.size, 1, none⟩ = some (.int .i64 f.room) := aA9 KA3.out 1
 have KZ3c0 : w3.cell? ⟨w.heap.size + 3, 0, none⟩ = some (.slice none 0 0) := aA9 KZ3.out 0
 have KZ3c1 : w3.cell? ⟨w.heap.size + 3, 1, none⟩ = some (.int .i64 0) := aA9 KZ3.out 1
 have KZ3f := aE9 KZ3.out
 have hyb : ¬ (y < 0) := by omega
 have hq := bG9 KZ3.out (.slice (some ⟨g0, f0, none⟩) f.nodes.length c) (.int .i64 f.room)
 have t0 := (aA9 hq 0).trans rfl
 have t1 := (aA9 hq 1).trans rfl
 go_wp2
 refine bodyPost_ret (v := .tuple #[.agg #[.slice (some ⟨g0, f0, none⟩) f.nodes.length c, .int .i64 f.room], .int .i64 6]) (by simp [results, Tryz.results36, go_sem, t0, t1]) rfl ?_
 have hB9 := aP9 (G := w.heap.size + 3) (x := (.slice (some ⟨g0, f0, none⟩) f.nodes.length c)) (y := .int .i64 f.room) HB3.out (by omega)
 first
   | exact ⟨_, rfl, HR.out.below hB9, hB9⟩
   | exact ⟨rfl, HR.out.below hB9, hB9⟩
set_option maxRecDepth 100000 in
theorem l5New_C (f : FsD) (v : Value) (u g : Int) (p : ByteArray) (kd md t : Int) (x : ByteArray) (w : World) (hR : FsA w v f) (hs : szF f ≤ 1048576) (hk : bC9 f u g = true) (hsp : p.size ≤ 1048576) (hsx : x.size ≤ 60) (up : Nat) (nm : List UInt8) (hfp : fp0 f.nodes u g p.data.toList = (0, up, nm)) (hup : up < f.nodes.length) (hkd2 : (aC9 f.nodes up).kind = 2) (hat : atE (aC9 f.nodes up).list nm = -1) (hmo : inB 0 511 (aC9 f.nodes up).mode = true) (hmb : mayB u g (aC9 f.nodes up).mode (aC9 f.nodes up).uid (aC9 f.nodes up).gid 3 = false) :
   Calls Tryz.prog 36 #[v, .agg #[.int .i64 u, .int .i64 g], .string p, .agg #[.int .i64 kd, .int .i64 md, .int .i64 0, .int .i64 0, .int .i64 t, .string x, .slice none 0 0]] w fun e w' => ∃ v', e = .returned (.tuple #[v', .int .i64 4]) ∧ FsA w' v' f ∧ Below w.heap.size w w' := by
 have HMO := qhZ hmo
 have HMB := qhZ hmb
 clear hmo hmb
 have HR := qhZ hR
 obtain ⟨nv, rfl, hN⟩ := hR
 obtain ⟨o, c, rfl, hm, hH⟩ := hN
 have hpos : 0 < f.nodes.length := by have := lkFind_lt (look_of (bN9 hk) hs).1 u g [] false; omega
 obtain ⟨g0, f0, lv0, rfl, -⟩ := hH 0 hpos
 have HH := qhZ hH
 have HS := qhZ hs
 have HK := qhZ hk
 have HSP := qhZ hsp
 have hl : f.nodes.length ≤ 1048576 := (aG9 hs).1
 have HB0 : Hid (Below w.heap.size w ((((w.alloc (.cells #[.slice (some ⟨g0, f0, none⟩) f.nodes.length c, .int .i64 f.room] 30)).alloc (.cells #[.int .i64 u, .int .i64 g] 34)).alloc (.cells #[.int .i64 kd, .int .i64 md, .int .i64 0, .int .i64 0, .int .i64 t, .string x, .slice none 0 0] 55)).alloc (.cells #[.slice none 0 0, .int .i64 0] 30))) := qhZ (((((Below.refl _ _).alloc (Nat.le_refl _) _).alloc (by simp) _).alloc (by simp; omega) _).alloc (by simp; omega) _)
 have KA0 := qhZ (m4_0 w (.cells #[.slice (some ⟨g0, f0, none⟩) f.nodes.length c, .int .i64 f.room] 30) (.cells #[.int .i64 u, .int .i64 g] 34) (.cells #[.int .i64 kd, .int .i64 md, .int .i64 0, .int .i64 0, .int .i64 t, .string x, .slice none 0 0] 55) (.cells #[.slice none 0 0, .int .i64 0] 30))
 have KB0 := qhZ (m4_1 w (.cells #[.slice (some ⟨g0, f0, none⟩) f.nodes.length c, .int .i64 f.room] 30) (.cells #[.int .i64 u, .int .i64 g] 34) (.cells #[.int .i64 kd, .int .i64 md, .int .i64 0, .int .i64 0, .int .i64 t, .string x, .slice none 0 0] 55) (.cells #[.slice none 0 0, .int .i64 0] 30))
 have KN0 := qhZ (m4_2 w (.cells #[.slice (some ⟨g0, f0, none⟩) f.nodes.length c, .int .i64 f.room] 30) (.cells #[.int .i64 u, .int .i64 g] 34) (.cells #[.int .i64 kd, .int .i64 md, .int .i64 0, .int .i64 0, .int .i64 t, .string x, .slice none 0 0] 55) (.cells #[.slice none 0 0, .int .i64 0] 30))
 have KZ0 := qhZ (m4_3 w (.cells #[.slice (some ⟨g0, f0, none⟩) f.nodes.length c, .int .i64 f.room] 30) (.cells #[.int .i64 u, .int .i64 g] 34) (.cells #[.int .i64 kd, .int .i64 md, .int .i64 0, .int .i64 0, .int .i64 t, .string x, .slice none 0 0] 55) (.cells #[.slice none 0 0, .int .i64 0] 30))
 obtain ⟨fa, hfa⟩ : ∃ fa, bE9 f.nodes = fa := ⟨_, rfl⟩
 have HFA := qhZ hfa
 have HFP := qhZ hfp
 clear hH hs hk hsp hm hfp
 obtain ⟨g4, f4, lv4, e4, hcc4, hee4⟩ := bL9 (c := c) HH.out hup (Below.refl w.heap.size w)
 have d6w := hcc4.c6
 simp only [Option.some.injEq, Addr.mk.injEq, and_true] at e4
 obtain ⟨rfl, rfl⟩ := e4
 obtain ⟨oe, ce, rfl, hle, -⟩ := id hee4
 have HEE := qhZ hee4
 have hg0 : g0 < w.heap.size := by obtain ⟨a1, a2, a3, a4, a5, -⟩ := HH.out up hup; simp only [Option.some.injEq, Addr.mk.injEq, and_true] at a4; rw [a4.1]; exact a5
 have HLL : Hid ((aC9 f.nodes up).list.length ≤ 1048576) := qhZ ((aG9 HS.out).2 (aC9 f.nodes up) (by rw [show aC9 f.nodes up = f.nodes[up] from aR9 hup]; exact List.getElem_mem hup)).1
 obtain ⟨xn, hxn⟩ : ∃ xn, xn = bs nm := ⟨_, rfl⟩
 have hxl : xn.data.toList = nm := by rw [hxn]; exact aY9 _
 have HAT : Hid (atE (aC9 f.nodes up).list xn.data.toList = -1) := qhZ (by rw [hxl]; exact hat)
 have HXN := qhZ hxn
 clear hcc4 hee4 hxl hat hfa
 go_enter Tryz.func36, Tryz.ntmps36
 go_wp2_with fail
 refine (l4Place_is HFP.out (HR.out.below HB0.out) HS.out HK.out HSP.out).mono ?_
 rintro e w1 ⟨rfl, hb1⟩
 rw [← hxn]
 clear hxn
 have HB1 := qhZ (HB0.out.trans (hb1.mono HB0.out.size))
 have KA1 := qhZ (aD9 hb1 KA0.out)
 have KB1 := qhZ (aD9 hb1 KB0.out)
 have KN1 := qhZ (aD9 hb1 KN0.out)
 have KZ1 := qhZ (aD9 hb1 KZ0.out)
 clear hb1
 have KA1c0 : w1.cell? ⟨w.heap.size, 0, none⟩ = some (.slice (some ⟨g0, f0, none⟩) f.nodes.length c) := aA9 KA1.out 0
 have KA1c1 : w1.cell? ⟨w.heap.size, 1, none⟩ = some (.int .i64 f.room) := aA9 KA1.out 1
 go_wp2_with fail
 refine (freeAt_is HFA.out (HR.out.below HB1.out) hl).mono ?_
 rintro e w2 ⟨rfl, hb2⟩
 have HB2 := qhZ (HB1.out.trans (hb2.mono HB1.out.size))
 have KA2 := qhZ (aD9 hb2 KA1.out)
 have KB2 := qhZ (aD9 hb2 KB1.out)
 have KN2 := qhZ (aD9 hb2 KN1.out)
 have KZ2 := qhZ (aD9 hb2 KZ1.out)
 clear hb2
 clear KA1c0 KA1c1
 have KA2c0 : w2.cell? ⟨w.heap.size, 0, none⟩ = some (.slice (some ⟨g0, f0, none⟩) f.nodes.length c) := aA9 KA2.out 0
 have KA2c1 : w2.cell? ⟨w.heap.size, 1, none⟩ = some (.int .i64 f.room) := aA9 KA2.out 1
 have d6 := (HB2.out.cell (p := ⟨g0, f0 + up * 7 + 6, none⟩) hg0).trans d6w
 go_wp2_with fail
 refine (l3At_isA HAT.out (HEE.out.below HB2.out) HLL.out).mono ?_
 rintro e w3 ⟨rfl, hb3⟩
 have HB3 := qhZ (HB2.out.trans (hb3.mono HB2.out.size))
 have KA3 := qhZ (aD9 hb3 KA2.out)
 have KB3 := qhZ (aD9 hb3 KB2.out)
 have KN3 := qhZ (aD9 hb3 KN2.out)
 have KZ3 := qhZ (aD9 hb3 KZ2.out)
 clear hb3
 clear KA2c0 KA2c1
 clear d6 d6w
 have KA3c0 : w3.cell? ⟨w.heap.size, 0, none⟩ = some (.slice (some ⟨g0, f0, none⟩) f.nodes.length c) := aA9 KA3.out 0
 have KA3c1 : w3.cell? ⟨w.heap.size, 1, none⟩ = some (.int .i64 f.room) := aA9 KA3.out 1
 have KB3c0 : w3.cell? ⟨w.heap.size + 1, 0, none⟩ = some (.int .i64 u) := aA9 KB3.out 0
 have KB3c1 : w3.cell? ⟨w.heap.size + 1, 1, none⟩ = some (.int .i64 g) := aA9 KB3.out 1
 go_wp2_with fail
 refine (l5Change_is HMB.out (HR.out.below HB3.out) hup HMO.out hl).mono ?_
 rintro e w4 ⟨rfl, hb4⟩
 have HB4 := qhZ (HB3.out.trans (hb4.mono HB3.out.size))
 have KA4 := qhZ (aD9 hb4 KA3.out)
 have KB4 := qhZ (aD9 hb4 KB3.out)
 have KN4 := qhZ (aD9 hb4 KN3.out)
 have KZ4 := qhZ (aD9 hb4 KZ3.out)
 clear hb4
 clear KA3c0 KA3c1 KB3c0 KB3c1
 have KA4c0 : w4.cell? ⟨w.heap.size, 0, none⟩ = some (.slice (some ⟨g0, f0, none⟩) f.nodes.length c) := aA9 KA4.out 0
 have KA4c1 : w4.cell? ⟨w.heap.size, 1, none⟩ = some (.int .i64 f.room) := aA9 KA4.out 1
 have KZ4c0 : w4.cell? ⟨w.heap.size + 3, 0, none⟩ = some (.slice none 0 0) := aA9 KZ4.out 0
 have KZ4c1 : w4.cell? ⟨w.heap.size + 3, 1, none⟩ = some (.int .i64 0) := aA9 KZ4.out 1
 have KZ4f := aE9 KZ4.out
 have hq := bG9 KZ4.out (.slice (some ⟨g0, f0, none⟩) f.nodes.length c) (.int .i64 f.room)
 have t0 := (aA9 hq 0).trans rfl
 have t1 := (aA9 hq 1).trans rfl
 go_wp2
 refine bodyPost_ret (v := .tuple #[.agg #[.slice (some ⟨g0, f0, none⟩) f.nodes.length c, .int .i64 f.room], .int .i64 4]) (by simp [results, Tryz.results36, go_sem, t0, t1]) rfl ?_
 have hB9 := aP9 (G := w.heap.size + 3) (x := (.slice (some ⟨g0, f0, none⟩) f.nodes.length c)) (y := .int .i64 f.room) HB4.out (by omega)
 first
   | exact ⟨_, rfl, HR.out.below hB9, hB9⟩
   | exact ⟨rfl, HR.out.below hB9, hB9⟩
set_option maxRecDepth 100000 in
theorem l5New_D (f : FsD) (v : Value) (u g : Int) (p : ByteArray) (kd md t : Int) (x : ByteArray) (w : World) (hR : FsA w v f) (hs : szF f ≤ 1048576) (hk : bC9 f u g = true) (hsp : p.size ≤ 1048576) (hsx : x.size ≤ 60) (up : Nat) (nm : List UInt8) (hfp : fp0 f.nodes u g p.data.toList = (0, up, nm)) (hup : up < f.nodes.length) (hkd2 : (aC9 f.nodes up).kind = 2) (hat : atE (aC9 f.nodes up).list nm = -1) (hmo : inB 0 511 (aC9 f.nodes up).mode = true) (hmb : mayB u g (aC9 f.nodes up).mode (aC9 f.nodes up).uid (aC9 f.nodes up).gid 3 = true) (hfn : bE9 f.nodes < 0) :
   Calls Tryz.prog 36 #[v, .agg #[.int .i64 u, .int .i64 g], .string p, .agg #[.int .i64 kd, .int .i64 md, .int .i64 0, .int .i64 0, .int .i64 t, .string x, .slice none 0 0]] w fun e w' => ∃ v', e = .returned (.tuple #[v', .int .i64 8]) ∧ FsA w' v' f ∧ Below w.heap.size w w' := by
 have HMO := qhZ hmo
 have HMB := qhZ hmb
 clear hmo hmb
 have HR := qhZ hR
 obtain ⟨nv, rfl, hN⟩ := hR
 obtain ⟨o, c, rfl, hm, hH⟩ := hN
 have hpos : 0 < f.nodes.length := by have := lkFind_lt (look_of (bN9 hk) hs).1 u g [] false; omega
 obtain ⟨g0, f0, lv0, rfl, -⟩ := hH 0 hpos
 have HH := qhZ hH
 have HS := qhZ hs
 have HK := qhZ hk
 have HSP := qhZ hsp
 have hl : f.nodes.length ≤ 1048576 := (aG9 hs).1
 have HB0 : Hid (Below w.heap.size w ((((w.alloc (.cells #[.slice (some ⟨g0, f0, none⟩) f.nodes.length c, .int .i64 f.room] 30)).alloc (.cells #[.int .i64 u, .int .i64 g] 34)).alloc (.cells #[.int .i64 kd, .int .i64 md, .int .i64 0, .int .i64 0, .int .i64 t, .string x, .slice none 0 0] 55)).alloc (.cells #[.slice none 0 0, .int .i64 0] 30))) := qhZ (((((Below.refl _ _).alloc (Nat.le_refl _) _).alloc (by simp) _).alloc (by simp; omega) _).alloc (by simp; omega) _)
 have KA0 := qhZ (m4_0 w (.cells #[.slice (some ⟨g0, f0, none⟩) f.nodes.length c, .int .i64 f.room] 30) (.cells #[.int .i64 u, .int .i64 g] 34) (.cells #[.int .i64 kd, .int .i64 md, .int .i64 0, .int .i64 0, .int .i64 t, .string x, .slice none 0 0] 55) (.cells #[.slice none 0 0, .int .i64 0] 30))
 have KB0 := qhZ (m4_1 w (.cells #[.slice (some ⟨g0, f0, none⟩) f.nodes.length c, .int .i64 f.room] 30) (.cells #[.int .i64 u, .int .i64 g] 34) (.cells #[.int .i64 kd, .int .i64 md, .int .i64 0, .int .i64 0, .int .i64 t, .string x, .slice none 0 0] 55) (.cells #[.slice none 0 0, .int .i64 0] 30))
 have KN0 := qhZ (m4_2 w (.cells #[.slice (some ⟨g0, f0, none⟩) f.nodes.length c, .int .i64 f.room] 30) (.cells #[.int .i64 u, .int .i64 g] 34) (.cells #[.int .i64 kd, .int .i64 md, .int .i64 0, .int .i64 0, .int .i64 t, .string x, .slice none 0 0] 55) (.cells #[.slice none 0 0, .int .i64 0] 30))
 have KZ0 := qhZ (m4_3 w (.cells #[.slice (some ⟨g0, f0, none⟩) f.nodes.length c, .int .i64 f.room] 30) (.cells #[.int .i64 u, .int .i64 g] 34) (.cells #[.int .i64 kd, .int .i64 md, .int .i64 0, .int .i64 0, .int .i64 t, .string x, .slice none 0 0] 55) (.cells #[.slice none 0 0, .int .i64 0] 30))
 obtain ⟨fa, hfa⟩ : ∃ fa, bE9 f.nodes = fa := ⟨_, rfl⟩
 have HFA := qhZ hfa
 have HFP := qhZ hfp
 clear hH hs hk hsp hm hfp
 have hneg : fa < 0 := by omega
 clear hfn
 obtain ⟨g4, f4, lv4, e4, hcc4, hee4⟩ := bL9 (c := c) HH.out hup (Below.refl w.heap.size w)
 have d6w := hcc4.c6
 simp only [Option.some.injEq, Addr.mk.injEq, and_true] at e4
 obtain ⟨rfl, rfl⟩ := e4
 obtain ⟨oe, ce, rfl, hle, -⟩ := id hee4
 have HEE := qhZ hee4
 have hg0 : g0 < w.heap.size := by obtain ⟨a1, a2, a3, a4, a5, -⟩ := HH.out up hup; simp only [Option.some.injEq, Addr.mk.injEq, and_true] at a4; rw [a4.1]; exact a5
 have HLL : Hid ((aC9 f.nodes up).list.length ≤ 1048576) := qhZ ((aG9 HS.out).2 (aC9 f.nodes up) (by rw [show aC9 f.nodes up = f.nodes[up] from aR9 hup]; exact List.getElem_mem hup)).1
 obtain ⟨xn, hxn⟩ : ∃ xn, xn = bs nm := ⟨_, rfl⟩
 have hxl : xn.data.toList = nm := by rw [hxn]; exact aY9 _
 have HAT : Hid (atE (aC9 f.nodes up).list xn.data.toList = -1) := qhZ (by rw [hxl]; exact hat)
 have HXN := qhZ hxn
 clear hcc4 hee4 hxl hat hfa
 go_enter Tryz.func36, Tryz.ntmps36
 go_wp2_with fail
 refine (l4Place_is HFP.out (HR.out.below HB0.out) HS.out HK.out HSP.out).mono ?_
 rintro e w1 ⟨rfl, hb1⟩
 rw [← hxn]
 clear hxn
 have HB1 := qhZ (HB0.out.trans (hb1.mono HB0.out.size))
 have KA1 := qhZ (aD9 hb1 KA0.out)
 have KB1 := qhZ (aD9 hb1 KB0.out)
 have KN1 := qhZ (aD9 hb1 KN0.out)
 have KZ1 := qhZ (aD9 hb1 KZ0.out)
 clear hb1
 have KA1c0 : w1.cell? ⟨w.heap.size, 0, none⟩ = some (.slice (some ⟨g0, f0, none⟩) f.nodes.length c) := aA9 KA1.out 0
 have KA1c1 : w1.cell? ⟨w.heap.size, 1, none⟩ = some (.int .i64 f.room) := aA9 KA1.out 1
 go_wp2_with fail
 refine (freeAt_is HFA.out (HR.out.below HB1.out) hl).mono ?_
 rintro e w2 ⟨rfl, hb2⟩
 have HB2 := qhZ (HB1.out.trans (hb2.mono HB1.out.size))
 have KA2 := qhZ (aD9 hb2 KA1.out)
 have KB2 := qhZ (aD9 hb2 KB1.out)
 have KN2 := qhZ (aD9 hb2 KN1.out)
 have KZ2 := qhZ (aD9 hb2 KZ1.out)
 clear hb2
 clear KA1c0 KA1c1
 have KA2c0 : w2.cell? ⟨w.heap.size, 0, none⟩ = some (.slice (some ⟨g0, f0, none⟩) f.nodes.length c) := aA9 KA2.out 0
 have KA2c1 : w2.cell? ⟨w.heap.size, 1, none⟩ = some (.int .i64 f.room) := aA9 KA2.out 1
 have d6 := (HB2.out.cell (p := ⟨g0, f0 + up * 7 + 6, none⟩) hg0).trans d6w
 go_wp2_with fail
 refine (l3At_isA HAT.out (HEE.out.below HB2.out) HLL.out).mono ?_
 rintro e w3 ⟨rfl, hb3⟩
 have HB3 := qhZ (HB2.out.trans (hb3.mono HB2.out.size))
 have KA3 := qhZ (aD9 hb3 KA2.out)
 have KB3 := qhZ (aD9 hb3 KB2.out)
 have KN3 := qhZ (aD9 hb3 KN2.out)
 have KZ3 := qhZ (aD9 hb3 KZ2.out)
 clear hb3
 clear KA2c0 KA2c1
 clear d6 d6w
 have KA3c0 : w3.cell? ⟨w.heap.size, 0, none⟩ = some (.slice (some ⟨g0, f0, none⟩) f.nodes.length c) := aA9 KA3.out 0
 have KA3c1 : w3.cell? ⟨w.heap.size, 1, none⟩ = some (.int .i64 f.room) := aA9 KA3.out 1
 have KB3c0 : w3.cell? ⟨w.heap.size + 1, 0, none⟩ = some (.int .i64 u) := aA9 KB3.out 0
 have KB3c1 : w3.cell? ⟨w.heap.size + 1, 1, none⟩ = some (.int .i64 g) := aA9 KB3.out 1
 go_wp2_with fail
 refine (l5Change_is HMB.out (HR.out.below HB3.out) hup HMO.out hl).mono ?_
 rintro e w4 ⟨rfl, hb4⟩
 have HB4 := qhZ (HB3.out.trans (hb4.mono HB3.out.size))
 have KA4 := qhZ (aD9 hb4 KA3.out)
 have KB4 := qhZ (aD9 hb4 KB3.out)
 have KN4 := qhZ (aD9 hb4 KN3.out)
 have KZ4 := qhZ (aD9 hb4 KZ3.out)
 clear hb4
 clear KA3c0 KA3c1 KB3c0 KB3c1
 go_wp2
 refine wp_region_quiet_below (by kernel_rfl) (by kernel_rfl) ?_
 repeat (first | go_big_quiet_step (fail) | quiet_step (fail))
 refine wpQuiet_nil ?_
 intro w5 hwq
 have hb5 : Below w4.heap.size w4 w5 := by obtain ⟨pp, rfl⟩ := hwq; exact below_regrown _ _ _
 clear hwq
 have HB5 := qhZ (HB4.out.trans (hb5.mono HB4.out.size))
 have KA5 := qhZ (aD9 hb5 KA4.out)
 have KB5 := qhZ (aD9 hb5 KB4.out)
 have KN5 := qhZ (aD9 hb5 KN4.out)
 have KZ5 := qhZ (aD9 hb5 KZ4.out)
 clear hb5
 have KA5c0 : w5.cell? ⟨w.heap.size, 0, none⟩ = some (.slice (some ⟨g0, f0, none⟩) f.nodes.length c) := aA9 KA5.out 0
 have KA5c1 : w5.cell? ⟨w.heap.size, 1, none⟩ = some (.int .i64 f.room) := aA9 KA5.out 1
 have KZ5c0 : w5.cell? ⟨w.heap.size + 3, 0, none⟩ = some (.slice none 0 0) := aA9 KZ5.out 0
 have KZ5c1 : w5.cell? ⟨w.heap.size + 3, 1, none⟩ = some (.int .i64 0) := aA9 KZ5.out 1
 have KZ5f := aE9 KZ5.out
 have hq := bG9 KZ5.out (.slice (some ⟨g0, f0, none⟩) f.nodes.length c) (.int .i64 f.room)
 have t0 := (aA9 hq 0).trans rfl
 have t1 := (aA9 hq 1).trans rfl
 go_wp2
 refine bodyPost_ret (v := .tuple #[.agg #[.slice (some ⟨g0, f0, none⟩) f.nodes.length c, .int .i64 f.room], .int .i64 8]) (by simp [results, Tryz.results36, go_sem, t0, t1]) rfl ?_
 have hB9 := aP9 (G := w.heap.size + 3) (x := (.slice (some ⟨g0, f0, none⟩) f.nodes.length c)) (y := .int .i64 f.room) HB5.out (by omega)
 first
   | exact ⟨_, rfl, HR.out.below hB9, hB9⟩
   | exact ⟨rfl, HR.out.below hB9, hB9⟩
set_option maxRecDepth 100000 in
theorem l5New_E (f : FsD) (v : Value) (u g : Int) (p : ByteArray) (kd md t : Int) (x : ByteArray) (w : World) (hR : FsA w v f) (hs : szF f ≤ 1048576) (hk : bC9 f u g = true) (hsp : p.size ≤ 1048576) (hsx : x.size ≤ 60) (up : Nat) (nm : List UInt8) (hfp : fp0 f.nodes u g p.data.toList = (0, up, nm)) (hup : up < f.nodes.length) (hkd2 : (aC9 f.nodes up).kind = 2) (hat : atE (aC9 f.nodes up).list nm = -1) (hmo : inB 0 511 (aC9 f.nodes up).mode = true) (hmb : mayB u g (aC9 f.nodes up).mode (aC9 f.nodes up).uid (aC9 f.nodes up).gid 3 = true) (hfn : 0 ≤ bE9 f.nodes) (hro : f.room < (sumD f.nodes : Int) + (x.size : Int)) :
   Calls Tryz.prog 36 #[v, .agg #[.int .i64 u, .int .i64 g], .string p, .agg #[.int .i64 kd, .int .i64 md, .int .i64 0, .int .i64 0, .int .i64 t, .string x, .slice none 0 0]] w fun e w' => ∃ v', e = .returned (.tuple #[v', .int .i64 8]) ∧ FsA w' v' f ∧ Below w.heap.size w w' := by
 have HMO := qhZ hmo
 have HMB := qhZ hmb
 clear hmo hmb
 have HR := qhZ hR
 obtain ⟨nv, rfl, hN⟩ := hR
 obtain ⟨o, c, rfl, hm, hH⟩ := hN
 have hpos : 0 < f.nodes.length := by have := lkFind_lt (look_of (bN9 hk) hs).1 u g [] false; omega
 obtain ⟨g0, f0, lv0, rfl, -⟩ := hH 0 hpos
 have HH := qhZ hH
 have HS := qhZ hs
 have HK := qhZ hk
 have HSP := qhZ hsp
 have hl : f.nodes.length ≤ 1048576 := (aG9 hs).1
 have HB0 : Hid (Below w.heap.size w ((((w.alloc (.cells #[.slice (some ⟨g0, f0, none⟩) f.nodes.length c, .int .i64 f.room] 30)).alloc (.cells #[.int .i64 u, .int .i64 g] 34)).alloc (.cells #[.int .i64 kd, .int .i64 md, .int .i64 0, .int .i64 0, .int .i64 t, .string x, .slice none 0 0] 55)).alloc (.cells #[.slice none 0 0, .int .i64 0] 30))) := qhZ (((((Below.refl _ _).alloc (Nat.le_refl _) _).alloc (by simp) _).alloc (by simp; omega) _).alloc (by simp; omega) _)
 have KA0 := qhZ (m4_0 w (.cells #[.slice (some ⟨g0, f0, none⟩) f.nodes.length c, .int .i64 f.room] 30) (.cells #[.int .i64 u, .int .i64 g] 34) (.cells #[.int .i64 kd, .int .i64 md, .int .i64 0, .int .i64 0, .int .i64 t, .string x, .slice none 0 0] 55) (.cells #[.slice none 0 0, .int .i64 0] 30))
 have KB0 := qhZ (m4_1 w (.cells #[.slice (some ⟨g0, f0, none⟩) f.nodes.length c, .int .i64 f.room] 30) (.cells #[.int .i64 u, .int .i64 g] 34) (.cells #[.int .i64 kd, .int .i64 md, .int .i64 0, .int .i64 0, .int .i64 t, .string x, .slice none 0 0] 55) (.cells #[.slice none 0 0, .int .i64 0] 30))
 have KN0 := qhZ (m4_2 w (.cells #[.slice (some ⟨g0, f0, none⟩) f.nodes.length c, .int .i64 f.room] 30) (.cells #[.int .i64 u, .int .i64 g] 34) (.cells #[.int .i64 kd, .int .i64 md, .int .i64 0, .int .i64 0, .int .i64 t, .string x, .slice none 0 0] 55) (.cells #[.slice none 0 0, .int .i64 0] 30))
 have KZ0 := qhZ (m4_3 w (.cells #[.slice (some ⟨g0, f0, none⟩) f.nodes.length c, .int .i64 f.room] 30) (.cells #[.int .i64 u, .int .i64 g] 34) (.cells #[.int .i64 kd, .int .i64 md, .int .i64 0, .int .i64 0, .int .i64 t, .string x, .slice none 0 0] 55) (.cells #[.slice none 0 0, .int .i64 0] 30))
 obtain ⟨fa, hfa⟩ : ∃ fa, bE9 f.nodes = fa := ⟨_, rfl⟩
 have HFA := qhZ hfa
 have HFP := qhZ hfp
 clear hH hs hk hsp hm hfp
 rw [hfa] at hfn
 obtain ⟨g4, f4, lv4, e4, hcc4, hee4⟩ := bL9 (c := c) HH.out hup (Below.refl w.heap.size w)
 have d6w := hcc4.c6
 simp only [Option.some.injEq, Addr.mk.injEq, and_true] at e4
 obtain ⟨rfl, rfl⟩ := e4
 obtain ⟨oe, ce, rfl, hle, -⟩ := id hee4
 have HEE := qhZ hee4
 have hg0 : g0 < w.heap.size := by obtain ⟨a1, a2, a3, a4, a5, -⟩ := HH.out up hup; simp only [Option.some.injEq, Addr.mk.injEq, and_true] at a4; rw [a4.1]; exact a5
 have HLL : Hid ((aC9 f.nodes up).list.length ≤ 1048576) := qhZ ((aG9 HS.out).2 (aC9 f.nodes up) (by rw [show aC9 f.nodes up = f.nodes[up] from aR9 hup]; exact List.getElem_mem hup)).1
 obtain ⟨xn, hxn⟩ : ∃ xn, xn = bs nm := ⟨_, rfl⟩
 have hxl : xn.data.toList = nm := by rw [hxn]; exact aY9 _
 have HAT : Hid (atE (aC9 f.nodes up).list xn.data.toList = -1) := qhZ (by rw [hxl]; exact hat)
 have HXN := qhZ hxn
 clear hcc4 hee4 hxl hat hfa
 go_enter Tryz.func36, Tryz.ntmps36
 go_wp2_with fail
 refine (l4Place_is HFP.out (HR.out.below HB0.out) HS.out HK.out HSP.out).mono ?_
 rintro e w1 ⟨rfl, hb1⟩
 rw [← hxn]
 clear hxn
 have HB1 := qhZ (HB0.out.trans (hb1.mono HB0.out.size))
 have KA1 := qhZ (aD9 hb1 KA0.out)
 have KB1 := qhZ (aD9 hb1 KB0.out)
 have KN1 := qhZ (aD9 hb1 KN0.out)
 have KZ1 := qhZ (aD9 hb1 KZ0.out)
 clear hb1
 have KA1c0 : w1.cell? ⟨w.heap.size, 0, none⟩ = some (.slice (some ⟨g0, f0, none⟩) f.nodes.length c) := aA9 KA1.out 0
 have KA1c1 : w1.cell? ⟨w.heap.size, 1, none⟩ = some (.int .i64 f.room) := aA9 KA1.out 1
 go_wp2_with fail
 refine (freeAt_is HFA.out (HR.out.below HB1.out) hl).mono ?_
 rintro e w2 ⟨rfl, hb2⟩
 have HB2 := qhZ (HB1.out.trans (hb2.mono HB1.out.size))
 have KA2 := qhZ (aD9 hb2 KA1.out)
 have KB2 := qhZ (aD9 hb2 KB1.out)
 have KN2 := qhZ (aD9 hb2 KN1.out)
 have KZ2 := qhZ (aD9 hb2 KZ1.out)
 clear hb2
 clear KA1c0 KA1c1
 have KA2c0 : w2.cell? ⟨w.heap.size, 0, none⟩ = some (.slice (some ⟨g0, f0, none⟩) f.nodes.length c) := aA9 KA2.out 0
 have KA2c1 : w2.cell? ⟨w.heap.size, 1, none⟩ = some (.int .i64 f.room) := aA9 KA2.out 1
 have d6 := (HB2.out.cell (p := ⟨g0, f0 + up * 7 + 6, none⟩) hg0).trans d6w
 go_wp2_with fail
 refine (l3At_isA HAT.out (HEE.out.below HB2.out) HLL.out).mono ?_
 rintro e w3 ⟨rfl, hb3⟩
 have HB3 := qhZ (HB2.out.trans (hb3.mono HB2.out.size))
 have KA3 := qhZ (aD9 hb3 KA2.out)
 have KB3 := qhZ (aD9 hb3 KB2.out)
 have KN3 := qhZ (aD9 hb3 KN2.out)
 have KZ3 := qhZ (aD9 hb3 KZ2.out)
 clear hb3
 clear KA2c0 KA2c1
 clear d6 d6w
 have KA3c0 : w3.cell? ⟨w.heap.size, 0, none⟩ = some (.slice (some ⟨g0, f0, none⟩) f.nodes.length c) := aA9 KA3.out 0
 have KA3c1 : w3.cell? ⟨w.heap.size, 1, none⟩ = some (.int .i64 f.room) := aA9 KA3.out 1
 have KB3c0 : w3.cell? ⟨w.heap.size + 1, 0, none⟩ = some (.int .i64 u) := aA9 KB3.out 0
 have KB3c1 : w3.cell? ⟨w.heap.size + 1, 1, none⟩ = some (.int .i64 g) := aA9 KB3.out 1
 go_wp2_with fail
 refine (l5Change_is HMB.out (HR.out.below HB3.out) hup HMO.out hl).mono ?_
 rintro e w4 ⟨rfl, hb4⟩
 have HB4 := qhZ (HB3.out.trans (hb4.mono HB3.out.size))
 have KA4 := qhZ (aD9 hb4 KA3.out)
 have KB4 := qhZ (aD9 hb4 KB3.out)
 have KN4 := qhZ (aD9 hb4 KN3.out)
 have KZ4 := qhZ (aD9 hb4 KZ3.out)
 clear hb4
 clear KA3c0 KA3c1 KB3c0 KB3c1
 have hnn : ¬ (fa < 0) := by omega
 have HFR4 := qhZ (HR.out.below HB4.out)
 obtain ⟨SS, hSS⟩ : ∃ SS, sumD f.nodes = SS := ⟨_, rfl⟩
 have HSU := qhZ hSS
 have hS8 : SS ≤ 1048576 := by have := sumD_le f.nodes; have := HS.out; unfold szF at this; omega
 have HBY : Hid (∀ W, Below w4.heap.size w4 W → Calls Tryz.prog 66 #[.agg #[.slice (some ⟨g0, f0, none⟩) f.nodes.length c, .int .i64 f.room]] W fun e w' => e = .returned (.int .i64 (SS : Int)) ∧ Below W.heap.size W w') := qhZ (fun W h => bytes_is HSU.out (HFR4.out.below h) HS.out)
 have hw1 : IntKind.i64.wrap ((SS : Int) + (x.size : Int)) = (SS : Int) + (x.size : Int) := IntWalk.i64_in _ (by omega)
 rw [hSS] at hro
 clear hSS
 have KA4c0 : w4.cell? ⟨w.heap.size, 0, none⟩ = some (.slice (some ⟨g0, f0, none⟩) f.nodes.length c) := aA9 KA4.out 0
 have KA4c1 : w4.cell? ⟨w.heap.size, 1, none⟩ = some (.int .i64 f.room) := aA9 KA4.out 1
 have KN4c5 : w4.cell? ⟨w.heap.size + 2, 5, none⟩ = some (.string x) := aA9 KN4.out 5
 have v0 := fun d os => cell_regrown (w := w4) KA4c0 d os
 have v1 := fun d os => cell_regrown (w := w4) KA4c1 d os
 have v2 := fun d os => cell_regrown (w := w4) KN4c5 d os
 go_wp2
 refine wp_region_quiet_below (by kernel_rfl) (by kernel_rfl) ?_
 repeat (first | go_big_quiet_step ((go_at_call 66; exact Calls.regrown_of (HBY.out _ (below_regrown _ _ _)))) | quiet_step ((go_at_call 66; exact Calls.regrown_of (HBY.out _ (below_regrown _ _ _)))))
 refine wpQuiet_nil ?_
 intro w5 hwq
 have HQ5 : Hid (Below w4.heap.size w4 w5) := qhZ (by obtain ⟨pp, rfl⟩ := hwq; exact below_regrown _ _ _)
 clear hwq v0 v1 v2 KN4c5
 clear KA4c0 KA4c1
 have HB5 := qhZ (HB4.out.trans (HQ5.out.mono HB4.out.size))
 have KA5 := qhZ (aD9 HQ5.out KA4.out)
 have KB5 := qhZ (aD9 HQ5.out KB4.out)
 have KN5 := qhZ (aD9 HQ5.out KN4.out)
 have KZ5 := qhZ (aD9 HQ5.out KZ4.out)
 have KA5c0 : w5.cell? ⟨w.heap.size, 0, none⟩ = some (.slice (some ⟨g0, f0, none⟩) f.nodes.length c) := aA9 KA5.out 0
 have KA5c1 : w5.cell? ⟨w.heap.size, 1, none⟩ = some (.int .i64 f.room) := aA9 KA5.out 1
 have KZ5c0 : w5.cell? ⟨w.heap.size + 3, 0, none⟩ = some (.slice none 0 0) := aA9 KZ5.out 0
 have KZ5c1 : w5.cell? ⟨w.heap.size + 3, 1, none⟩ = some (.int .i64 0) := aA9 KZ5.out 1
 have KZ5f := aE9 KZ5.out
 have hq := bG9 KZ5.out (.slice (some ⟨g0, f0, none⟩) f.nodes.length c) (.int .i64 f.room)
 have t0 := (aA9 hq 0).trans rfl
 have t1 := (aA9 hq 1).trans rfl
 go_wp2
 refine bodyPost_ret (v := .tuple #[.agg #[.slice (some ⟨g0, f0, none⟩) f.nodes.length c, .int .i64 f.room], .int .i64 8]) (by simp [results, Tryz.results36, go_sem, t0, t1]) rfl ?_
 have hB9 := aP9 (G := w.heap.size + 3) (x := (.slice (some ⟨g0, f0, none⟩) f.nodes.length c)) (y := .int .i64 f.room) HB5.out (by omega)
 first
   | exact ⟨_, rfl, HR.out.below hB9, hB9⟩
   | exact ⟨rfl, HR.out.below hB9, hB9⟩
def CodeSays (E : Value) (cd : Int) : Prop := ∀ W, ErrT W → Calls Tryz.prog 82 #[E] W fun e w' => e = .returned (.int .i64 cd) ∧ Below W.heap.size W w'
theorem says_V (q : ByteArray) (cd : Int) : CodeSays (errV q cd) cd := fun W h => codeOf_any q cd W h
theorem says_C (cd : Int) : CodeSays (errC cd) cd := fun W h => codeOfC_any cd W h
set_option maxRecDepth 100000 in
theorem tryOn_told (f : FsD) (cd : Int) (hz : cd ≠ 0) (v : Value) (u g t : Int) (j : FuncId) (cap : Array Value) (w : World) (hR : FsA w v f) (hs : szF f ≤ 1048576) (hE : ErrT w) (hk : bC9 f u g = true) (ht : inB 0 1000000 t = true)
   (hcf : ∀ args w, (callFunc j args).run Tryz.prog w = .ok (.enter j args) w)
   (hchg : ∀ (w1 : World) (d R : Nat) (nv : Value) (ps : List (Nod × Value)), w.heap.size ≤ R → R ≤ d → Below w.heap.size w w1 → w1.heap[d]? = some (.cells #[nv, .int .i64 f.room, .int .i64 u, .int .i64 g, .int .i64 t] 75) → ps.map Prod.fst = f.nodes → Own w1 R nv ps →
     Calls Tryz.prog j (#[.pointer (some ⟨d, 0, none⟩)] ++ cap) w1 fun e w' => ∃ E, e = .returned E ∧ CodeSays E cd ∧ Below R w1 w' ∧ ∃ nv2 ps2, w'.heap[d]? = some (.cells #[nv2, .int .i64 f.room, .int .i64 u, .int .i64 g, .int .i64 t] 75) ∧ Own w' R nv2 ps2) :
   Calls Tryz.prog 45 #[v, .agg #[.int .i64 u, .int .i64 g], .int .i64 t, .func (.func j) #[] cap] w fun e w' => ∃ nv ps, e = .returned (.tuple #[.agg #[nv, .int .i64 f.room], .int .i64 cd, .bool true]) ∧ ps.map Prod.fst = f.nodes ∧ Own w' w.heap.size nv ps ∧ Below w.heap.size w w' := by
 have hmf : ∀ (fn : Fn) (first cap : Array Value) (w : World), (Instr.makeFunc fn first cap).run Tryz.prog w = .ok (.func fn first cap) w := fun _ _ _ _ => rfl
 have HR := qhZ hR
 have HZ := qhZ hz
 obtain ⟨nv0, rfl, hN⟩ := hR
 obtain ⟨o, c, rfl, -, -⟩ := hN
 have HS := qhZ hs
 have HET := qhZ hE
 have HK := qhZ hk
 have HTM := qhZ ht
 have HCH := qhZ hchg
 have hb0 : Below w.heap.size w ((((w.alloc (.cells #[.slice o f.nodes.length c, .int .i64 f.room] 30)).alloc (.cells #[.int .i64 u, .int .i64 g] 34)).alloc (.cells #[.slice none 0 0, .int .i64 0] 30)).alloc (.cells #[.int .i64 0] 3)) := (((((Below.refl _ _).alloc (Nat.le_refl _) _).alloc (by simp) _).alloc (by simp; omega) _).alloc (by simp; omega) _)
 have HB0 := qhZ hb0
 have HF0 := qhZ (al4_0 w (.cells #[.slice o f.nodes.length c, .int .i64 f.room] 30) (.cells #[.int .i64 u, .int .i64 g] 34) (.cells #[.slice none 0 0, .int .i64 0] 30) (.cells #[.int .i64 0] 3))
 have HC0 := qhZ (al4_1 w (.cells #[.slice o f.nodes.length c, .int .i64 f.room] 30) (.cells #[.int .i64 u, .int .i64 g] 34) (.cells #[.slice none 0 0, .int .i64 0] 30) (.cells #[.int .i64 0] 3))
 have HG0 := qhZ (al4_2 w (.cells #[.slice o f.nodes.length c, .int .i64 f.room] 30) (.cells #[.int .i64 u, .int .i64 g] 34) (.cells #[.slice none 0 0, .int .i64 0] 30) (.cells #[.int .i64 0] 3))
 have HN0 := qhZ (al4_3 w (.cells #[.slice o f.nodes.length c, .int .i64 f.room] 30) (.cells #[.int .i64 u, .int .i64 g] 34) (.cells #[.slice none 0 0, .int .i64 0] 30) (.cells #[.int .i64 0] 3))
 clear hs hE hk ht hchg hb0 hz
 go_enter_defers Tryz.func45, Tryz.ntmps45
 go_wp2_with fail
 refine (canLook_is HK.out (HR.out.below HB0.out) HS.out).mono ?_
 rintro e w1 ⟨rfl, hb1⟩
 have HB1 := qhZ (HB0.out.trans (hb1.mono HB0.out.size))
 have HF1 := qhZ ((hb1.block _ (aB9 HF0.out)).trans HF0.out)
 have HC1 := qhZ ((hb1.block _ (aB9 HC0.out)).trans HC0.out)
 have HG1 := qhZ ((hb1.block _ (aB9 HG0.out)).trans HG0.out)
 have HN1 := qhZ ((hb1.block _ (aB9 HN0.out)).trans HN0.out)
 clear hb1
 go_wp2_with fail
 refine (isTime_any _ _).mono ?_
 rintro e w1b ⟨rfl, rfl⟩
 rw [HTM.out]
 have f10 : w1.cell? ⟨w.heap.size, 0, none⟩ = some (.slice o f.nodes.length c) := aA9 HF1.out 0
 have f11 : w1.cell? ⟨w.heap.size, 1, none⟩ = some (.int .i64 f.room) := aA9 HF1.out 1
 have c10 : w1.cell? ⟨w.heap.size + 1, 0, none⟩ = some (.int .i64 u) := aA9 HC1.out 0
 have c11 : w1.cell? ⟨w.heap.size + 1, 1, none⟩ = some (.int .i64 g) := aA9 HC1.out 1
 have hs4 : w.heap.size + 4 ≤ w1.heap.size := aB9 HN1.out
 have f10z := fun oo => bM9 (o := oo) f10
 have f11z := fun oo => bM9 (o := oo) f11
 have c10z := fun oo => bM9 (o := oo) c10
 have c11z := fun oo => bM9 (o := oo) c11
 have HBX := qhZ HB1.out.drew
 have HBY := qhZ (HB1.out.alloc HB1.out.size (.cells #[.slice none 0 0, .int .i64 0, .int .i64 0, .int .i64 0, .int .i64 0] 75)).drew
 have HX : Hid (w1.heap.size ≤ w1.drew.heap.size ∧ ∀ i, i < w1.heap.size → w1.drew.heap[i]? = w1.heap[i]?) := qhZ ⟨Nat.le_refl _, fun _ _ => rfl⟩
 have HY : Hid (w1.heap.size ≤ (w1.alloc (.cells #[.slice none 0 0, .int .i64 0, .int .i64 0, .int .i64 0, .int .i64 0] 75)).drew.heap.size ∧ ∀ i, i < w1.heap.size → (w1.alloc (.cells #[.slice none 0 0, .int .i64 0, .int .i64 0, .int .i64 0, .int .i64 0] 75)).drew.heap[i]? = w1.heap[i]?) := qhZ ⟨by simp, fun i hi => Below.heap_alloc w1 _ i hi⟩
 have HYZ : Hid ((w1.alloc (.cells #[.slice none 0 0, .int .i64 0, .int .i64 0, .int .i64 0, .int .i64 0] 75)).drew.heap[w1.heap.size]? = some (.cells #[.slice none 0 0, .int .i64 0, .int .i64 0, .int .i64 0, .int .i64 0] 75)) := qhZ (heap_alloc_new w1 _)
 go_upto_region 3 with fail
 go_cut [11] from 23 to 27 (fun t11 wx => ∃ (d : Nat) (oo2 : Option Addr) (cc2 : Nat) (ps : List (Nod × Value)), t11 = .pointer (some ⟨d, 0, none⟩) ∧ w.heap.size + 4 ≤ d ∧ ps.map Prod.fst = f.nodes ∧ Own wx (w.heap.size + 4) (.slice oo2 ps.length cc2) ps ∧ wx.heap[d]? = some (.cells #[.slice oo2 ps.length cc2, .int .i64 f.room, .int .i64 u, .int .i64 g, .int .i64 t] 75) ∧ Below w.heap.size w wx ∧ (w1.heap.size ≤ wx.heap.size ∧ ∀ i, i < w1.heap.size → wx.heap[i]? = w1.heap[i]?))
 case first =>
   refine wp_region_noPanic ?_
   go_region_with
     (first
       | (go_at_call 80; (with_reducible refine (copyFs_any f _ _ (HR.out.below HBX.out) HS.out).mono ?_); rintro e w2 ⟨nv2, ps, rfl, hps, hO, hb2⟩; have HPS := qhZ hps; have HO2 := qhZ (hO.low (R := w.heap.size + 4) (Nat.le_trans hs4 HX.out.1)); obtain ⟨oo2, cc2, rfl, -⟩ := aM9 hO.row; have HB2 := qhZ (HBX.out.trans (hb2.mono HBX.out.size)); have HU2 : Hid (w1.heap.size ≤ w2.heap.size ∧ ∀ i, i < w1.heap.size → w2.heap[i]? = w1.heap[i]?) := qhZ ⟨Nat.le_trans HX.out.1 hb2.size, fun i hi => (hb2.block i (Nat.lt_of_lt_of_le hi HX.out.1)).trans (HX.out.2 i hi)⟩; have f20 : w2.cell? ⟨w.heap.size, 0, none⟩ = some (.slice o f.nodes.length c) := aA9 ((HU2.out.2 _ (aB9 HF1.out)).trans HF1.out) 0; have f21 : w2.cell? ⟨w.heap.size, 1, none⟩ = some (.int .i64 f.room) := aA9 ((HU2.out.2 _ (aB9 HF1.out)).trans HF1.out) 1; have c20 : w2.cell? ⟨w.heap.size + 1, 0, none⟩ = some (.int .i64 u) := aA9 ((HU2.out.2 _ (aB9 HC1.out)).trans HC1.out) 0; have c21 : w2.cell? ⟨w.heap.size + 1, 1, none⟩ = some (.int .i64 g) := aA9 ((HU2.out.2 _ (aB9 HC1.out)).trans HC1.out) 1; have f20z := fun oo => bM9 (o := oo) f20; have f21z := fun oo => bM9 (o := oo) f21; have c20z := fun oo => bM9 (o := oo) c20; have c21z := fun oo => bM9 (o := oo) c21; clear hps hO hb2)
       | (go_at_call 80; (with_reducible refine (copyFs_any f _ _ (HR.out.below HBY.out) HS.out).mono ?_); rintro e w2 ⟨nv2, ps, rfl, hps, hO, hb2⟩; have HPS := qhZ hps; have HO2 := qhZ (hO.low (R := w.heap.size + 4) (Nat.le_trans hs4 HY.out.1)); obtain ⟨oo2, cc2, rfl, -⟩ := aM9 hO.row; have HB2 := qhZ (HBY.out.trans (hb2.mono HBY.out.size)); have HU2 : Hid (w1.heap.size ≤ w2.heap.size ∧ ∀ i, i < w1.heap.size → w2.heap[i]? = w1.heap[i]?) := qhZ ⟨Nat.le_trans HY.out.1 hb2.size, fun i hi => (hb2.block i (Nat.lt_of_lt_of_le hi HY.out.1)).trans (HY.out.2 i hi)⟩; have HOB := qhZ (hO.low (R := w1.heap.size + 1) (by simp)); have HD2 := qhZ ((hb2.block _ (aB9 HYZ.out)).trans HYZ.out); have y0 : w2.cell? ⟨w1.heap.size, 0, none⟩ = some (.slice none 0 0) := aA9 HD2.out 0; have y1 : w2.cell? ⟨w1.heap.size, 1, none⟩ = some (.int .i64 0) := aA9 HD2.out 1; have y2 : w2.cell? ⟨w1.heap.size, 2, none⟩ = some (.int .i64 0) := aA9 HD2.out 2; have y3 : w2.cell? ⟨w1.heap.size, 3, none⟩ = some (.int .i64 0) := aA9 HD2.out 3; have y4 : w2.cell? ⟨w1.heap.size, 4, none⟩ = some (.int .i64 0) := aA9 HD2.out 4; have yf := aE9 HD2.out; have f20 : w2.cell? ⟨w.heap.size, 0, none⟩ = some (.slice o f.nodes.length c) := aA9 ((HU2.out.2 _ (aB9 HF1.out)).trans HF1.out) 0; have f21 : w2.cell? ⟨w.heap.size, 1, none⟩ = some (.int .i64 f.room) := aA9 ((HU2.out.2 _ (aB9 HF1.out)).trans HF1.out) 1; have c20 : w2.cell? ⟨w.heap.size + 1, 0, none⟩ = some (.int .i64 u) := aA9 ((HU2.out.2 _ (aB9 HC1.out)).trans HC1.out) 0; have c21 : w2.cell? ⟨w.heap.size + 1, 1, none⟩ = some (.int .i64 g) := aA9 ((HU2.out.2 _ (aB9 HC1.out)).trans HC1.out) 1; have f20z := fun oo => bM9 (o := oo) f20; have f21z := fun oo => bM9 (o := oo) f21; have c20z := fun oo => bM9 (o := oo) c20; have c21z := fun oo => bM9 (o := oo) c21; clear hps hO hb2))
   all_goals
     refine NoPanic.normal ?_
     go_wp2_with fail
     go_meet
     first
       | (have hx := HOB; exact ⟨w1.heap.size, oo2, cc2, ps, rfl, hs4, HPS.out, ((((((HOB.out.other (Nat.lt_succ_self _) _ _).other (Nat.lt_succ_self _) _ _).other (Nat.lt_succ_self _) _ _).other (Nat.lt_succ_self _) _ _).other (Nat.lt_succ_self _) _ _).low (Nat.le_succ_of_le hs4)), set_five HD2.out _ _ _ _ _, ((((HB2.out.setCell (p := ⟨w1.heap.size, 0, none⟩) HB1.out.size _).setCell (p := ⟨w1.heap.size, 1, none⟩) HB1.out.size _).setCell (p := ⟨w1.heap.size, 2, none⟩) HB1.out.size _).setCell (p := ⟨w1.heap.size, 3, none⟩) HB1.out.size _).setCell (p := ⟨w1.heap.size, 4, none⟩) HB1.out.size _, by simpa using HU2.out.1, fun i hi => (five_ne (Nat.ne_of_lt hi) _ _ _ _ _).trans (HU2.out.2 i hi)⟩)
       | exact ⟨w2.heap.size, oo2, cc2, ps, rfl, Nat.le_trans hs4 HU2.out.1, HPS.out, HO2.out.up fun i _ hi => Below.heap_alloc w2 _ i hi, heap_alloc_new w2 _, HB2.out.alloc HB2.out.size _, by simp only [World.size_alloc]; exact Nat.le_succ_of_le HU2.out.1, fun i hi => (Below.heap_alloc w2 _ i (Nat.lt_of_lt_of_le hi HU2.out.1)).trans (HU2.out.2 i hi)⟩
 case rest =>
   obtain ⟨d, oo2, cc2, ps, rfl, hd, hps, hO, hD, hB, hU⟩ := hcut
   have HU := qhZ hU
   have HB := qhZ hB
   clear f10z f11z c10z c11z HBX HBY HX HY HYZ f10 f11 c10 c11 hU
   go_wp2_with fail
   refine (HCH.out _ d (w.heap.size + 4) _ ps (by omega) hd hB hD hps hO).mono ?_
   rintro e w3 ⟨E, rfl, hCO, hb3, nv3, ps3, hD3, hO3⟩
   have HCOE : Hid (∀ W, ErrT W → Calls Tryz.prog 82 #[E] W fun e w' => e = .returned (.int .i64 cd) ∧ Below W.heap.size W w') := qhZ hCO
   clear hCO
   obtain ⟨oo3, cc3, rfl, -⟩ := aM9 hO3.row
   have HB3 : Hid (Below w.heap.size w w3) := qhZ (HB.out.trans (hb3.mono (by omega)))
   have HO3 := qhZ hO3
   have hu3 : ∀ i, i < w.heap.size + 4 → w3.heap[i]? = w1.heap[i]? := fun i hi => (hb3.block i hi).trans (HU.out.2 i (by omega))
   have HG3 : Hid (w3.heap[w.heap.size + 2]? = some (.cells #[.slice none 0 0, .int .i64 0] 30)) := qhZ ((hu3 _ (by omega)).trans HG1.out)
   have HN3 : Hid (w3.heap[w.heap.size + 3]? = some (.cells #[.int .i64 0] 3)) := qhZ ((hu3 _ (by omega)).trans HN1.out)
   have HF3 : Hid (w3.heap[w.heap.size]? = some (.cells #[.slice o f.nodes.length c, .int .i64 f.room] 30)) := qhZ ((hu3 _ (by omega)).trans HF1.out)
   have HD3 := qhZ hD3
   have x0 : w3.cell? ⟨d, 0, none⟩ = some (.slice oo3 ps3.length cc3) := aA9 hD3 0
   have x1 : w3.cell? ⟨d, 1, none⟩ = some (.int .i64 f.room) := aA9 hD3 1
   have g0 : w3.cell? ⟨w.heap.size + 2, 0, none⟩ = some (.slice none 0 0) := aA9 HG3.out 0
   have g1 : w3.cell? ⟨w.heap.size + 2, 1, none⟩ = some (.int .i64 0) := aA9 HG3.out 1
   have gf := aE9 HG3.out
   have n0 : w3.cell? ⟨w.heap.size + 3, 0, none⟩ = some (.int .i64 0) := aA9 HN3.out 0
   have nf := aE9 HN3.out
   have hdl := aB9 hD3
   clear hb3 hD3 hO3 hO hD hB hps hu3
   have HCO := HCOE
   have HBa := qhZ HB3.out.drew
   have HBb : Hid (Below w.heap.size w ((w3.setCell ⟨w.heap.size + 2, 0, none⟩ (.slice oo3 ps3.length cc3)).setCell ⟨w.heap.size + 2, 1, none⟩ (.int .i64 f.room)).drew) := qhZ ((HB3.out.setCell (p := ⟨w.heap.size + 2, 0, none⟩) (by simp only; omega) _).setCell (p := ⟨w.heap.size + 2, 1, none⟩) (by simp only; omega) _).drew
   have HEa := qhZ (HET.out.below HBa.out HET.out.1)
   have HEb := qhZ (HET.out.below HBb.out HET.out.1)
   have HUb : Hid (∀ i, w.heap.size + 4 ≤ i → i < w3.heap.size → ((w3.setCell ⟨w.heap.size + 2, 0, none⟩ (.slice oo3 ps3.length cc3)).setCell ⟨w.heap.size + 2, 1, none⟩ (.int .i64 f.room)).drew.heap[i]? = w3.heap[i]?) := qhZ (fun i h1 h2 => (Below.heap_setCell _ ⟨w.heap.size + 2, 1, none⟩ _ i (by simp only; omega)).trans (Below.heap_setCell _ ⟨w.heap.size + 2, 0, none⟩ _ i (by simp only; omega)))
   have HF3d : Hid (w3.drew.heap[w.heap.size]? = _) := qhZ HF3.out
   have HD3d : Hid (w3.drew.heap[d]? = _) := qhZ HD3.out
   have HG3d : Hid (w3.drew.heap[w.heap.size + 2]? = _) := qhZ HG3.out
   have HN3d : Hid (w3.drew.heap[w.heap.size + 3]? = _) := qhZ HN3.out
   have HG5 : Hid (((w3.setCell ⟨w.heap.size + 2, 0, none⟩ (.slice oo3 ps3.length cc3)).setCell ⟨w.heap.size + 2, 1, none⟩ (.int .i64 f.room)).drew.heap[w.heap.size + 2]? = some (.cells #[(.slice oo3 ps3.length cc3), .int .i64 f.room] 30)) := qhZ (set_two HG3.out _ _)
   have HF5 : Hid (((w3.setCell ⟨w.heap.size + 2, 0, none⟩ (.slice oo3 ps3.length cc3)).setCell ⟨w.heap.size + 2, 1, none⟩ (.int .i64 f.room)).drew.heap[w.heap.size]? = some (.cells #[.slice o f.nodes.length c, .int .i64 f.room] 30)) := qhZ ((Below.heap_setCell _ ⟨w.heap.size + 2, 1, none⟩ _ _ (by simp only; omega)).trans ((Below.heap_setCell _ ⟨w.heap.size + 2, 0, none⟩ _ _ (by simp only; omega)).trans HF3.out))
   have HN5 : Hid (((w3.setCell ⟨w.heap.size + 2, 0, none⟩ (.slice oo3 ps3.length cc3)).setCell ⟨w.heap.size + 2, 1, none⟩ (.int .i64 f.room)).drew.heap[w.heap.size + 3]? = some (.cells #[.int .i64 0] 3)) := qhZ ((Below.heap_setCell _ ⟨w.heap.size + 2, 1, none⟩ _ _ (by simp only; omega)).trans ((Below.heap_setCell _ ⟨w.heap.size + 2, 0, none⟩ _ _ (by simp only; omega)).trans HN3.out))
   go_upto_region 6 with fail
   go_cut [10] from 31 to 34 (fun t10 wx => t10 = .bool true ∧ wx.heap[w.heap.size + 2]? = some (.cells #[(.slice oo3 ps3.length cc3), .int .i64 f.room] 30) ∧ wx.heap[w.heap.size + 3]? = some (.cells #[.int .i64 cd] 3) ∧ wx.heap[w.heap.size]? = some (.cells #[.slice o f.nodes.length c, .int .i64 f.room] 30) ∧ Own wx (w.heap.size + 4) (.slice oo3 ps3.length cc3) ps3 ∧ Below w.heap.size w wx)
   case first =>
     refine wp_region_noPanic ?_
     go_region_with (first
       | (go_at_call 82; (with_reducible refine (HCO.out _ HEa.out).mono ?_); rintro e w4 ⟨rfl, hb4⟩; have HB4 := qhZ (HBa.out.trans (hb4.mono HBa.out.size)); have HO4 := qhZ ((HO3.out.up (w' := w3.drew) (fun _ _ _ => rfl)).below hb4); have HD4 := qhZ ((hb4.block _ (aB9 HD3d.out)).trans HD3d.out); have HG4 := qhZ ((hb4.block _ (aB9 HG3d.out)).trans HG3d.out); have HN4 := qhZ ((hb4.block _ (aB9 HN3d.out)).trans HN3d.out); have HF4 := qhZ ((hb4.block _ (aB9 HF3d.out)).trans HF3d.out); have g40 := aA9 HG4.out 0; have g41 := aA9 HG4.out 1; have g4f := aE9 HG4.out; have n40 := aA9 HN4.out 0; have n4f := aE9 HN4.out; have d40 := aA9 HD4.out 0; have d41 := aA9 HD4.out 1; clear hb4)
       | (go_at_call 82; (with_reducible refine (HCO.out _ HEb.out).mono ?_); rintro e w4 ⟨rfl, hb4⟩; have HB4 := qhZ (HBb.out.trans (hb4.mono HBb.out.size)); have HO4 := qhZ ((HO3.out.up (w' := ((w3.setCell ⟨w.heap.size + 2, 0, none⟩ (.slice oo3 ps3.length cc3)).setCell ⟨w.heap.size + 2, 1, none⟩ (.int .i64 f.room)).drew) HUb.out).below hb4); have HG4 := qhZ ((hb4.block _ (aB9 HG5.out)).trans HG5.out); have HN4 := qhZ ((hb4.block _ (aB9 HN5.out)).trans HN5.out); have HF4 := qhZ ((hb4.block _ (aB9 HF5.out)).trans HF5.out); have n40 := aA9 HN4.out 0; have n4f := aE9 HN4.out; clear hb4))
     all_goals
       refine NoPanic.normal ?_
       go_wp2_with fail
       go_meet
       first
         | exact ⟨rfl, (Below.heap_setCell _ ⟨w.heap.size + 3, 0, none⟩ _ _ (by simp only; omega)).trans (set_two HG4.out _ _), set_one ((Below.heap_setCell _ ⟨w.heap.size + 2, 1, none⟩ _ _ (by simp only; omega)).trans ((Below.heap_setCell _ ⟨w.heap.size + 2, 0, none⟩ _ _ (by simp only; omega)).trans HN4.out)) _, (Below.heap_setCell _ ⟨w.heap.size + 3, 0, none⟩ _ _ (by simp only; omega)).trans ((Below.heap_setCell _ ⟨w.heap.size + 2, 1, none⟩ _ _ (by simp only; omega)).trans ((Below.heap_setCell _ ⟨w.heap.size + 2, 0, none⟩ _ _ (by simp only; omega)).trans HF4.out)), ((HO4.out.other (by omega) _ _).other (by omega) _ _).other (by omega) _ _, ((HB4.out.setCell (p := ⟨w.heap.size + 2, 0, none⟩) (by simp only; omega) _).setCell (p := ⟨w.heap.size + 2, 1, none⟩) (by simp only; omega) _).setCell (p := ⟨w.heap.size + 3, 0, none⟩) (by simp only; omega) _⟩
         | exact ⟨rfl, set_two ((Below.heap_setCell _ ⟨w.heap.size + 3, 0, none⟩ _ _ (by simp only; omega)).trans HG4.out) _ _, (Below.heap_setCell _ ⟨w.heap.size + 2, 1, none⟩ _ _ (by simp only; omega)).trans ((Below.heap_setCell _ ⟨w.heap.size + 2, 0, none⟩ _ _ (by simp only; omega)).trans (set_one HN4.out _)), (Below.heap_setCell _ ⟨w.heap.size + 2, 1, none⟩ _ _ (by simp only; omega)).trans ((Below.heap_setCell _ ⟨w.heap.size + 2, 0, none⟩ _ _ (by simp only; omega)).trans ((Below.heap_setCell _ ⟨w.heap.size + 3, 0, none⟩ _ _ (by simp only; omega)).trans HF4.out)), ((HO4.out.other (by omega) _ _).other (by omega) _ _).other (by omega) _ _, ((HB4.out.setCell (p := ⟨w.heap.size + 3, 0, none⟩) (by simp only; omega) _).setCell (p := ⟨w.heap.size + 2, 0, none⟩) (by simp only; omega) _).setCell (p := ⟨w.heap.size + 2, 1, none⟩) (by simp only; omega) _⟩
         | exact ⟨rfl, (Below.heap_setCell _ ⟨w.heap.size + 3, 0, none⟩ _ _ (by simp only; omega)).trans HG4.out, set_one HN4.out _, (Below.heap_setCell _ ⟨w.heap.size + 3, 0, none⟩ _ _ (by simp only; omega)).trans HF4.out, HO4.out.other (by omega) _ _, HB4.out.setCell (p := ⟨w.heap.size + 3, 0, none⟩) (by simp only; omega) _⟩
   case rest =>
     obtain ⟨rfl, hg9, hn9, hf9, hO9, hB9⟩ := hcut
     have r0 : wc.cell? ⟨w.heap.size + 2, 0, none⟩ = some (Value.slice oo3 ps3.length cc3) := aA9 hg9 0
     have r1 : wc.cell? ⟨w.heap.size + 2, 1, none⟩ = some (Value.int .i64 f.room) := aA9 hg9 1
     have r2 : wc.cell? ⟨w.heap.size + 3, 0, none⟩ = some (Value.int .i64 cd) := aA9 hn9 0
     have HO9 := qhZ hO9
     have HB9 := qhZ hB9
     have HN9 := qhZ hn9
     have HG9 := qhZ hg9
     have HF9 := qhZ hf9
     clear hg9 hn9 hO9 hB9 hf9 x0 x1 g0 g1 gf n0 nf
     go_wp2
     refine leaves_cons (f := 81) (args := #[.pointer (some ⟨w.heap.size + 3, 0, none⟩), .pointer (some ⟨w.heap.size, 0, none⟩), .pointer (some ⟨w.heap.size + 2, 0, none⟩)]) (by simp) (by simp [go_sem]) ?_
     refine (undo_done (w.heap.size + 3) w.heap.size (w.heap.size + 2) cd f _ _ _ 0 .returning _ HZ.out HN9.out HF9.out HG9.out (HR.out.below HB9.out) HS.out).mono ?_
     rintro e u' w'' ⟨rfl, rfl, nv8, ps8, w8, hps8, hO8, hb8, rfl⟩
     have hl8 := HB9.out.size
     have hlc := aB9 HN9.out
     have hg8 := set_two ((hb8.block _ (aB9 HG9.out)).trans HG9.out) nv8 (.int .i64 f.room)
     have hn8 := (Below.heap_setCell (w8.setCell ⟨w.heap.size + 2, 0, none⟩ nv8) ⟨w.heap.size + 2, 1, none⟩ (.int .i64 f.room) (w.heap.size + 3) (by simp only; omega)).trans ((Below.heap_setCell w8 ⟨w.heap.size + 2, 0, none⟩ nv8 (w.heap.size + 3) (by simp only; omega)).trans ((hb8.block _ (aB9 HN9.out)).trans HN9.out))
     have q0 := (aA9 hg8 0).trans rfl
     have q1 := (aA9 hg8 1).trans rfl
     have q2 := (aA9 hn8 0).trans rfl
     refine ⟨.tuple #[.agg #[nv8, .int .i64 f.room], .int .i64 cd, .bool true], by simp [results, Tryz.results45, go_sem, q0, q1, q2], _, ps8, rfl, hps8, ((hO8.other (by omega) _ _).other (by omega) _ _).low (by omega), ((HB9.out.trans (hb8.mono HB9.out.size)).setCell (p := ⟨w.heap.size + 2, 0, none⟩) (by simp only; omega) _).setCell (p := ⟨w.heap.size + 2, 1, none⟩) (by simp only; omega) _⟩
end Go.Proofs.YtknhacblialboaaGreatDoor
