/-
  Joined: LookP TryB OfC InoP LookJ InoQ LookQ PlaceM.
  Conditions: as each states.
-/
import Derived.Deep.RegionHeld3
import Derived.Deep.RegionWith
import Derived.Deep.CutRange
import Derived.Deep.CutBlock
import Derived.Deep.DeepCutAuto
import Derived.Test.YtknhacblialboaaGreatDoorLib3
import Derived.Test.YtknhacblialboaaGreatDoorLib4
import Derived.Test.YtknhacblialboaaGreatDoorLib12
import Derived.Test.YtknhacblialboaaGreatDoorLib13
import Derived.Test.YtknhacblialboaaGreatDoorLib14
namespace Go.Proofs.YtknhacblialboaaGreatDoor
open Go.ChangeShapes Go.WideShapes Go.ChangeAt Go.RowKit Go.Joins
set_option linter.unusedVariables false
set_option linter.unusedSimpArgs false
set_option maxHeartbeats 16000000
theorem canLook_any (f : FsD) (v : Value) (u g : Int) (w : World) (hR : FsA w v f) (hs : szF f ≤ 1048576) : Calls Tryz.prog 57 #[v, .agg #[.int .i64 u, .int .i64 g]] w fun e w' => e = .returned (.bool (bC9 f u g)) ∧ Below w.heap.size w w' := by
 have HR := qhZ hR
 obtain ⟨nv, rfl, hN⟩ := hR
 have HN := qhZ hN
 obtain ⟨o, c, rfl, hm, hH⟩ := hN
 unfold maxLen at hm
 have HS := qhZ hs
 have hl : f.nodes.length ≤ 1048576 := (aG9 hs).1
 have HB0 : Hid (Below w.heap.size w ((w.alloc (.cells #[.slice o f.nodes.length c, .int .i64 f.room] 30)).alloc (.cells #[.int .i64 u, .int .i64 g] 34))) := qhZ (((Below.refl _ _).alloc (Nat.le_refl _) _).alloc (by simp) _)
 have KA0 := qhZ (alloc3_fst' w (.cells #[.slice o f.nodes.length c, .int .i64 f.room] 30) (.cells #[.int .i64 u, .int .i64 g] 34))
 have KB0 := qhZ (alloc3_snd' w (.cells #[.slice o f.nodes.length c, .int .i64 f.room] 30) (.cells #[.int .i64 u, .int .i64 g] 34))
 clear hH
 clear hs
 by_cases hg : goodF f = true
 · have HG := qhZ hg
   have HF : Hid (bC9 f u g = credB u g) := qhZ (by unfold bC9; rw [HG.out]; rfl)
   clear hg
   go_enter Tryz.func57, Tryz.ntmps57
   go_wp2_with fail
   refine (goodFs_any f _ _ (HR.out.below HB0.out) HS.out).mono ?_
   rintro e w1 ⟨rfl, hb1⟩
   rw [HG.out]
   have HB1 := qhZ (HB0.out.trans (hb1.mono HB0.out.size))
   have KA1 := qhZ ((hb1.block w.heap.size (aB9 KA0.out)).trans KA0.out)
   have KB1 := qhZ ((hb1.block (w.heap.size + 1) (aB9 KB0.out)).trans KB0.out)
   have x1a : w1.cell? ⟨w.heap.size, 0, none⟩ = some (.slice o f.nodes.length c) := aA9 KA1.out 0
   have x1b : w1.cell? ⟨w.heap.size, 1, none⟩ = some (.int .i64 f.room) := aA9 KA1.out 1
   have y1a : w1.cell? ⟨w.heap.size + 1, 0, none⟩ = some (.int .i64 u) := aA9 KB1.out 0
   have y1b : w1.cell? ⟨w.heap.size + 1, 1, none⟩ = some (.int .i64 g) := aA9 KB1.out 1
   clear hb1
   go_wp2_with fail
   refine (goodCred_any u g _).mono ?_
   rintro e w2 ⟨rfl, hb2⟩
   have HB2 := qhZ (HB1.out.trans (hb2.mono HB1.out.size))
   clear hb2
   go_wp2
   go_ret
   exact ⟨aK9 HF.out.symm, HB2.out⟩
 · have HG : Hid (goodF f = false) := qhZ (by simpa using hg)
   have HF : Hid (bC9 f u g = false) := qhZ (by unfold bC9; rw [HG.out]; rfl)
   clear hg
   go_enter Tryz.func57, Tryz.ntmps57
   go_wp2_with fail
   refine (goodFs_any f _ _ (HR.out.below HB0.out) HS.out).mono ?_
   rintro e w1 ⟨rfl, hb1⟩
   rw [HG.out]
   have HB1 := qhZ (HB0.out.trans (hb1.mono HB0.out.size))
   clear hb1
   go_wp2
   go_ret
   exact ⟨aK9 HF.out.symm, HB1.out⟩
theorem canLook_is {f : FsD} {v : Value} {u g : Int} {w : World} {b : Bool} (h : bC9 f u g = b) (hR : FsA w v f) (hs : szF f ≤ 1048576) : Calls Tryz.prog 57 #[v, .agg #[.int .i64 u, .int .i64 g]] w fun e w' => e = .returned (.bool b) ∧ Below w.heap.size w w' := by
 rw [← h]; exact canLook_any f v u g w hR hs
theorem nodeAt_no (f : FsD) (v : Value) (u g : Int) (s : ByteArray) (fol : Bool) (w : World) (hR : FsA w v f) (hs : szF f ≤ 1048576) (hss : s.size ≤ 1048576) (hw : wgB s.data.toList = false) :
   Calls Tryz.prog 83 #[v, .agg #[.int .i64 u, .int .i64 g], .string s, .bool fol] w fun e w' => e = .returned (.tuple #[.int .i64 0, faultV s 1]) ∧ Below w.heap.size w w' := by
 have HR := qhZ hR
 obtain ⟨nv, rfl, hN⟩ := hR
 have HN := qhZ hN
 obtain ⟨o, c, rfl, hm, hH⟩ := hN
 unfold maxLen at hm
 have HS := qhZ hs
 have hl : f.nodes.length ≤ 1048576 := (aG9 hs).1
 have HB0 : Hid (Below w.heap.size w ((w.alloc (.cells #[.slice o f.nodes.length c, .int .i64 f.room] 30)).alloc (.cells #[.int .i64 u, .int .i64 g] 34))) := qhZ (((Below.refl _ _).alloc (Nat.le_refl _) _).alloc (by simp) _)
 have KA0 := qhZ (alloc3_fst' w (.cells #[.slice o f.nodes.length c, .int .i64 f.room] 30) (.cells #[.int .i64 u, .int .i64 g] 34))
 have KB0 := qhZ (alloc3_snd' w (.cells #[.slice o f.nodes.length c, .int .i64 f.room] 30) (.cells #[.int .i64 u, .int .i64 g] 34))
 clear hH
 have HW := qhZ hw
 clear hw hs
 go_enter Tryz.func83, Tryz.ntmps83
 go_wp2_with fail
 refine (isWholePath_is HW.out (by omega)).mono ?_
 rintro e w1 ⟨rfl, hb1⟩
 have HB1 := qhZ (HB0.out.trans (hb1.mono HB0.out.size))
 clear hb1
 go_wp2
 go_ret2
 exact ⟨rfl, HB1.out⟩
theorem nodeAt_any (f : FsD) (v : Value) (u g : Int) (s : ByteArray) (fol : Bool) (w : World) (hR : FsA w v f) (hs : szF f ≤ 1048576) (hgood : goodF f = true) (hcred : credB u g = true) (hss : s.size ≤ 1048576) :
   Calls Tryz.prog 83 #[v, .agg #[.int .i64 u, .int .i64 g], .string s, .bool fol] w fun e w' => e = .returned (.tuple #[.int .i64 ((bK9 f.nodes u g s.data.toList fol).2 : Nat), errV s (bK9 f.nodes u g s.data.toList fol).1]) ∧ Below w.heap.size w w' := by
 by_cases hw : wgB s.data.toList = true
 · cases fol with
   | false => exact nodeAt_f f v u g s w hR hgood hcred hs hss hw
   | true => exact nodeAt_t f v u g s w hR hgood hcred hs hss hw
 · have h1 : bK9 f.nodes u g s.data.toList fol = (1, 0) := by
     unfold bK9
     rw [if_neg]
     intro h
     apply hw
     unfold wgB
     rw [h.1, h.2]; rfl
   rw [h1]
   exact nodeAt_no f v u g s fol w hR hs hss (by simpa using hw)
theorem ask_cred {f : FsD} {u g : Int} (h : bC9 f u g = true) : credB u g = true := by unfold bC9 at h; simp only [Bool.and_eq_true] at h; exact h.2
theorem nodeAt_is {f : FsD} {v : Value} {u g : Int} {s : ByteArray} {fol : Bool} {w : World} {cd : Int} {nd : Nat} (h : bK9 f.nodes u g s.data.toList fol = (cd, nd)) (hR : FsA w v f) (hs : szF f ≤ 1048576) (hk : bC9 f u g = true) (hss : s.size ≤ 1048576) :
   Calls Tryz.prog 83 #[v, .agg #[.int .i64 u, .int .i64 g], .string s, .bool fol] w fun e w' => e = .returned (.tuple #[.int .i64 (nd : Int), errV s cd]) ∧ Below w.heap.size w w' := by
 have := nodeAt_any f v u g s fol w hR hs (bN9 hk) (ask_cred hk) hss
 rw [h] at this
 exact this
theorem al4_0 (w : World) (a b c d : Obj) : ((((w.alloc a).alloc b).alloc c).alloc d).heap[w.heap.size]? = some a := by
 rw [Below.heap_alloc _ d _ (by first | (simp; done) | (simp; omega)), Below.heap_alloc _ c _ (by first | (simp; done) | (simp; omega)), Below.heap_alloc _ b _ (by first | (simp; done) | (simp; omega))]
 exact heap_alloc_new w a
theorem al4_1 (w : World) (a b c d : Obj) : ((((w.alloc a).alloc b).alloc c).alloc d).heap[w.heap.size + 1]? = some b := by
 rw [Below.heap_alloc _ d _ (by first | (simp; done) | (simp; omega)), Below.heap_alloc _ c _ (by first | (simp; done) | (simp; omega))]
 have h := heap_alloc_new (w.alloc a) b
 rw [World.size_alloc] at h
 exact h
theorem al4_2 (w : World) (a b c d : Obj) : ((((w.alloc a).alloc b).alloc c).alloc d).heap[w.heap.size + 2]? = some c := by
 rw [Below.heap_alloc _ d _ (by first | (simp; done) | (simp; omega))]
 have h := heap_alloc_new ((w.alloc a).alloc b) c
 rw [World.size_alloc, World.size_alloc] at h
 exact h
theorem al4_3 (w : World) (a b c d : Obj) : ((((w.alloc a).alloc b).alloc c).alloc d).heap[w.heap.size + 3]? = some d := by
 have h := heap_alloc_new (((w.alloc a).alloc b).alloc c) d
 rw [World.size_alloc, World.size_alloc, World.size_alloc] at h
 exact h
theorem set_two {w : World} {G : Nat} {x y : Value} {T : TypeId} (h : w.heap[G]? = some (.cells #[x, y] T (0, 0))) (a b : Value) : ((w.setCell ⟨G, 0, none⟩ a).setCell ⟨G, 1, none⟩ b).heap[G]? = some (.cells #[a, b] T (0, 0)) :=
 heap_setCell_same _ G 1 _ T b (heap_setCell_same w G 0 _ T a h)
theorem set_five {w : World} {G : Nat} {x0 x1 x2 x3 x4 : Value} {T : TypeId} (h : w.heap[G]? = some (.cells #[x0, x1, x2, x3, x4] T (0, 0))) (a b c d e : Value) : (((((w.setCell ⟨G, 0, none⟩ a).setCell ⟨G, 1, none⟩ b).setCell ⟨G, 2, none⟩ c).setCell ⟨G, 3, none⟩ d).setCell ⟨G, 4, none⟩ e).heap[G]? = some (.cells #[a, b, c, d, e] T (0, 0)) :=
 heap_setCell_same _ G 4 _ T e (heap_setCell_same _ G 3 _ T d (heap_setCell_same _ G 2 _ T c (heap_setCell_same _ G 1 _ T b (heap_setCell_same w G 0 _ T a h))))
theorem five_ne {w : World} {G i : Nat} (h : i ≠ G) (a b c d e : Value) : (((((w.setCell ⟨G, 0, none⟩ a).setCell ⟨G, 1, none⟩ b).setCell ⟨G, 2, none⟩ c).setCell ⟨G, 3, none⟩ d).setCell ⟨G, 4, none⟩ e).heap[i]? = w.heap[i]? :=
 (Below.heap_setCell _ ⟨G, 4, none⟩ e i h).trans ((Below.heap_setCell _ ⟨G, 3, none⟩ d i h).trans ((Below.heap_setCell _ ⟨G, 2, none⟩ c i h).trans ((Below.heap_setCell _ ⟨G, 1, none⟩ b i h).trans (Below.heap_setCell w ⟨G, 0, none⟩ a i h))))
theorem set_one {w : World} {N : Nat} {x : Value} {T : TypeId} (h : w.heap[N]? = some (.cells #[x] T (0, 0))) (a : Value) : (w.setCell ⟨N, 0, none⟩ a).heap[N]? = some (.cells #[a] T (0, 0)) :=
 heap_setCell_same w N 0 _ T a h
theorem Own.other {w : World} {R : Nat} {nv : Value} {ps : List (Nod × Value)} (h : Own w R nv ps) {b : Nat} (hb : b < R) (j : Nat) (u : Value) : Own (w.setCell ⟨b, j, none⟩ u) R nv ps :=
 h.up fun i hi _ => Below.heap_setCell w ⟨b, j, none⟩ u i (by simp only; omega)
theorem bM9 {w : World} {a : Addr} {v : Value} {o : Obj} (h : w.cell? a = some v) : (w.alloc o).cell? a = some v := by
 have hl : a.block < w.heap.size := World.block_lt_of_cell? w a h
 exact (((Below.refl _ w).alloc (Nat.le_refl _) o).cell hl).trans h
set_option maxRecDepth 100000 in
theorem tryOn_ok (f f2 : FsD) (v : Value) (u g t : Int) (j : FuncId) (cap : Array Value) (w : World) (hR : FsA w v f) (hs : szF f ≤ 1048576) (hE : ErrT w) (hk : bC9 f u g = true) (ht : inB 0 1000000 t = true)
   (hcf : ∀ args w, (callFunc j args).run Tryz.prog w = .ok (.enter j args) w)
   (hchg : ∀ (w1 : World) (d R : Nat) (nv : Value) (ps : List (Nod × Value)), w.heap.size ≤ R → R ≤ d → Below w.heap.size w w1 → w1.heap[d]? = some (.cells #[nv, .int .i64 f.room, .int .i64 u, .int .i64 g, .int .i64 t] 75) → ps.map Prod.fst = f.nodes → Own w1 R nv ps →
     Calls Tryz.prog j (#[.pointer (some ⟨d, 0, none⟩)] ++ cap) w1 fun e w' => e = .returned .nilIface ∧ Below R w1 w' ∧ ∃ nv2 ps2, w'.heap[d]? = some (.cells #[nv2, .int .i64 f2.room, .int .i64 u, .int .i64 g, .int .i64 t] 75) ∧ ps2.map Prod.fst = f2.nodes ∧ Own w' R nv2 ps2) :
   Calls Tryz.prog 45 #[v, .agg #[.int .i64 u, .int .i64 g], .int .i64 t, .func (.func j) #[] cap] w fun e w' => ∃ nv ps, e = .returned (.tuple #[.agg #[nv, .int .i64 f2.room], .int .i64 0, .bool true]) ∧ ps.map Prod.fst = f2.nodes ∧ Own w' w.heap.size nv ps ∧ Below w.heap.size w w' := by
 have hmf : ∀ (fn : Fn) (first cap : Array Value) (w : World), (Instr.makeFunc fn first cap).run Tryz.prog w = .ok (.func fn first cap) w := fun _ _ _ _ => rfl
 have HR := qhZ hR
 obtain ⟨nv0, rfl, hN⟩ := hR
 obtain ⟨o, c, rfl, -, -⟩ := hN
 have HS := qhZ hs
 have HET := qhZ hE
 have HK := qhZ hk
 have HTM := qhZ ht
 have HCH := qhZ hchg
 have hb0 : Below w.heap.size w ((((w.alloc (.cells #[.slice o f.nodes.length c, .int .i64 f.room] 30)).alloc (.cells #[.int .i64 u, .int .i64 g] 34)).alloc (.cells #[.slice none 0 0, .int .i64 0] 30)).alloc (.cells #[.int .i64 0] 3)) := (((((Below.refl _ _).alloc (Nat.le_refl _) _).alloc (by simp) _).alloc (by simp; omega) _).alloc (by simp; omega) _)
 have HB0 := qhZ hb0
 have HF0 := qhZ (al4_0 w (.cells #[.slice o f.nodes.length c, .int .i64 f.room] 30) (.cells #[.int .i64 u, .int .i64 g] 34) (.cells #[.slice none 0 0, .int .i64 0] 30) (.cells #[.int .i64 0] 3))
 have HC0 := qhZ (al4_1 w (.cells #[.slice o f.nodes.length c, .int .i64 f.room] 30) (.cells #[.int .i64 u, .int .i64 g] 34) (.cells #[.slice none 0 0, .int .i64 0] 30) (.cells #[.int .i64 0] 3))
 have HG0 := qhZ (al4_2 w (.cells #[.slice o f.nodes.length c, .int .i64 f.room] 30) (.cells #[.int .i64 u, .int .i64 g] 34) (.cells #[.slice none 0 0, .int .i64 0] 30) (.cells #[.int .i64 0] 3))
 have HN0 := qhZ (al4_3 w (.cells #[.slice o f.nodes.length c, .int .i64 f.room] 30) (.cells #[.int .i64 u, .int .i64 g] 34) (.cells #[.slice none 0 0, .int .i64 0] 30) (.cells #[.int .i64 0] 3))
 clear hs hE hk ht hchg hb0
 go_enter_defers Tryz.func45, Tryz.ntmps45
 go_wp2_with fail
 refine (canLook_is HK.out (HR.out.below HB0.out) HS.out).mono ?_
 rintro e w1 ⟨rfl, hb1⟩
 have HB1 := qhZ (HB0.out.trans (hb1.mono HB0.out.size))
 have HF1 := qhZ ((hb1.block _ (aB9 HF0.out)).trans HF0.out)
 have HC1 := qhZ ((hb1.block _ (aB9 HC0.out)).trans HC0.out)
 have HG1 := qhZ ((hb1.block _ (aB9 HG0.out)).trans HG0.out)
 have HN1 := qhZ ((hb1.block _ (aB9 HN0.out)).trans HN0.out)
 clear hb1
 go_wp2_with fail
 refine (isTime_any _ _).mono ?_
 rintro e w1b ⟨rfl, rfl⟩
 rw [HTM.out]
 have f10 : w1.cell? ⟨w.heap.size, 0, none⟩ = some (.slice o f.nodes.length c) := aA9 HF1.out 0
 have f11 : w1.cell? ⟨w.heap.size, 1, none⟩ = some (.int .i64 f.room) := aA9 HF1.out 1
 have c10 : w1.cell? ⟨w.heap.size + 1, 0, none⟩ = some (.int .i64 u) := aA9 HC1.out 0
 have c11 : w1.cell? ⟨w.heap.size + 1, 1, none⟩ = some (.int .i64 g) := aA9 HC1.out 1
 have hs4 : w.heap.size + 4 ≤ w1.heap.size := aB9 HN1.out
 have f10z := fun oo => bM9 (o := oo) f10
 have f11z := fun oo => bM9 (o := oo) f11
 have c10z := fun oo => bM9 (o := oo) c10
 have c11z := fun oo => bM9 (o := oo) c11
 have HBX := qhZ HB1.out.drew
 have HBY := qhZ (HB1.out.alloc HB1.out.size (.cells #[.slice none 0 0, .int .i64 0, .int .i64 0, .int .i64 0, .int .i64 0] 75)).drew
 have HX : Hid (w1.heap.size ≤ w1.drew.heap.size ∧ ∀ i, i < w1.heap.size → w1.drew.heap[i]? = w1.heap[i]?) := qhZ ⟨Nat.le_refl _, fun _ _ => rfl⟩
 have HY : Hid (w1.heap.size ≤ (w1.alloc (.cells #[.slice none 0 0, .int .i64 0, .int .i64 0, .int .i64 0, .int .i64 0] 75)).drew.heap.size ∧ ∀ i, i < w1.heap.size → (w1.alloc (.cells #[.slice none 0 0, .int .i64 0, .int .i64 0, .int .i64 0, .int .i64 0] 75)).drew.heap[i]? = w1.heap[i]?) := qhZ ⟨by simp, fun i hi => Below.heap_alloc w1 _ i hi⟩
 have HYZ : Hid ((w1.alloc (.cells #[.slice none 0 0, .int .i64 0, .int .i64 0, .int .i64 0, .int .i64 0] 75)).drew.heap[w1.heap.size]? = some (.cells #[.slice none 0 0, .int .i64 0, .int .i64 0, .int .i64 0, .int .i64 0] 75)) := qhZ (heap_alloc_new w1 _)
 go_upto_region 3 with fail
 go_cut [11] from 23 to 27 (fun t11 wx => ∃ (d : Nat) (oo2 : Option Addr) (cc2 : Nat) (ps : List (Nod × Value)), t11 = .pointer (some ⟨d, 0, none⟩) ∧ w.heap.size + 4 ≤ d ∧ ps.map Prod.fst = f.nodes ∧ Own wx (w.heap.size + 4) (.slice oo2 ps.length cc2) ps ∧ wx.heap[d]? = some (.cells #[.slice oo2 ps.length cc2, .int .i64 f.room, .int .i64 u, .int .i64 g, .int .i64 t] 75) ∧ Below w.heap.size w wx ∧ (w1.heap.size ≤ wx.heap.size ∧ ∀ i, i < w1.heap.size → wx.heap[i]? = w1.heap[i]?))
 case first =>
   refine wp_region_noPanic ?_
   go_region_with
     (first
       | (go_at_call 80; (with_reducible refine (copyFs_any f _ _ (HR.out.below HBX.out) HS.out).mono ?_); rintro e w2 ⟨nv2, ps, rfl, hps, hO, hb2⟩; have HPS := qhZ hps; have HO2 := qhZ (hO.low (R := w.heap.size + 4) (Nat.le_trans hs4 HX.out.1)); obtain ⟨oo2, cc2, rfl, -⟩ := aM9 hO.row; have HB2 := qhZ (HBX.out.trans (hb2.mono HBX.out.size)); have HU2 : Hid (w1.heap.size ≤ w2.heap.size ∧ ∀ i, i < w1.heap.size → w2.heap[i]? = w1.heap[i]?) := qhZ ⟨Nat.le_trans HX.out.1 hb2.size, fun i hi => (hb2.block i (Nat.lt_of_lt_of_le hi HX.out.1)).trans (HX.out.2 i hi)⟩; have f20 : w2.cell? ⟨w.heap.size, 0, none⟩ = some (.slice o f.nodes.length c) := aA9 ((HU2.out.2 _ (aB9 HF1.out)).trans HF1.out) 0; have f21 : w2.cell? ⟨w.heap.size, 1, none⟩ = some (.int .i64 f.room) := aA9 ((HU2.out.2 _ (aB9 HF1.out)).trans HF1.out) 1; have c20 : w2.cell? ⟨w.heap.size + 1, 0, none⟩ = some (.int .i64 u) := aA9 ((HU2.out.2 _ (aB9 HC1.out)).trans HC1.out) 0; have c21 : w2.cell? ⟨w.heap.size + 1, 1, none⟩ = some (.int .i64 g) := aA9 ((HU2.out.2 _ (aB9 HC1.out)).trans HC1.out) 1; have f20z := fun oo => bM9 (o := oo) f20; have f21z := fun oo => bM9 (o := oo) f21; have c20z := fun oo => bM9 (o := oo) c20; have c21z := fun oo => bM9 (o := oo) c21; clear hps hO hb2)
       | (go_at_call 80; (with_reducible refine (copyFs_any f _ _ (HR.out.below HBY.out) HS.out).mono ?_); rintro e w2 ⟨nv2, ps, rfl, hps, hO, hb2⟩; have HPS := qhZ hps; have HO2 := qhZ (hO.low (R := w.heap.size + 4) (Nat.le_trans hs4 HY.out.1)); obtain ⟨oo2, cc2, rfl, -⟩ := aM9 hO.row; have HB2 := qhZ (HBY.out.trans (hb2.mono HBY.out.size)); have HU2 : Hid (w1.heap.size ≤ w2.heap.size ∧ ∀ i, i < w1.heap.size → w2.heap[i]? = w1.heap[i]?) := qhZ ⟨Nat.le_trans HY.out.1 hb2.size, fun i hi => (hb2.block i (Nat.lt_of_lt_of_le hi HY.out.1)).trans (HY.out.2 i hi)⟩; have HOB := qhZ (hO.low (R := w1.heap.size + 1) (by simp)); have HD2 := qhZ ((hb2.block _ (aB9 HYZ.out)).trans HYZ.out); have y0 : w2.cell? ⟨w1.heap.size, 0, none⟩ = some (.slice none 0 0) := aA9 HD2.out 0; have y1 : w2.cell? ⟨w1.heap.size, 1, none⟩ = some (.int .i64 0) := aA9 HD2.out 1; have y2 : w2.cell? ⟨w1.heap.size, 2, none⟩ = some (.int .i64 0) := aA9 HD2.out 2; have y3 : w2.cell? ⟨w1.heap.size, 3, none⟩ = some (.int .i64 0) := aA9 HD2.out 3; have y4 : w2.cell? ⟨w1.heap.size, 4, none⟩ = some (.int .i64 0) := aA9 HD2.out 4; have yf := aE9 HD2.out; have f20 : w2.cell? ⟨w.heap.size, 0, none⟩ = some (.slice o f.nodes.length c) := aA9 ((HU2.out.2 _ (aB9 HF1.out)).trans HF1.out) 0; have f21 : w2.cell? ⟨w.heap.size, 1, none⟩ = some (.int .i64 f.room) := aA9 ((HU2.out.2 _ (aB9 HF1.out)).trans HF1.out) 1; have c20 : w2.cell? ⟨w.heap.size + 1, 0, none⟩ = some (.int .i64 u) := aA9 ((HU2.out.2 _ (aB9 HC1.out)).trans HC1.out) 0; have c21 : w2.cell? ⟨w.heap.size + 1, 1, none⟩ = some (.int .i64 g) := aA9 ((HU2.out.2 _ (aB9 HC1.out)).trans HC1.out) 1; have f20z := fun oo => bM9 (o := oo) f20; have f21z := fun oo => bM9 (o := oo) f21; have c20z := fun oo => bM9 (o := oo) c20; have c21z := fun oo => bM9 (o := oo) c21; clear hps hO hb2))
   all_goals
     refine NoPanic.normal ?_
     go_wp2_with fail
     go_meet
     first
       | (have hx := HOB; exact ⟨w1.heap.size, oo2, cc2, ps, rfl, hs4, HPS.out, ((((((HOB.out.other (Nat.lt_succ_self _) _ _).other (Nat.lt_succ_self _) _ _).other (Nat.lt_succ_self _) _ _).other (Nat.lt_succ_self _) _ _).other (Nat.lt_succ_self _) _ _).low (Nat.le_succ_of_le hs4)), set_five HD2.out _ _ _ _ _, ((((HB2.out.setCell (p := ⟨w1.heap.size, 0, none⟩) HB1.out.size _).setCell (p := ⟨w1.heap.size, 1, none⟩) HB1.out.size _).setCell (p := ⟨w1.heap.size, 2, none⟩) HB1.out.size _).setCell (p := ⟨w1.heap.size, 3, none⟩) HB1.out.size _).setCell (p := ⟨w1.heap.size, 4, none⟩) HB1.out.size _, by simpa using HU2.out.1, fun i hi => (five_ne (Nat.ne_of_lt hi) _ _ _ _ _).trans (HU2.out.2 i hi)⟩)
       | exact ⟨w2.heap.size, oo2, cc2, ps, rfl, Nat.le_trans hs4 HU2.out.1, HPS.out, HO2.out.up fun i _ hi => Below.heap_alloc w2 _ i hi, heap_alloc_new w2 _, HB2.out.alloc HB2.out.size _, by simp only [World.size_alloc]; exact Nat.le_succ_of_le HU2.out.1, fun i hi => (Below.heap_alloc w2 _ i (Nat.lt_of_lt_of_le hi HU2.out.1)).trans (HU2.out.2 i hi)⟩
 case rest =>
   obtain ⟨d, oo2, cc2, ps, rfl, hd, hps, hO, hD, hB, hU⟩ := hcut
   have HU := qhZ hU
   have HB := qhZ hB
   clear f10z f11z c10z c11z HBX HBY HX HY HYZ f10 f11 c10 c11 hU
   go_wp2_with fail
   refine (HCH.out _ d (w.heap.size + 4) _ ps (by omega) hd hB hD hps hO).mono ?_
   rintro e w3 ⟨rfl, hb3, nv3, ps3, hD3, hps3, hO3⟩
   obtain ⟨oo3, cc3, rfl, -⟩ := aM9 hO3.row
   have HB3 : Hid (Below w.heap.size w w3) := qhZ (HB.out.trans (hb3.mono (by omega)))
   have HO3 := qhZ hO3
   have HPS3 := qhZ hps3
   have hu3 : ∀ i, i < w.heap.size + 4 → w3.heap[i]? = w1.heap[i]? := fun i hi => (hb3.block i hi).trans (HU.out.2 i (by omega))
   have HG3 : Hid (w3.heap[w.heap.size + 2]? = some (.cells #[.slice none 0 0, .int .i64 0] 30)) := qhZ ((hu3 _ (by omega)).trans HG1.out)
   have HN3 : Hid (w3.heap[w.heap.size + 3]? = some (.cells #[.int .i64 0] 3)) := qhZ ((hu3 _ (by omega)).trans HN1.out)
   have HD3 := qhZ hD3
   have x0 : w3.cell? ⟨d, 0, none⟩ = some (.slice oo3 ps3.length cc3) := aA9 hD3 0
   have x1 : w3.cell? ⟨d, 1, none⟩ = some (.int .i64 f2.room) := aA9 hD3 1
   have g0 : w3.cell? ⟨w.heap.size + 2, 0, none⟩ = some (.slice none 0 0) := aA9 HG3.out 0
   have g1 : w3.cell? ⟨w.heap.size + 2, 1, none⟩ = some (.int .i64 0) := aA9 HG3.out 1
   have gf := aE9 HG3.out
   have n0 : w3.cell? ⟨w.heap.size + 3, 0, none⟩ = some (.int .i64 0) := aA9 HN3.out 0
   have nf := aE9 HN3.out
   have hdl := aB9 hD3
   clear hb3 hD3 hps3 hO3 hO hD hB hps hu3
   have HCO : Hid (∀ W, ErrT W → Calls Tryz.prog 82 #[.nilIface] W fun e w' => e = .returned (.int .i64 0) ∧ Below W.heap.size W w') := qhZ (fun W h => codeOfC_any 0 W h)
   have HBa := qhZ HB3.out.drew
   have HBb : Hid (Below w.heap.size w ((w3.setCell ⟨w.heap.size + 2, 0, none⟩ (.slice oo3 ps3.length cc3)).setCell ⟨w.heap.size + 2, 1, none⟩ (.int .i64 f2.room)).drew) := qhZ ((HB3.out.setCell (p := ⟨w.heap.size + 2, 0, none⟩) (by simp only; omega) _).setCell (p := ⟨w.heap.size + 2, 1, none⟩) (by simp only; omega) _).drew
   have HEa := qhZ (HET.out.below HBa.out HET.out.1)
   have HEb := qhZ (HET.out.below HBb.out HET.out.1)
   have HUb : Hid (∀ i, w.heap.size + 4 ≤ i → i < w3.heap.size → ((w3.setCell ⟨w.heap.size + 2, 0, none⟩ (.slice oo3 ps3.length cc3)).setCell ⟨w.heap.size + 2, 1, none⟩ (.int .i64 f2.room)).drew.heap[i]? = w3.heap[i]?) := qhZ (fun i h1 h2 => (Below.heap_setCell _ ⟨w.heap.size + 2, 1, none⟩ _ i (by simp only; omega)).trans (Below.heap_setCell _ ⟨w.heap.size + 2, 0, none⟩ _ i (by simp only; omega)))
   have HD3d : Hid (w3.drew.heap[d]? = _) := qhZ HD3.out
   have HG3d : Hid (w3.drew.heap[w.heap.size + 2]? = _) := qhZ HG3.out
   have HN3d : Hid (w3.drew.heap[w.heap.size + 3]? = _) := qhZ HN3.out
   have HG5 : Hid (((w3.setCell ⟨w.heap.size + 2, 0, none⟩ (.slice oo3 ps3.length cc3)).setCell ⟨w.heap.size + 2, 1, none⟩ (.int .i64 f2.room)).drew.heap[w.heap.size + 2]? = some (.cells #[(.slice oo3 ps3.length cc3), .int .i64 f2.room] 30)) := qhZ (set_two HG3.out _ _)
   have HN5 : Hid (((w3.setCell ⟨w.heap.size + 2, 0, none⟩ (.slice oo3 ps3.length cc3)).setCell ⟨w.heap.size + 2, 1, none⟩ (.int .i64 f2.room)).drew.heap[w.heap.size + 3]? = some (.cells #[.int .i64 0] 3)) := qhZ ((Below.heap_setCell _ ⟨w.heap.size + 2, 1, none⟩ _ _ (by simp only; omega)).trans ((Below.heap_setCell _ ⟨w.heap.size + 2, 0, none⟩ _ _ (by simp only; omega)).trans HN3.out))
   go_upto_region 6 with fail
   go_cut [10] from 31 to 34 (fun t10 wx => t10 = .bool true ∧ wx.heap[w.heap.size + 2]? = some (.cells #[(.slice oo3 ps3.length cc3), .int .i64 f2.room] 30) ∧ wx.heap[w.heap.size + 3]? = some (.cells #[.int .i64 0] 3) ∧ Own wx (w.heap.size + 4) (.slice oo3 ps3.length cc3) ps3 ∧ Below w.heap.size w wx)
   case first =>
     refine wp_region_noPanic ?_
     go_region_with (first
       | (go_at_call 82; (with_reducible refine (HCO.out _ HEa.out).mono ?_); rintro e w4 ⟨rfl, hb4⟩; have HB4 := qhZ (HBa.out.trans (hb4.mono HBa.out.size)); have HO4 := qhZ ((HO3.out.up (w' := w3.drew) (fun _ _ _ => rfl)).below hb4); have HD4 := qhZ ((hb4.block _ (aB9 HD3d.out)).trans HD3d.out); have HG4 := qhZ ((hb4.block _ (aB9 HG3d.out)).trans HG3d.out); have HN4 := qhZ ((hb4.block _ (aB9 HN3d.out)).trans HN3d.out); have g40 := aA9 HG4.out 0; have g41 := aA9 HG4.out 1; have g4f := aE9 HG4.out; have n40 := aA9 HN4.out 0; have n4f := aE9 HN4.out; have d40 := aA9 HD4.out 0; have d41 := aA9 HD4.out 1; clear hb4)
       | (go_at_call 82; (with_reducible refine (HCO.out _ HEb.out).mono ?_); rintro e w4 ⟨rfl, hb4⟩; have HB4 := qhZ (HBb.out.trans (hb4.mono HBb.out.size)); have HO4 := qhZ ((HO3.out.up (w' := ((w3.setCell ⟨w.heap.size + 2, 0, none⟩ (.slice oo3 ps3.length cc3)).setCell ⟨w.heap.size + 2, 1, none⟩ (.int .i64 f2.room)).drew) HUb.out).below hb4); have HG4 := qhZ ((hb4.block _ (aB9 HG5.out)).trans HG5.out); have HN4 := qhZ ((hb4.block _ (aB9 HN5.out)).trans HN5.out); have n40 := aA9 HN4.out 0; have n4f := aE9 HN4.out; clear hb4))
     all_goals
       refine NoPanic.normal ?_
       go_wp2_with fail
       go_meet
       first
         | exact ⟨rfl, (Below.heap_setCell _ ⟨w.heap.size + 3, 0, none⟩ _ _ (by simp only; omega)).trans (set_two HG4.out _ _), set_one ((Below.heap_setCell _ ⟨w.heap.size + 2, 1, none⟩ _ _ (by simp only; omega)).trans ((Below.heap_setCell _ ⟨w.heap.size + 2, 0, none⟩ _ _ (by simp only; omega)).trans HN4.out)) _, ((HO4.out.other (by omega) _ _).other (by omega) _ _).other (by omega) _ _, ((HB4.out.setCell (p := ⟨w.heap.size + 2, 0, none⟩) (by simp only; omega) _).setCell (p := ⟨w.heap.size + 2, 1, none⟩) (by simp only; omega) _).setCell (p := ⟨w.heap.size + 3, 0, none⟩) (by simp only; omega) _⟩
         | exact ⟨rfl, set_two ((Below.heap_setCell _ ⟨w.heap.size + 3, 0, none⟩ _ _ (by simp only; omega)).trans HG4.out) _ _, (Below.heap_setCell _ ⟨w.heap.size + 2, 1, none⟩ _ _ (by simp only; omega)).trans ((Below.heap_setCell _ ⟨w.heap.size + 2, 0, none⟩ _ _ (by simp only; omega)).trans (set_one HN4.out _)), ((HO4.out.other (by omega) _ _).other (by omega) _ _).other (by omega) _ _, ((HB4.out.setCell (p := ⟨w.heap.size + 3, 0, none⟩) (by simp only; omega) _).setCell (p := ⟨w.heap.size + 2, 0, none⟩) (by simp only; omega) _).setCell (p := ⟨w.heap.size + 2, 1, none⟩) (by simp only; omega) _⟩
         | exact ⟨rfl, (Below.heap_setCell _ ⟨w.heap.size + 3, 0, none⟩ _ _ (by simp only; omega)).trans HG4.out, set_one HN4.out _, HO4.out.other (by omega) _ _, HB4.out.setCell (p := ⟨w.heap.size + 3, 0, none⟩) (by simp only; omega) _⟩
   case rest =>
     obtain ⟨rfl, hg9, hn9, hO9, hB9⟩ := hcut
     have r0 : wc.cell? ⟨w.heap.size + 2, 0, none⟩ = some (Value.slice oo3 ps3.length cc3) := aA9 hg9 0
     have r1 : wc.cell? ⟨w.heap.size + 2, 1, none⟩ = some (Value.int .i64 f2.room) := aA9 hg9 1
     have r2 : wc.cell? ⟨w.heap.size + 3, 0, none⟩ = some (Value.int .i64 0) := aA9 hn9 0
     have HO9 := qhZ hO9
     have HB9 := qhZ hB9
     have HN9 := qhZ hn9
     clear hg9 hn9 hO9 hB9 x0 x1 g0 g1 gf n0 nf
     go_wp2
     refine leaves_cons (f := 81) (args := #[.pointer (some ⟨w.heap.size + 3, 0, none⟩), .pointer (some ⟨w.heap.size, 0, none⟩), .pointer (some ⟨w.heap.size + 2, 0, none⟩)]) (by simp) (by simp [go_sem]) ?_
     refine (undo_idle (w.heap.size + 3) w.heap.size (w.heap.size + 2) .returning _ HN9.out).mono ?_
     rintro e u' w'' ⟨rfl, rfl, rfl⟩
     refine ⟨.tuple #[.agg #[.slice oo3 ps3.length cc3, .int .i64 f2.room], .int .i64 0, .bool true], by simp [results, Tryz.results45, go_sem, r0, r1, r2], _, ps3, rfl, HPS3.out, HO9.out.low (by omega), HB9.out⟩
theorem errV_ok (p : ByteArray) : errV p 0 = .nilIface := rfl
def dirW (ns : List Nod) (u g : Int) (l : List UInt8) (want : Int) : Int × Nat :=
 if (bK9 ns u g l true).1 ≠ 0 then ((bK9 ns u g l true).1, 0)
 else if dirC (aC9 ns (bK9 ns u g l true).2) u g want ≠ 0 then (dirC (aC9 ns (bK9 ns u g l true).2) u g want, 0)
 else (0, (bK9 ns u g l true).2)
theorem dirAt_any (f : FsD) (v : Value) (u g : Int) (s : ByteArray) (want : Int) (w : World) (hR : FsA w v f) (hs : szF f ≤ 1048576) (hk : bC9 f u g = true) (hw : inB 0 7 want = true) (hss : s.size ≤ 1048576) :
   Calls Tryz.prog 163 #[v, .agg #[.int .i64 u, .int .i64 g], .string s, .int .i64 want] w fun e w' => e = .returned (.tuple #[.int .i64 ((dirW f.nodes u g s.data.toList want).2 : Nat), errV s (dirW f.nodes u g s.data.toList want).1]) ∧ Below w.heap.size w w' := by
 have HR := qhZ hR
 obtain ⟨nv, rfl, hN⟩ := hR
 have HN := qhZ hN
 obtain ⟨o, c, rfl, hm, hH⟩ := hN
 unfold maxLen at hm
 have HS := qhZ hs
 have hl : f.nodes.length ≤ 1048576 := (aG9 hs).1
 have HB0 : Hid (Below w.heap.size w ((w.alloc (.cells #[.slice o f.nodes.length c, .int .i64 f.room] 30)).alloc (.cells #[.int .i64 u, .int .i64 g] 34))) := qhZ (((Below.refl _ _).alloc (Nat.le_refl _) _).alloc (by simp) _)
 have KA0 := qhZ (alloc3_fst' w (.cells #[.slice o f.nodes.length c, .int .i64 f.room] 30) (.cells #[.int .i64 u, .int .i64 g] 34))
 have KB0 := qhZ (alloc3_snd' w (.cells #[.slice o f.nodes.length c, .int .i64 f.room] 30) (.cells #[.int .i64 u, .int .i64 g] 34))
 clear hH
 have HK := qhZ hk
 have HW := qhZ hw
 have HL := qhZ (look_of (bN9 hk) HS.out)
 obtain ⟨⟨cd, nd⟩, hfd⟩ : ∃ q, bK9 f.nodes u g s.data.toList true = q := ⟨_, rfl⟩
 have hlt : nd < f.nodes.length := by have h7 := lkFind_lt HL.out.1 u g s.data.toList true; rw [hfd] at h7; exact h7
 have HFD := qhZ hfd
 clear hs hk hw
 by_cases hc : cd = 0
 · subst hc
   obtain ⟨dc, hdc⟩ : ∃ dc, dirC (aC9 f.nodes nd) u g want = dc := ⟨_, rfl⟩
   have HDC := qhZ hdc
   by_cases hd : dc = 0
   · have HF : Hid (dirW f.nodes u g s.data.toList want = (0, nd)) := qhZ (by unfold dirW; rw [hfd]; simp [hdc, hd])
     subst hd
     clear hfd hdc
     go_enter Tryz.func163, Tryz.ntmps163
     go_wp2_with fail
     refine (nodeAt_is HFD.out (HR.out.below HB0.out) HS.out HK.out hss).mono ?_
     rintro e w1 ⟨rfl, hb1⟩
     have HB1 := qhZ (HB0.out.trans (hb1.mono HB0.out.size))
     have KA1 := qhZ ((hb1.block w.heap.size (aB9 KA0.out)).trans KA0.out)
     have KB1 := qhZ ((hb1.block (w.heap.size + 1) (aB9 KB0.out)).trans KB0.out)
     have x1a : w1.cell? ⟨w.heap.size, 0, none⟩ = some (.slice o f.nodes.length c) := aA9 KA1.out 0
     have x1b : w1.cell? ⟨w.heap.size, 1, none⟩ = some (.int .i64 f.room) := aA9 KA1.out 1
     have y1a : w1.cell? ⟨w.heap.size + 1, 0, none⟩ = some (.int .i64 u) := aA9 KB1.out 0
     have y1b : w1.cell? ⟨w.heap.size + 1, 1, none⟩ = some (.int .i64 g) := aA9 KB1.out 1
     clear hb1
     rw [errV_ok]
     obtain ⟨o5, c5, e5, -, hH5⟩ := HN.out.below HB1.out
     simp only [Value.slice.injEq, true_and] at e5
     obtain ⟨rfl, rfl⟩ := e5
     obtain ⟨g5, f5, l5, rfl, hg5, hc5, -, -⟩ := hH5 nd hlt
     have hqe : f.nodes[nd] = aC9 f.nodes nd := (aR9 hlt).symm
     rw [hqe] at hc5
     have HC5 := qhZ hc5
     have HAS : Hid ((aC9 f.nodes nd).kind = 2 → askB u g (aC9 f.nodes nd).mode (aC9 f.nodes nd).uid (aC9 f.nodes nd).gid want = true) := qhZ (fun h => good_ask (bN9 HK.out) (ask_cred HK.out) HW.out hlt h)
     obtain ⟨nq, hnq⟩ : ∃ nq, nq = aC9 f.nodes nd := ⟨_, rfl⟩
     rw [← hnq] at HC5 HAS HDC
     clear hH5 hc5 hqe hnq
     have z0 := fun d os => cell_regrown (w := w1) x1a d os
     have z1 := fun d os => cell_regrown (w := w1) y1a d os
     have z2 := fun d os => cell_regrown (w := w1) y1b d os
     have HV : Hid (errC (dirC nq u g want) = .nilIface) := qhZ (by rw [HDC.out]; rfl)
     go_wp2
     refine wp_region_quiet_below (by kernel_rfl) (by kernel_rfl) ?_
     repeat (first | go_big_quiet_step ((go_at_call 120; exact Calls.regrown_of (bA9 HV.out (Nat.lt_of_lt_of_le hg5 (below_regrown _ _ _).size) (HC5.out.below (below_regrown _ _ _) hg5) HAS.out))) | quiet_step ((go_at_call 120; exact Calls.regrown_of (bA9 HV.out (Nat.lt_of_lt_of_le hg5 (below_regrown _ _ _).size) (HC5.out.below (below_regrown _ _ _) hg5) HAS.out))))
     refine wpQuiet_nil ?_
     intro w6 hwq
     have hb6 : Below w1.heap.size w1 w6 := by
       obtain ⟨pp, rfl⟩ := hwq
       exact below_regrown _ _ _
     have HB6 := qhZ (HB1.out.trans (hb6.mono HB1.out.size))
     clear hwq hb6 z0 z1 z2
     go_wp2
     go_ret2
     exact ⟨by rw [HF.out]; rfl, HB6.out⟩
   · have HF : Hid (dirW f.nodes u g s.data.toList want = (dc, 0)) := qhZ (by unfold dirW; rw [hfd]; simp [hdc, hd])
     have HE := qhZ (errV_not s hd)
     have HX : Hid (errC dc = .iface 105 (.agg #[.int .i64 dc])) := qhZ (by unfold errC; rw [if_neg hd]; rfl)
     clear hfd hdc hd
     go_enter Tryz.func163, Tryz.ntmps163
     go_wp2_with fail
     refine (nodeAt_is HFD.out (HR.out.below HB0.out) HS.out HK.out hss).mono ?_
     rintro e w1 ⟨rfl, hb1⟩
     have HB1 := qhZ (HB0.out.trans (hb1.mono HB0.out.size))
     have KA1 := qhZ ((hb1.block w.heap.size (aB9 KA0.out)).trans KA0.out)
     have KB1 := qhZ ((hb1.block (w.heap.size + 1) (aB9 KB0.out)).trans KB0.out)
     have x1a : w1.cell? ⟨w.heap.size, 0, none⟩ = some (.slice o f.nodes.length c) := aA9 KA1.out 0
     have x1b : w1.cell? ⟨w.heap.size, 1, none⟩ = some (.int .i64 f.room) := aA9 KA1.out 1
     have y1a : w1.cell? ⟨w.heap.size + 1, 0, none⟩ = some (.int .i64 u) := aA9 KB1.out 0
     have y1b : w1.cell? ⟨w.heap.size + 1, 1, none⟩ = some (.int .i64 g) := aA9 KB1.out 1
     clear hb1
     rw [errV_ok]
     obtain ⟨o5, c5, e5, -, hH5⟩ := HN.out.below HB1.out
     simp only [Value.slice.injEq, true_and] at e5
     obtain ⟨rfl, rfl⟩ := e5
     obtain ⟨g5, f5, l5, rfl, hg5, hc5, -, -⟩ := hH5 nd hlt
     have hqe : f.nodes[nd] = aC9 f.nodes nd := (aR9 hlt).symm
     rw [hqe] at hc5
     have HC5 := qhZ hc5
     have HAS : Hid ((aC9 f.nodes nd).kind = 2 → askB u g (aC9 f.nodes nd).mode (aC9 f.nodes nd).uid (aC9 f.nodes nd).gid want = true) := qhZ (fun h => good_ask (bN9 HK.out) (ask_cred HK.out) HW.out hlt h)
     obtain ⟨nq, hnq⟩ : ∃ nq, nq = aC9 f.nodes nd := ⟨_, rfl⟩
     rw [← hnq] at HC5 HAS HDC
     clear hH5 hc5 hqe hnq
     have z0 := fun d os => cell_regrown (w := w1) x1a d os
     have z1 := fun d os => cell_regrown (w := w1) y1a d os
     have z2 := fun d os => cell_regrown (w := w1) y1b d os
     have HV : Hid (errC (dirC nq u g want) = .iface 105 (.agg #[.int .i64 dc])) := qhZ (by rw [HDC.out, HX.out])
     go_wp2
     refine wp_region_quiet_below (by kernel_rfl) (by kernel_rfl) ?_
     repeat (first | go_big_quiet_step ((go_at_call 120; exact Calls.regrown_of (bA9 HV.out (Nat.lt_of_lt_of_le hg5 (below_regrown _ _ _).size) (HC5.out.below (below_regrown _ _ _) hg5) HAS.out))) | quiet_step ((go_at_call 120; exact Calls.regrown_of (bA9 HV.out (Nat.lt_of_lt_of_le hg5 (below_regrown _ _ _).size) (HC5.out.below (below_regrown _ _ _) hg5) HAS.out))))
     refine wpQuiet_nil ?_
     intro w6 hwq
     have hb6 : Below w1.heap.size w1 w6 := by
       obtain ⟨pp, rfl⟩ := hwq
       exact below_regrown _ _ _
     have HB6 := qhZ (HB1.out.trans (hb6.mono HB1.out.size))
     clear hwq hb6 z0 z1 z2
     go_wp2
     go_ret2
     exact ⟨by rw [HF.out]; show _ = Ending.returned (.tuple #[.int .i64 ((0 : Nat) : Int), errV s dc]); rw [HE.out]; rfl, HB6.out⟩
 · have HF : Hid (dirW f.nodes u g s.data.toList want = (cd, 0)) := qhZ (by unfold dirW; rw [hfd]; simp [hc])
   have HE := qhZ (errV_not s hc)
   clear hfd hc
   go_enter Tryz.func163, Tryz.ntmps163
   go_wp2_with fail
   refine (nodeAt_is HFD.out (HR.out.below HB0.out) HS.out HK.out hss).mono ?_
   rintro e w1 ⟨rfl, hb1⟩
   have HB1 := qhZ (HB0.out.trans (hb1.mono HB0.out.size))
   have KA1 := qhZ ((hb1.block w.heap.size (aB9 KA0.out)).trans KA0.out)
   have KB1 := qhZ ((hb1.block (w.heap.size + 1) (aB9 KB0.out)).trans KB0.out)
   have x1a : w1.cell? ⟨w.heap.size, 0, none⟩ = some (.slice o f.nodes.length c) := aA9 KA1.out 0
   have x1b : w1.cell? ⟨w.heap.size, 1, none⟩ = some (.int .i64 f.room) := aA9 KA1.out 1
   have y1a : w1.cell? ⟨w.heap.size + 1, 0, none⟩ = some (.int .i64 u) := aA9 KB1.out 0
   have y1b : w1.cell? ⟨w.heap.size + 1, 1, none⟩ = some (.int .i64 g) := aA9 KB1.out 1
   clear hb1
   rw [HE.out]
   go_wp2
   go_ret2
   exact ⟨by rw [HF.out]; show _ = Ending.returned (.tuple #[.int .i64 ((0 : Nat) : Int), errV s cd]); rw [HE.out]; rfl, HB1.out⟩
theorem dirAt_is {f : FsD} {v : Value} {u g : Int} {s : ByteArray} {want : Int} {w : World} {cd : Int} {nd : Nat} (h : dirW f.nodes u g s.data.toList want = (cd, nd)) (hR : FsA w v f) (hs : szF f ≤ 1048576) (hk : bC9 f u g = true) (hw : inB 0 7 want = true) (hss : s.size ≤ 1048576) :
   Calls Tryz.prog 163 #[v, .agg #[.int .i64 u, .int .i64 g], .string s, .int .i64 want] w fun e w' => e = .returned (.tuple #[.int .i64 (nd : Int), errV s cd]) ∧ Below w.heap.size w w' := by
 have := dirAt_any f v u g s want w hR hs hk hw hss
 rw [h] at this
 exact this
theorem cut_slash : ∀ (l : List UInt8), 47 ∈ l → ∃ D p, l = D ++ 47 :: p ∧ 47 ∉ p
 | [], h => by simp at h
 | c :: l, h => by
   by_cases hl : 47 ∈ l
   · obtain ⟨D, p, e, hp⟩ := cut_slash l hl
     exact ⟨c :: D, p, by rw [e]; rfl, hp⟩
   · have hc : c = 47 := by
       rcases List.mem_cons.1 h with h | h
       · exact h.symm
       · exact absurd h hl
     exact ⟨[], l, by rw [hc]; rfl, hl⟩
theorem parts_cut (D p : List UInt8) (hp : 47 ∉ p) : parts (D ++ 47 :: p) = parts D ++ full [p] := by
 have e : D ++ 47 :: p = (D ++ [47]) ++ p := by simp
 unfold parts
 rw [e, sp_app _ _ (fun c hc h => hp (h ▸ hc)), sp_snoc, spStep, if_pos rfl]
 show full (((sp D).1 ++ [(sp D).2]) ++ [[] ++ p]) = _
 rw [full_app]
 rfl
theorem parts_slash (D : List UInt8) : parts (D ++ [47]) = parts D := by
 have := parts_cut D [] (by simp)
 rw [this]; simp [full]
theorem full_one {p : List UInt8} (h : p ≠ []) : full [p] = [p] := by
 cases p with
 | nil => exact absurd rfl h
 | cons c p => rfl
theorem slash_cut (D p : List UInt8) (hp : 47 ∉ p) : slashB (D ++ 47 :: p) = p.isEmpty := by
 unfold slashB
 rcases List.eq_nil_or_concat p with rfl | ⟨q, c, hq⟩
 · simp
 · rw [List.concat_eq_append] at hq
   subst hq
   have e : D ++ 47 :: (q ++ [c]) = (D ++ 47 :: q) ++ [c] := by simp
   have hc : c ≠ 47 := fun h => hp (by rw [h]; simp)
   have h1 : (c == 47) = false := beq_eq_false_iff_ne.2 hc
   have h2 : (q ++ [c]).isEmpty = false := by cases q <;> rfl
   rw [e, List.getLast?_append, h2, ← h1]
   simp
theorem name_is4 {p : List UInt8} (h : nameB p = true) : partB p = true ∧ p ≠ [46] ∧ p ≠ [46, 46] ∧ p ≠ [] := by
 unfold nameB at h
 simp only [Bool.and_eq_true, Bool.not_eq_true', beq_eq_false_iff_ne] at h
 refine ⟨h.1, h.2.1, h.2.2, ?_⟩
 rintro rfl
 exact absurd h.1 (by decide)
def aheadL (D : List UInt8) : List UInt8 := if D = [] then [47] else D
theorem goodB_slash {l : List UInt8} (hl : l.length < 60) (h0 : l ≠ []) : goodB (l ++ [47]) = goodB l := by
 unfold goodB
 rw [parts_slash]
 have h1 : 1 ≤ l.length := by cases l with | nil => exact absurd rfl h0 | cons => simp
 have e1 : decide (1 ≤ (l ++ [47]).length ∧ (l ++ [47]).length ≤ 60) = true := by simp; omega
 have e2 : decide (1 ≤ l.length ∧ l.length ≤ 60) = true := by simp; omega
 rw [e1, e2]
theorem wholeB_slash {l : List UInt8} (h0 : l ≠ []) (m : List UInt8) : wholeB (l ++ m) = wholeB l := by
 cases l with
 | nil => exact absurd rfl h0
 | cons c l => rfl
theorem dirW_slash {ns : List Nod} {u g : Int} {l : List UInt8} {want : Int} (hl : l.length < 60) (h0 : l ≠ []) : dirW ns u g (l ++ [47]) want = dirW ns u g l want := by
 have hs : slashB (l ++ [47]) = true := by unfold slashB; simp
 unfold dirW bK9
 rw [goodB_slash hl h0, wholeB_slash h0, parts_slash, hs]
 by_cases h1 : goodB l = true ∧ wholeB l = true
 · simp only [if_pos h1, Bool.true_or]
   obtain ⟨⟨cd, nd⟩, hfd⟩ : ∃ q, lkGo ns u g true ⟨0, parts l, 0⟩ = q := ⟨_, rfl⟩
   rw [hfd]
   by_cases h2 : cd = 0
   · subst h2
     by_cases hk : (aC9 ns nd).kind = 2
     · simp [hk]
     · have hd : dirC (aC9 ns nd) u g want = 3 := by unfold dirC; rw [if_pos hk]
       by_cases hsl : slashB l = true
       · simp [hk, hsl]
       · simp [hk, hsl, hd]
   · simp [h2]
 · simp only [if_neg h1]
theorem dirW_slashes {ns : List Nod} {u g : Int} {want : Int} : ∀ (k : Nat) (l : List UInt8), l.length + k ≤ 60 → l ≠ [] → dirW ns u g (l ++ List.replicate k 47) want = dirW ns u g l want
 | 0, l, _, _ => by simp
 | k + 1, l, h, h0 => by
   rw [List.replicate_succ', ← List.append_assoc, dirW_slash (by simp; omega) (by simp [h0])]
   exact dirW_slashes k l (by omega) h0
def plF4 (ns : List Nod) (u g : Int) (D p : List UInt8) : Int × Nat × List UInt8 :=
 if (goodB (D ++ 47 :: p) = true ∧ wholeB (D ++ 47 :: p) = true) ∧ nameB p = true then
   ((dirW ns u g (aheadL D) 1).1, (dirW ns u g (aheadL D) 1).2, if (dirW ns u g (aheadL D) 1).1 = 0 then p else [])
 else (1, 0, [])
theorem base_cut {D p : List UInt8} (hp : 47 ∉ p) (hn : nameB p = true) : clean (wholeB (D ++ 47 :: p)) (parts (D ++ 47 :: p)) = clean (wholeB (D ++ 47 :: p)) (parts D) ++ [p] := by
 obtain ⟨h1, h2, h3, h4⟩ := name_is4 hn
 rw [parts_cut D p hp, full_one h4, clean_snoc, clStep, if_neg h2, if_neg h3]
end Go.Proofs.YtknhacblialboaaGreatDoor
