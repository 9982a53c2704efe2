/-
  Joined: LookP TryB OfC InoP LookJ InoQ LookQ PlaceM.
  Conditions: as each states.
-/
import Derived.Deep.RegionHeld3
import Derived.Deep.RegionWith
import Derived.Deep.CutRange
import Derived.Deep.CutBlock
import Derived.Deep.DeepCutAuto
import Derived.Test.YtjomkjnpflebaaaGreatDoorLib3
import Derived.Test.YtjomkjnpflebaaaGreatDoorLib4
import Derived.Test.YtjomkjnpflebaaaGreatDoorLib12
import Derived.Test.YtjomkjnpflebaaaGreatDoorLib13
import Derived.Test.YtjomkjnpflebaaaGreatDoorLib14

/-
  The program's side of chapter 4: canLook, nodeAt, FindNode, linkAt, ReadLink.
  Conditions: at most 2^20 values and letters together; a text of at most 2^20 bytes; the variable errors.errorType as the program's text lays it.
-/
namespace Go.Proofs.YtjomkjnpflebaaaGreatDoor
open Go.ChangeShapes Go.WideShapes Go.ChangeAt Go.RowKit Go.Joins
set_option linter.unusedVariables false
set_option linter.unusedSimpArgs false

set_option maxHeartbeats 2000000 in
theorem canLook_any (f : FsD) (v : Value) (u g : Int) (w : World) (hR : FsA w v f) (hs : szF f ≤ 1048576) : Calls Tryz.prog 72 #[v, .agg #[.int .i64 u, .int .i64 g]] w fun e w' => e = .returned (.bool (askB4 f u g)) ∧ Below w.heap.size w w' := by
  have HR := Lib.hid hR
  obtain ⟨nv, rfl, hN⟩ := hR
  have HN := Lib.hid hN
  obtain ⟨o, c, rfl, hm, hH⟩ := hN
  unfold maxLen at hm
  have HS := Lib.hid hs
  have hl : f.nodes.length ≤ 1048576 := (lists_small hs).1
  have HB0 : Hid (Below w.heap.size w ((w.alloc (.cells #[.slice o f.nodes.length c, .int .i64 f.room] 30)).alloc (.cells #[.int .i64 u, .int .i64 g] 34))) := Lib.hid (((Below.refl _ _).alloc (Nat.le_refl _) _).alloc (by simp) _)
  have KA0 := Lib.hid (alloc3_fst' w (.cells #[.slice o f.nodes.length c, .int .i64 f.room] 30) (.cells #[.int .i64 u, .int .i64 g] 34))
  have KB0 := Lib.hid (alloc3_snd' w (.cells #[.slice o f.nodes.length c, .int .i64 f.room] 30) (.cells #[.int .i64 u, .int .i64 g] 34))
  clear hH
  clear hs
  by_cases hg : goodF f = true
  · have HG := Lib.hid hg
    have HF : Hid (askB4 f u g = credB u g) := Lib.hid (by unfold askB4; rw [HG.out]; rfl)
    clear hg
    go_enter Tryz.func72, Tryz.ntmps72
    go_wp2_with fail
    refine (goodFs_any f _ _ (HR.out.below HB0.out) HS.out).mono ?_
    rintro e w1 ⟨rfl, hb1⟩
    rw [HG.out]
    have HB1 := Lib.hid (HB0.out.trans (hb1.mono HB0.out.size))
    have KA1 := Lib.hid ((hb1.block w.heap.size (lt_of_heap KA0.out)).trans KA0.out)
    have KB1 := Lib.hid ((hb1.block (w.heap.size + 1) (lt_of_heap KB0.out)).trans KB0.out)
    have x1a : w1.cell? ⟨w.heap.size, 0, none⟩ = some (.slice o f.nodes.length c) := cell_blk KA1.out 0
    have x1b : w1.cell? ⟨w.heap.size, 1, none⟩ = some (.int .i64 f.room) := cell_blk KA1.out 1
    have y1a : w1.cell? ⟨w.heap.size + 1, 0, none⟩ = some (.int .i64 u) := cell_blk KB1.out 0
    have y1b : w1.cell? ⟨w.heap.size + 1, 1, none⟩ = some (.int .i64 g) := cell_blk KB1.out 1
    clear hb1
    go_wp2_with fail
    refine (goodCred_any u g _).mono ?_
    rintro e w2 ⟨rfl, hb2⟩
    have HB2 := Lib.hid (HB1.out.trans (hb2.mono HB1.out.size))
    clear hb2
    go_wp2
    go_ret
    exact ⟨ret_bool HF.out.symm, HB2.out⟩
  · have HG : Hid (goodF f = false) := Lib.hid (by simpa using hg)
    have HF : Hid (askB4 f u g = false) := Lib.hid (by unfold askB4; rw [HG.out]; rfl)
    clear hg
    go_enter Tryz.func72, Tryz.ntmps72
    go_wp2_with fail
    refine (goodFs_any f _ _ (HR.out.below HB0.out) HS.out).mono ?_
    rintro e w1 ⟨rfl, hb1⟩
    rw [HG.out]
    have HB1 := Lib.hid (HB0.out.trans (hb1.mono HB0.out.size))
    clear hb1
    go_wp2
    go_ret
    exact ⟨ret_bool HF.out.symm, HB1.out⟩
theorem canLook_is {f : FsD} {v : Value} {u g : Int} {w : World} {b : Bool} (h : askB4 f u g = b) (hR : FsA w v f) (hs : szF f ≤ 1048576) : Calls Tryz.prog 72 #[v, .agg #[.int .i64 u, .int .i64 g]] w fun e w' => e = .returned (.bool b) ∧ Below w.heap.size w w' := by
  rw [← h]; exact canLook_any f v u g w hR hs

set_option maxHeartbeats 2000000 in
theorem nodeAt_no (f : FsD) (v : Value) (u g : Int) (s : ByteArray) (fol : Bool) (w : World) (hR : FsA w v f) (hs : szF f ≤ 1048576) (hss : s.size ≤ 1048576) (hw : wgB s.data.toList = false) :
    Calls Tryz.prog 77 #[v, .agg #[.int .i64 u, .int .i64 g], .string s, .bool fol] w fun e w' => e = .returned (.tuple #[.int .i64 0, faultV s 1]) ∧ Below w.heap.size w w' := by
  have HR := Lib.hid hR
  obtain ⟨nv, rfl, hN⟩ := hR
  have HN := Lib.hid hN
  obtain ⟨o, c, rfl, hm, hH⟩ := hN
  unfold maxLen at hm
  have HS := Lib.hid hs
  have hl : f.nodes.length ≤ 1048576 := (lists_small hs).1
  have HB0 : Hid (Below w.heap.size w ((w.alloc (.cells #[.slice o f.nodes.length c, .int .i64 f.room] 30)).alloc (.cells #[.int .i64 u, .int .i64 g] 34))) := Lib.hid (((Below.refl _ _).alloc (Nat.le_refl _) _).alloc (by simp) _)
  have KA0 := Lib.hid (alloc3_fst' w (.cells #[.slice o f.nodes.length c, .int .i64 f.room] 30) (.cells #[.int .i64 u, .int .i64 g] 34))
  have KB0 := Lib.hid (alloc3_snd' w (.cells #[.slice o f.nodes.length c, .int .i64 f.room] 30) (.cells #[.int .i64 u, .int .i64 g] 34))
  clear hH
  have HW := Lib.hid hw
  clear hw hs
  go_enter Tryz.func77, Tryz.ntmps77
  go_wp2_with fail
  refine (isWholePath_is HW.out (by omega)).mono ?_
  rintro e w1 ⟨rfl, hb1⟩
  have HB1 := Lib.hid (HB0.out.trans (hb1.mono HB0.out.size))
  clear hb1
  go_wp2
  go_ret2
  exact ⟨rfl, HB1.out⟩
theorem nodeAt_any (f : FsD) (v : Value) (u g : Int) (s : ByteArray) (fol : Bool) (w : World) (hR : FsA w v f) (hs : szF f ≤ 1048576) (hgood : goodF f = true) (hcred : credB u g = true) (hss : s.size ≤ 1048576) :
    Calls Tryz.prog 77 #[v, .agg #[.int .i64 u, .int .i64 g], .string s, .bool fol] w fun e w' => e = .returned (.tuple #[.int .i64 ((lkFind f.nodes u g s.data.toList fol).2 : Nat), errV s (lkFind f.nodes u g s.data.toList fol).1]) ∧ Below w.heap.size w w' := by
  by_cases hw : wgB s.data.toList = true
  · cases fol with
    | false => exact nodeAt_f f v u g s w hR hgood hcred hs hss hw
    | true => exact nodeAt_t f v u g s w hR hgood hcred hs hss hw
  · have h1 : lkFind f.nodes u g s.data.toList fol = (1, 0) := by
      unfold lkFind
      rw [if_neg]
      intro h
      apply hw
      unfold wgB
      rw [h.1, h.2]; rfl
    rw [h1]
    exact nodeAt_no f v u g s fol w hR hs hss (by simpa using hw)
theorem ask_cred {f : FsD} {u g : Int} (h : askB4 f u g = true) : credB u g = true := by unfold askB4 at h; simp only [Bool.and_eq_true] at h; exact h.2
theorem nodeAt_is {f : FsD} {v : Value} {u g : Int} {s : ByteArray} {fol : Bool} {w : World} {cd : Int} {nd : Nat} (h : lkFind f.nodes u g s.data.toList fol = (cd, nd)) (hR : FsA w v f) (hs : szF f ≤ 1048576) (hk : askB4 f u g = true) (hss : s.size ≤ 1048576) :
    Calls Tryz.prog 77 #[v, .agg #[.int .i64 u, .int .i64 g], .string s, .bool fol] w fun e w' => e = .returned (.tuple #[.int .i64 (nd : Int), errV s cd]) ∧ Below w.heap.size w w' := by
  have := nodeAt_any f v u g s fol w hR hs (ask_good hk) (ask_cred hk) hss
  rw [h] at this
  exact this

end Go.Proofs.YtjomkjnpflebaaaGreatDoor


/-
  The contract of impl.tryOn: what a change makes of a copy; the file system anew where it tells a fault.
  Conditions: at most 2^20 values and letters together; the variable errors.errorType as the program's text lays it.
-/
namespace Go.Proofs.YtjomkjnpflebaaaGreatDoor
open Go.ChangeShapes Go.WideShapes Go.ChangeAt Go.RowKit Go.Joins
set_option linter.unusedVariables false
set_option linter.unusedSimpArgs false

theorem al4_0 (w : World) (a b c d : Obj) : ((((w.alloc a).alloc b).alloc c).alloc d).heap[w.heap.size]? = some a := by
  rw [Below.heap_alloc _ d _ (by first | (simp; done) | (simp; omega)), Below.heap_alloc _ c _ (by first | (simp; done) | (simp; omega)), Below.heap_alloc _ b _ (by first | (simp; done) | (simp; omega))]
  exact heap_alloc_new w a
theorem al4_1 (w : World) (a b c d : Obj) : ((((w.alloc a).alloc b).alloc c).alloc d).heap[w.heap.size + 1]? = some b := by
  rw [Below.heap_alloc _ d _ (by first | (simp; done) | (simp; omega)), Below.heap_alloc _ c _ (by first | (simp; done) | (simp; omega))]
  have h := heap_alloc_new (w.alloc a) b
  rw [World.size_alloc] at h
  exact h
theorem al4_2 (w : World) (a b c d : Obj) : ((((w.alloc a).alloc b).alloc c).alloc d).heap[w.heap.size + 2]? = some c := by
  rw [Below.heap_alloc _ d _ (by first | (simp; done) | (simp; omega))]
  have h := heap_alloc_new ((w.alloc a).alloc b) c
  rw [World.size_alloc, World.size_alloc] at h
  exact h
theorem al4_3 (w : World) (a b c d : Obj) : ((((w.alloc a).alloc b).alloc c).alloc d).heap[w.heap.size + 3]? = some d := by
  have h := heap_alloc_new (((w.alloc a).alloc b).alloc c) d
  rw [World.size_alloc, World.size_alloc, World.size_alloc] at h
  exact h

theorem set_two {w : World} {G : Nat} {x y : Value} {T : TypeId} (h : w.heap[G]? = some (.cells #[x, y] T (0, 0))) (a b : Value) : ((w.setCell ⟨G, 0, none⟩ a).setCell ⟨G, 1, none⟩ b).heap[G]? = some (.cells #[a, b] T (0, 0)) :=
  heap_setCell_same _ G 1 _ T b (heap_setCell_same w G 0 _ T a h)
theorem set_five {w : World} {G : Nat} {x0 x1 x2 x3 x4 : Value} {T : TypeId} (h : w.heap[G]? = some (.cells #[x0, x1, x2, x3, x4] T (0, 0))) (a b c d e : Value) : (((((w.setCell ⟨G, 0, none⟩ a).setCell ⟨G, 1, none⟩ b).setCell ⟨G, 2, none⟩ c).setCell ⟨G, 3, none⟩ d).setCell ⟨G, 4, none⟩ e).heap[G]? = some (.cells #[a, b, c, d, e] T (0, 0)) :=
  heap_setCell_same _ G 4 _ T e (heap_setCell_same _ G 3 _ T d (heap_setCell_same _ G 2 _ T c (heap_setCell_same _ G 1 _ T b (heap_setCell_same w G 0 _ T a h))))
theorem five_ne {w : World} {G i : Nat} (h : i ≠ G) (a b c d e : Value) : (((((w.setCell ⟨G, 0, none⟩ a).setCell ⟨G, 1, none⟩ b).setCell ⟨G, 2, none⟩ c).setCell ⟨G, 3, none⟩ d).setCell ⟨G, 4, none⟩ e).heap[i]? = w.heap[i]? :=
  (Below.heap_setCell _ ⟨G, 4, none⟩ e i h).trans ((Below.heap_setCell _ ⟨G, 3, none⟩ d i h).trans ((Below.heap_setCell _ ⟨G, 2, none⟩ c i h).trans ((Below.heap_setCell _ ⟨G, 1, none⟩ b i h).trans (Below.heap_setCell w ⟨G, 0, none⟩ a i h))))
theorem set_one {w : World} {N : Nat} {x : Value} {T : TypeId} (h : w.heap[N]? = some (.cells #[x] T (0, 0))) (a : Value) : (w.setCell ⟨N, 0, none⟩ a).heap[N]? = some (.cells #[a] T (0, 0)) :=
  heap_setCell_same w N 0 _ T a h
theorem Own.other {w : World} {R : Nat} {nv : Value} {ps : List (Nod × Value)} (h : Own w R nv ps) {b : Nat} (hb : b < R) (j : Nat) (u : Value) : Own (w.setCell ⟨b, j, none⟩ u) R nv ps :=
  h.up fun i hi _ => Below.heap_setCell w ⟨b, j, none⟩ u i (by simp only; omega)
theorem cell_more {w : World} {a : Addr} {v : Value} {o : Obj} (h : w.cell? a = some v) : (w.alloc o).cell? a = some v := by
  have hl : a.block < w.heap.size := World.block_lt_of_cell? w a h
  exact (((Below.refl _ w).alloc (Nat.le_refl _) o).cell hl).trans h
set_option maxRecDepth 100000 in
set_option maxHeartbeats 16000000 in
theorem tryOn_ok (f f2 : FsD) (v : Value) (u g t : Int) (j : FuncId) (cap : Array Value) (w : World) (hR : FsA w v f) (hs : szF f ≤ 1048576) (hE : ErrT w) (hk : askB4 f u g = true) (ht : inB 0 1000000 t = true)
    (hcf : ∀ args w, (callFunc j args).run Tryz.prog w = .ok (.enter j args) w)
    (hchg : ∀ (w1 : World) (d R : Nat) (nv : Value) (ps : List (Nod × Value)), w.heap.size ≤ R → R ≤ d → Below w.heap.size w w1 → w1.heap[d]? = some (.cells #[nv, .int .i64 f.room, .int .i64 u, .int .i64 g, .int .i64 t] 89) → ps.map Prod.fst = f.nodes → Own w1 R nv ps →
      Calls Tryz.prog j (#[.pointer (some ⟨d, 0, none⟩)] ++ cap) w1 fun e w' => e = .returned .nilIface ∧ Below R w1 w' ∧ ∃ nv2 ps2, w'.heap[d]? = some (.cells #[nv2, .int .i64 f2.room, .int .i64 u, .int .i64 g, .int .i64 t] 89) ∧ ps2.map Prod.fst = f2.nodes ∧ Own w' R nv2 ps2) :
    Calls Tryz.prog 42 #[v, .agg #[.int .i64 u, .int .i64 g], .int .i64 t, .func (.func j) #[] cap] w fun e w' => ∃ nv ps, e = .returned (.tuple #[.agg #[nv, .int .i64 f2.room], .int .i64 0, .bool true]) ∧ ps.map Prod.fst = f2.nodes ∧ Own w' w.heap.size nv ps ∧ Below w.heap.size w w' := by
  have hmf : ∀ (fn : Fn) (first cap : Array Value) (w : World), (Instr.makeFunc fn first cap).run Tryz.prog w = .ok (.func fn first cap) w := fun _ _ _ _ => rfl
  have HR := Lib.hid hR
  obtain ⟨nv0, rfl, hN⟩ := hR
  obtain ⟨o, c, rfl, -, -⟩ := hN
  have HS := Lib.hid hs
  have HET := Lib.hid hE
  have HK := Lib.hid hk
  have HTM := Lib.hid ht
  have HCH := Lib.hid hchg
  have hb0 : Below w.heap.size w ((((w.alloc (.cells #[.slice o f.nodes.length c, .int .i64 f.room] 30)).alloc (.cells #[.int .i64 u, .int .i64 g] 34)).alloc (.cells #[.slice none 0 0, .int .i64 0] 30)).alloc (.cells #[.int .i64 0] 3)) := (((((Below.refl _ _).alloc (Nat.le_refl _) _).alloc (by simp) _).alloc (by simp; omega) _).alloc (by simp; omega) _)
  have HB0 := Lib.hid hb0
  have HF0 := Lib.hid (al4_0 w (.cells #[.slice o f.nodes.length c, .int .i64 f.room] 30) (.cells #[.int .i64 u, .int .i64 g] 34) (.cells #[.slice none 0 0, .int .i64 0] 30) (.cells #[.int .i64 0] 3))
  have HC0 := Lib.hid (al4_1 w (.cells #[.slice o f.nodes.length c, .int .i64 f.room] 30) (.cells #[.int .i64 u, .int .i64 g] 34) (.cells #[.slice none 0 0, .int .i64 0] 30) (.cells #[.int .i64 0] 3))
  have HG0 := Lib.hid (al4_2 w (.cells #[.slice o f.nodes.length c, .int .i64 f.room] 30) (.cells #[.int .i64 u, .int .i64 g] 34) (.cells #[.slice none 0 0, .int .i64 0] 30) (.cells #[.int .i64 0] 3))
  have HN0 := Lib.hid (al4_3 w (.cells #[.slice o f.nodes.length c, .int .i64 f.room] 30) (.cells #[.int .i64 u, .int .i64 g] 34) (.cells #[.slice none 0 0, .int .i64 0] 30) (.cells #[.int .i64 0] 3))
  clear hs hE hk ht hchg hb0
  go_enter_defers Tryz.func42, Tryz.ntmps42
  go_wp2_with fail
  refine (canLook_is HK.out (HR.out.below HB0.out) HS.out).mono ?_
  rintro e w1 ⟨rfl, hb1⟩
  have HB1 := Lib.hid (HB0.out.trans (hb1.mono HB0.out.size))
  have HF1 := Lib.hid ((hb1.block _ (lt_of_heap HF0.out)).trans HF0.out)
  have HC1 := Lib.hid ((hb1.block _ (lt_of_heap HC0.out)).trans HC0.out)
  have HG1 := Lib.hid ((hb1.block _ (lt_of_heap HG0.out)).trans HG0.out)
  have HN1 := Lib.hid ((hb1.block _ (lt_of_heap HN0.out)).trans HN0.out)
  clear hb1
  go_wp2_with fail
  refine (isTime_any _ _).mono ?_
  rintro e w1b ⟨rfl, rfl⟩
  rw [HTM.out]
  have f10 : w1.cell? ⟨w.heap.size, 0, none⟩ = some (.slice o f.nodes.length c) := cell_blk HF1.out 0
  have f11 : w1.cell? ⟨w.heap.size, 1, none⟩ = some (.int .i64 f.room) := cell_blk HF1.out 1
  have c10 : w1.cell? ⟨w.heap.size + 1, 0, none⟩ = some (.int .i64 u) := cell_blk HC1.out 0
  have c11 : w1.cell? ⟨w.heap.size + 1, 1, none⟩ = some (.int .i64 g) := cell_blk HC1.out 1
  have hs4 : w.heap.size + 4 ≤ w1.heap.size := lt_of_heap HN1.out
  have f10z := fun oo => cell_more (o := oo) f10
  have f11z := fun oo => cell_more (o := oo) f11
  have c10z := fun oo => cell_more (o := oo) c10
  have c11z := fun oo => cell_more (o := oo) c11
  have HBX := Lib.hid HB1.out.drew
  have HBY := Lib.hid (HB1.out.alloc HB1.out.size (.cells #[.slice none 0 0, .int .i64 0, .int .i64 0, .int .i64 0, .int .i64 0] 89)).drew
  have HX : Hid (w1.heap.size ≤ w1.drew.heap.size ∧ ∀ i, i < w1.heap.size → w1.drew.heap[i]? = w1.heap[i]?) := Lib.hid ⟨Nat.le_refl _, fun _ _ => rfl⟩
  have HY : Hid (w1.heap.size ≤ (w1.alloc (.cells #[.slice none 0 0, .int .i64 0, .int .i64 0, .int .i64 0, .int .i64 0] 89)).drew.heap.size ∧ ∀ i, i < w1.heap.size → (w1.alloc (.cells #[.slice none 0 0, .int .i64 0, .int .i64 0, .int .i64 0, .int .i64 0] 89)).drew.heap[i]? = w1.heap[i]?) := Lib.hid ⟨by simp, fun i hi => Below.heap_alloc w1 _ i hi⟩
  have HYZ : Hid ((w1.alloc (.cells #[.slice none 0 0, .int .i64 0, .int .i64 0, .int .i64 0, .int .i64 0] 89)).drew.heap[w1.heap.size]? = some (.cells #[.slice none 0 0, .int .i64 0, .int .i64 0, .int .i64 0, .int .i64 0] 89)) := Lib.hid (heap_alloc_new w1 _)
  go_upto_region 3 with fail
  go_cut [11] from 23 to 27 (fun t11 wx => ∃ (d : Nat) (oo2 : Option Addr) (cc2 : Nat) (ps : List (Nod × Value)), t11 = .pointer (some ⟨d, 0, none⟩) ∧ w.heap.size + 4 ≤ d ∧ ps.map Prod.fst = f.nodes ∧ Own wx (w.heap.size + 4) (.slice oo2 ps.length cc2) ps ∧ wx.heap[d]? = some (.cells #[.slice oo2 ps.length cc2, .int .i64 f.room, .int .i64 u, .int .i64 g, .int .i64 t] 89) ∧ Below w.heap.size w wx ∧ (w1.heap.size ≤ wx.heap.size ∧ ∀ i, i < w1.heap.size → wx.heap[i]? = w1.heap[i]?))
  case first =>
    refine wp_region_noPanic ?_
    go_region_with
      (first
        | (go_at_call 74; (with_reducible refine (copyFs_any f _ _ (HR.out.below HBX.out) HS.out).mono ?_); rintro e w2 ⟨nv2, ps, rfl, hps, hO, hb2⟩; have HPS := Lib.hid hps; have HO2 := Lib.hid (hO.low (R := w.heap.size + 4) (Nat.le_trans hs4 HX.out.1)); obtain ⟨oo2, cc2, rfl, -⟩ := owns_form hO.row; have HB2 := Lib.hid (HBX.out.trans (hb2.mono HBX.out.size)); have HU2 : Hid (w1.heap.size ≤ w2.heap.size ∧ ∀ i, i < w1.heap.size → w2.heap[i]? = w1.heap[i]?) := Lib.hid ⟨Nat.le_trans HX.out.1 hb2.size, fun i hi => (hb2.block i (Nat.lt_of_lt_of_le hi HX.out.1)).trans (HX.out.2 i hi)⟩; have f20 : w2.cell? ⟨w.heap.size, 0, none⟩ = some (.slice o f.nodes.length c) := cell_blk ((HU2.out.2 _ (lt_of_heap HF1.out)).trans HF1.out) 0; have f21 : w2.cell? ⟨w.heap.size, 1, none⟩ = some (.int .i64 f.room) := cell_blk ((HU2.out.2 _ (lt_of_heap HF1.out)).trans HF1.out) 1; have c20 : w2.cell? ⟨w.heap.size + 1, 0, none⟩ = some (.int .i64 u) := cell_blk ((HU2.out.2 _ (lt_of_heap HC1.out)).trans HC1.out) 0; have c21 : w2.cell? ⟨w.heap.size + 1, 1, none⟩ = some (.int .i64 g) := cell_blk ((HU2.out.2 _ (lt_of_heap HC1.out)).trans HC1.out) 1; have f20z := fun oo => cell_more (o := oo) f20; have f21z := fun oo => cell_more (o := oo) f21; have c20z := fun oo => cell_more (o := oo) c20; have c21z := fun oo => cell_more (o := oo) c21; clear hps hO hb2)
        | (go_at_call 74; (with_reducible refine (copyFs_any f _ _ (HR.out.below HBY.out) HS.out).mono ?_); rintro e w2 ⟨nv2, ps, rfl, hps, hO, hb2⟩; have HPS := Lib.hid hps; have HO2 := Lib.hid (hO.low (R := w.heap.size + 4) (Nat.le_trans hs4 HY.out.1)); obtain ⟨oo2, cc2, rfl, -⟩ := owns_form hO.row; have HB2 := Lib.hid (HBY.out.trans (hb2.mono HBY.out.size)); have HU2 : Hid (w1.heap.size ≤ w2.heap.size ∧ ∀ i, i < w1.heap.size → w2.heap[i]? = w1.heap[i]?) := Lib.hid ⟨Nat.le_trans HY.out.1 hb2.size, fun i hi => (hb2.block i (Nat.lt_of_lt_of_le hi HY.out.1)).trans (HY.out.2 i hi)⟩; have HOB := Lib.hid (hO.low (R := w1.heap.size + 1) (by simp)); have HD2 := Lib.hid ((hb2.block _ (lt_of_heap HYZ.out)).trans HYZ.out); have y0 : w2.cell? ⟨w1.heap.size, 0, none⟩ = some (.slice none 0 0) := cell_blk HD2.out 0; have y1 : w2.cell? ⟨w1.heap.size, 1, none⟩ = some (.int .i64 0) := cell_blk HD2.out 1; have y2 : w2.cell? ⟨w1.heap.size, 2, none⟩ = some (.int .i64 0) := cell_blk HD2.out 2; have y3 : w2.cell? ⟨w1.heap.size, 3, none⟩ = some (.int .i64 0) := cell_blk HD2.out 3; have y4 : w2.cell? ⟨w1.heap.size, 4, none⟩ = some (.int .i64 0) := cell_blk HD2.out 4; have yf := frozen_blk HD2.out; have f20 : w2.cell? ⟨w.heap.size, 0, none⟩ = some (.slice o f.nodes.length c) := cell_blk ((HU2.out.2 _ (lt_of_heap HF1.out)).trans HF1.out) 0; have f21 : w2.cell? ⟨w.heap.size, 1, none⟩ = some (.int .i64 f.room) := cell_blk ((HU2.out.2 _ (lt_of_heap HF1.out)).trans HF1.out) 1; have c20 : w2.cell? ⟨w.heap.size + 1, 0, none⟩ = some (.int .i64 u) := cell_blk ((HU2.out.2 _ (lt_of_heap HC1.out)).trans HC1.out) 0; have c21 : w2.cell? ⟨w.heap.size + 1, 1, none⟩ = some (.int .i64 g) := cell_blk ((HU2.out.2 _ (lt_of_heap HC1.out)).trans HC1.out) 1; have f20z := fun oo => cell_more (o := oo) f20; have f21z := fun oo => cell_more (o := oo) f21; have c20z := fun oo => cell_more (o := oo) c20; have c21z := fun oo => cell_more (o := oo) c21; clear hps hO hb2))
    all_goals
      refine NoPanic.normal ?_
      go_wp2_with fail
      go_meet
      first
        | (have hx := HOB; exact ⟨w1.heap.size, oo2, cc2, ps, rfl, hs4, HPS.out, ((((((HOB.out.other (Nat.lt_succ_self _) _ _).other (Nat.lt_succ_self _) _ _).other (Nat.lt_succ_self _) _ _).other (Nat.lt_succ_self _) _ _).other (Nat.lt_succ_self _) _ _).low (Nat.le_succ_of_le hs4)), set_five HD2.out _ _ _ _ _, ((((HB2.out.setCell (p := ⟨w1.heap.size, 0, none⟩) HB1.out.size _).setCell (p := ⟨w1.heap.size, 1, none⟩) HB1.out.size _).setCell (p := ⟨w1.heap.size, 2, none⟩) HB1.out.size _).setCell (p := ⟨w1.heap.size, 3, none⟩) HB1.out.size _).setCell (p := ⟨w1.heap.size, 4, none⟩) HB1.out.size _, by simpa using HU2.out.1, fun i hi => (five_ne (Nat.ne_of_lt hi) _ _ _ _ _).trans (HU2.out.2 i hi)⟩)
        | exact ⟨w2.heap.size, oo2, cc2, ps, rfl, Nat.le_trans hs4 HU2.out.1, HPS.out, HO2.out.up fun i _ hi => Below.heap_alloc w2 _ i hi, heap_alloc_new w2 _, HB2.out.alloc HB2.out.size _, by simp only [World.size_alloc]; exact Nat.le_succ_of_le HU2.out.1, fun i hi => (Below.heap_alloc w2 _ i (Nat.lt_of_lt_of_le hi HU2.out.1)).trans (HU2.out.2 i hi)⟩
  case rest =>
    obtain ⟨d, oo2, cc2, ps, rfl, hd, hps, hO, hD, hB, hU⟩ := hcut
    have HU := Lib.hid hU
    have HB := Lib.hid hB
    clear f10z f11z c10z c11z HBX HBY HX HY HYZ f10 f11 c10 c11 hU
    go_wp2_with fail
    refine (HCH.out _ d (w.heap.size + 4) _ ps (by omega) hd hB hD hps hO).mono ?_
    rintro e w3 ⟨rfl, hb3, nv3, ps3, hD3, hps3, hO3⟩
    obtain ⟨oo3, cc3, rfl, -⟩ := owns_form hO3.row
    have HB3 : Hid (Below w.heap.size w w3) := Lib.hid (HB.out.trans (hb3.mono (by omega)))
    have HO3 := Lib.hid hO3
    have HPS3 := Lib.hid hps3
    have hu3 : ∀ i, i < w.heap.size + 4 → w3.heap[i]? = w1.heap[i]? := fun i hi => (hb3.block i hi).trans (HU.out.2 i (by omega))
    have HG3 : Hid (w3.heap[w.heap.size + 2]? = some (.cells #[.slice none 0 0, .int .i64 0] 30)) := Lib.hid ((hu3 _ (by omega)).trans HG1.out)
    have HN3 : Hid (w3.heap[w.heap.size + 3]? = some (.cells #[.int .i64 0] 3)) := Lib.hid ((hu3 _ (by omega)).trans HN1.out)
    have HD3 := Lib.hid hD3
    have x0 : w3.cell? ⟨d, 0, none⟩ = some (.slice oo3 ps3.length cc3) := cell_blk hD3 0
    have x1 : w3.cell? ⟨d, 1, none⟩ = some (.int .i64 f2.room) := cell_blk hD3 1
    have g0 : w3.cell? ⟨w.heap.size + 2, 0, none⟩ = some (.slice none 0 0) := cell_blk HG3.out 0
    have g1 : w3.cell? ⟨w.heap.size + 2, 1, none⟩ = some (.int .i64 0) := cell_blk HG3.out 1
    have gf := frozen_blk HG3.out
    have n0 : w3.cell? ⟨w.heap.size + 3, 0, none⟩ = some (.int .i64 0) := cell_blk HN3.out 0
    have nf := frozen_blk HN3.out
    have hdl := lt_of_heap hD3
    clear hb3 hD3 hps3 hO3 hO hD hB hps hu3
    have HCO : Hid (∀ W, ErrT W → Calls Tryz.prog 76 #[.nilIface] W fun e w' => e = .returned (.int .i64 0) ∧ Below W.heap.size W w') := Lib.hid (fun W h => codeOfC_any 0 W h)
    have HBa := Lib.hid HB3.out.drew
    have HBb : Hid (Below w.heap.size w ((w3.setCell ⟨w.heap.size + 2, 0, none⟩ (.slice oo3 ps3.length cc3)).setCell ⟨w.heap.size + 2, 1, none⟩ (.int .i64 f2.room)).drew) := Lib.hid ((HB3.out.setCell (p := ⟨w.heap.size + 2, 0, none⟩) (by simp only; omega) _).setCell (p := ⟨w.heap.size + 2, 1, none⟩) (by simp only; omega) _).drew
    have HEa := Lib.hid (HET.out.below HBa.out HET.out.1)
    have HEb := Lib.hid (HET.out.below HBb.out HET.out.1)
    have HUb : Hid (∀ i, w.heap.size + 4 ≤ i → i < w3.heap.size → ((w3.setCell ⟨w.heap.size + 2, 0, none⟩ (.slice oo3 ps3.length cc3)).setCell ⟨w.heap.size + 2, 1, none⟩ (.int .i64 f2.room)).drew.heap[i]? = w3.heap[i]?) := Lib.hid (fun i h1 h2 => (Below.heap_setCell _ ⟨w.heap.size + 2, 1, none⟩ _ i (by simp only; omega)).trans (Below.heap_setCell _ ⟨w.heap.size + 2, 0, none⟩ _ i (by simp only; omega)))
    have HD3d : Hid (w3.drew.heap[d]? = _) := Lib.hid HD3.out
    have HG3d : Hid (w3.drew.heap[w.heap.size + 2]? = _) := Lib.hid HG3.out
    have HN3d : Hid (w3.drew.heap[w.heap.size + 3]? = _) := Lib.hid HN3.out
    have HG5 : Hid (((w3.setCell ⟨w.heap.size + 2, 0, none⟩ (.slice oo3 ps3.length cc3)).setCell ⟨w.heap.size + 2, 1, none⟩ (.int .i64 f2.room)).drew.heap[w.heap.size + 2]? = some (.cells #[(.slice oo3 ps3.length cc3), .int .i64 f2.room] 30)) := Lib.hid (set_two HG3.out _ _)
    have HN5 : Hid (((w3.setCell ⟨w.heap.size + 2, 0, none⟩ (.slice oo3 ps3.length cc3)).setCell ⟨w.heap.size + 2, 1, none⟩ (.int .i64 f2.room)).drew.heap[w.heap.size + 3]? = some (.cells #[.int .i64 0] 3)) := Lib.hid ((Below.heap_setCell _ ⟨w.heap.size + 2, 1, none⟩ _ _ (by simp only; omega)).trans ((Below.heap_setCell _ ⟨w.heap.size + 2, 0, none⟩ _ _ (by simp only; omega)).trans HN3.out))
    go_upto_region 6 with fail
    go_cut [10] from 31 to 34 (fun t10 wx => t10 = .bool true ∧ wx.heap[w.heap.size + 2]? = some (.cells #[(.slice oo3 ps3.length cc3), .int .i64 f2.room] 30) ∧ wx.heap[w.heap.size + 3]? = some (.cells #[.int .i64 0] 3) ∧ Own wx (w.heap.size + 4) (.slice oo3 ps3.length cc3) ps3 ∧ Below w.heap.size w wx)
    case first =>
      refine wp_region_noPanic ?_
      go_region_with (first
        | (go_at_call 76; (with_reducible refine (HCO.out _ HEa.out).mono ?_); rintro e w4 ⟨rfl, hb4⟩; have HB4 := Lib.hid (HBa.out.trans (hb4.mono HBa.out.size)); have HO4 := Lib.hid ((HO3.out.up (w' := w3.drew) (fun _ _ _ => rfl)).below hb4); have HD4 := Lib.hid ((hb4.block _ (lt_of_heap HD3d.out)).trans HD3d.out); have HG4 := Lib.hid ((hb4.block _ (lt_of_heap HG3d.out)).trans HG3d.out); have HN4 := Lib.hid ((hb4.block _ (lt_of_heap HN3d.out)).trans HN3d.out); have g40 := cell_blk HG4.out 0; have g41 := cell_blk HG4.out 1; have g4f := frozen_blk HG4.out; have n40 := cell_blk HN4.out 0; have n4f := frozen_blk HN4.out; have d40 := cell_blk HD4.out 0; have d41 := cell_blk HD4.out 1; clear hb4)
        | (go_at_call 76; (with_reducible refine (HCO.out _ HEb.out).mono ?_); rintro e w4 ⟨rfl, hb4⟩; have HB4 := Lib.hid (HBb.out.trans (hb4.mono HBb.out.size)); have HO4 := Lib.hid ((HO3.out.up (w' := ((w3.setCell ⟨w.heap.size + 2, 0, none⟩ (.slice oo3 ps3.length cc3)).setCell ⟨w.heap.size + 2, 1, none⟩ (.int .i64 f2.room)).drew) HUb.out).below hb4); have HG4 := Lib.hid ((hb4.block _ (lt_of_heap HG5.out)).trans HG5.out); have HN4 := Lib.hid ((hb4.block _ (lt_of_heap HN5.out)).trans HN5.out); have n40 := cell_blk HN4.out 0; have n4f := frozen_blk HN4.out; clear hb4))
      all_goals
        refine NoPanic.normal ?_
        go_wp2_with fail
        go_meet
        first
          | exact ⟨rfl, (Below.heap_setCell _ ⟨w.heap.size + 3, 0, none⟩ _ _ (by simp only; omega)).trans (set_two HG4.out _ _), set_one ((Below.heap_setCell _ ⟨w.heap.size + 2, 1, none⟩ _ _ (by simp only; omega)).trans ((Below.heap_setCell _ ⟨w.heap.size + 2, 0, none⟩ _ _ (by simp only; omega)).trans HN4.out)) _, ((HO4.out.other (by omega) _ _).other (by omega) _ _).other (by omega) _ _, ((HB4.out.setCell (p := ⟨w.heap.size + 2, 0, none⟩) (by simp only; omega) _).setCell (p := ⟨w.heap.size + 2, 1, none⟩) (by simp only; omega) _).setCell (p := ⟨w.heap.size + 3, 0, none⟩) (by simp only; omega) _⟩
          | exact ⟨rfl, set_two ((Below.heap_setCell _ ⟨w.heap.size + 3, 0, none⟩ _ _ (by simp only; omega)).trans HG4.out) _ _, (Below.heap_setCell _ ⟨w.heap.size + 2, 1, none⟩ _ _ (by simp only; omega)).trans ((Below.heap_setCell _ ⟨w.heap.size + 2, 0, none⟩ _ _ (by simp only; omega)).trans (set_one HN4.out _)), ((HO4.out.other (by omega) _ _).other (by omega) _ _).other (by omega) _ _, ((HB4.out.setCell (p := ⟨w.heap.size + 3, 0, none⟩) (by simp only; omega) _).setCell (p := ⟨w.heap.size + 2, 0, none⟩) (by simp only; omega) _).setCell (p := ⟨w.heap.size + 2, 1, none⟩) (by simp only; omega) _⟩
          | exact ⟨rfl, (Below.heap_setCell _ ⟨w.heap.size + 3, 0, none⟩ _ _ (by simp only; omega)).trans HG4.out, set_one HN4.out _, HO4.out.other (by omega) _ _, HB4.out.setCell (p := ⟨w.heap.size + 3, 0, none⟩) (by simp only; omega) _⟩
    case rest =>
      obtain ⟨rfl, hg9, hn9, hO9, hB9⟩ := hcut
      have r0 : wc.cell? ⟨w.heap.size + 2, 0, none⟩ = some (Value.slice oo3 ps3.length cc3) := cell_blk hg9 0
      have r1 : wc.cell? ⟨w.heap.size + 2, 1, none⟩ = some (Value.int .i64 f2.room) := cell_blk hg9 1
      have r2 : wc.cell? ⟨w.heap.size + 3, 0, none⟩ = some (Value.int .i64 0) := cell_blk hn9 0
      have HO9 := Lib.hid hO9
      have HB9 := Lib.hid hB9
      have HN9 := Lib.hid hn9
      clear hg9 hn9 hO9 hB9 x0 x1 g0 g1 gf n0 nf
      go_wp2
      refine leaves_cons (f := 75) (args := #[.pointer (some ⟨w.heap.size + 3, 0, none⟩), .pointer (some ⟨w.heap.size, 0, none⟩), .pointer (some ⟨w.heap.size + 2, 0, none⟩)]) (by simp) (by simp [go_sem]) ?_
      refine (undo_idle (w.heap.size + 3) w.heap.size (w.heap.size + 2) .returning _ HN9.out).mono ?_
      rintro e u' w'' ⟨rfl, rfl, rfl⟩
      refine ⟨.tuple #[.agg #[.slice oo3 ps3.length cc3, .int .i64 f2.room], .int .i64 0, .bool true], by simp [results, Tryz.results42, go_sem, r0, r1, r2], _, ps3, rfl, HPS3.out, HO9.out.low (by omega), HB9.out⟩
end Go.Proofs.YtjomkjnpflebaaaGreatDoor


/-
  The contract of spec.l2Of.
  Conditions: lists of texts that together have at most 2^30 bytes.
-/
namespace Go.Proofs.YtjomkjnpflebaaaGreatDoor
open Go.ChangeShapes Go.WideShapes Go.ChangeAt Go.RowKit Go.Joins
set_option linter.unusedVariables false

theorem slashed_take {ps : List (List UInt8)} {k : Nat} (h : k < ps.length) : slashed (ps.take (k + 1)) = slashed (ps.take k) ++ 47 :: ps[k] := by
  rw [List.take_succ_eq_append_getElem h, slashed_snoc]
theorem slashed_app (a b : List (List UInt8)) : slashed (a ++ b) = slashed a ++ slashed b := by simp [slashed]
theorem slashed_pre (ps : List (List UInt8)) (k : Nat) : (slashed (ps.take k)).length ≤ (slashed ps).length := by
  conv => rhs; rw [← List.take_append_drop k ps]
  rw [slashed_app]; simp

end Go.Proofs.YtjomkjnpflebaaaGreatDoor


/-
  PathTo: the model's l3Path and PathTo, the program's pathFromRoot and PathTo, with the same answer.
  Conditions: at most 2^20 values and letters together.
-/
namespace Go.Proofs.YtjomkjnpflebaaaGreatDoor
open Go.ChangeShapes Go.WideShapes Go.ChangeAt Go.RowKit Go.Joins
set_option linter.unusedVariables false
set_option linter.unusedSimpArgs false

/-- The names from node 0 to a node, n steps up at most. -/
def nmsUp (P : Int → Pl) : Nat → Int → List (List UInt8)
  | 0, _ => []
  | n + 1, i => if i = 0 then [] else nmsUp P n ((P i).dir : Int) ++ [(P i).name]
theorem nmsUp_zero (P : Int → Pl) : ∀ n, nmsUp P n 0 = []
  | 0 => rfl
  | n + 1 => by rw [nmsUp, if_pos rfl]
theorem nmsUp_more (P : Int → Pl) : ∀ (n m : Nat) (i : Int), upN P n i = 0 → n ≤ m → nmsUp P m i = nmsUp P n i
  | 0, m, i, h, _ => by
    have h' : i = 0 := h
    rw [h', nmsUp_zero, nmsUp_zero]
  | n + 1, 0, i, _, hm => absurd hm (by omega)
  | n + 1, m + 1, i, h, hm => by
    rw [nmsUp, nmsUp]
    by_cases h0 : i = 0
    · rw [if_pos h0, if_pos h0]
    · rw [if_neg h0, if_neg h0, nmsUp_more P n m _ (by rw [← upN_one]; exact h) (by omega)]
theorem nmsUp_len (P : Int → Pl) : ∀ (n : Nat) (i : Int), (nmsUp P n i).length ≤ n
  | 0, i => by simp [nmsUp]
  | n + 1, i => by
    rw [nmsUp]
    by_cases h0 : i = 0
    · rw [if_pos h0]; simp
    · rw [if_neg h0]
      have := nmsUp_len P n ((P i).dir : Int)
      simp; omega
theorem nmsUp_all {P : Int → Pl} {b : Nat} (h : ∀ i, (P i).name.length ≤ b) : ∀ (n : Nat) (i : Int), ∀ p ∈ nmsUp P n i, p.length ≤ b
  | 0, i => by simp [nmsUp]
  | n + 1, i => by
    rw [nmsUp]
    by_cases h0 : i = 0
    · rw [if_pos h0]; simp
    · rw [if_neg h0]
      intro p hp
      rcases List.mem_append.1 hp with hp | hp
      · exact nmsUp_all h n _ p hp
      · rw [List.mem_singleton.1 hp]; exact h i
theorem slashed_le (b : Nat) : ∀ (ps : List (List UInt8)), (∀ p ∈ ps, p.length ≤ b) → (slashed ps).length ≤ (b + 1) * ps.length
  | [], _ => by simp [slashed]
  | p :: ps, h => by
    have h1 := slashed_le b ps (fun q hq => h q (by simp [hq]))
    have h2 := h p (by simp)
    have e : slashed (p :: ps) = 47 :: p ++ slashed ps := by simp [slashed]
    rw [e]
    simp only [List.length_append, List.length_cons, Nat.mul_add, Nat.mul_one]
    omega
theorem lastN_mem (i : Int) : ∀ (es : List Ent) (s : List UInt8), lastN i s es = s ∨ ∃ e ∈ es, lastN i s es = e.name
  | [], s => .inl rfl
  | e :: es, s => by
    unfold lastN
    rw [List.foldl_cons]
    by_cases he : e.node = i
    · rw [if_pos he]
      rcases lastN_mem i es e.name with h | ⟨x, hx, h⟩
      · exact .inr ⟨e, by simp, h⟩
      · exact .inr ⟨x, by simp [hx], h⟩
    · rw [if_neg he]
      rcases lastN_mem i es s with h | ⟨x, hx, h⟩
      · exact .inl h
      · exact .inr ⟨x, by simp [hx], h⟩
theorem lastN_take (i : Int) (s : List UInt8) {es : List Ent} {j : Nat} (h : j < es.length) : lastN i s (es.take (j + 1)) = if es[j].node = i then es[j].name else lastN i s (es.take j) := by
  unfold lastN
  rw [List.take_succ_eq_append_getElem h, List.foldl_append]
  rfl
theorem name_le {l : List UInt8} (h : nameB l = true) : l.length ≤ 8 := by
  have h1 := name_part h
  simp [partB] at h1
  omega
theorem ent_name {f : FsD} (h : goodF f = true) {n : Nod} (hn : n ∈ f.nodes) {e : Ent} (he : e ∈ n.list) : e.name.length ≤ 8 := by
  have h1 := (nodOk_iff.1 ((goodF_GoodF h).2.2.2.2.1 n hn)).1
  have h2 := (nodOkI_dir h1 (fun x => by rw [x] at he; cases he)).2
  obtain ⟨k, hk, rfl⟩ := List.getElem_of_mem he
  unfold entsOkI at h2
  rw [List.all_eq_true] at h2
  have h3 := h2 k (List.mem_range.2 hk)
  rw [entOkI_is hk] at h3
  simp only [Bool.and_eq_true, entGoodB] at h3
  exact name_le h3.1.1
theorem place_name {f : FsD} (h : goodF f = true) (i : Int) : (placesF f.nodes i).name.length ≤ 8 := by
  by_cases hl : 0 < links i f.nodes
  · obtain ⟨d, hd, -, -, e3⟩ := pl_some hl
    rw [e3]
    rcases lastN_mem i f.nodes[d].list [] with h1 | ⟨e, he, h1⟩
    · rw [h1]; simp
    · rw [h1]; exact ent_name h (List.getElem_mem hd) he
  · rw [pl_none (by omega)]; simp [pl0]
/-- The way up from a directory ends at node 0. -/
theorem good_up {f : FsD} (h : goodF f = true) {m : Nat} (hm : m < f.nodes.length) (hk : kindAt f.nodes m = 2) : upN (placesF f.nodes) f.nodes.length m = 0 := by
  have hI := (good_iff f).2 (goodF_GoodF h)
  have hp := good_pos h
  have h0 : links (0 : Int) f.nodes = 0 := ((goodF_GoodF h).2.2.2.2.2 0 hp).1 rfl
  rcases Nat.eq_zero_or_pos m with rfl | hpm
  · exact upN_zero (by rw [pl_none h0]; rfl) _
  · have h1 := hI.2.2.2.2.1 m hm
    unfold wellB at h1
    rw [if_neg (by rintro (h2 | h2) <;> omega), if_pos hk] at h1
    simp at h1
    exact h1.2
noncomputable def pathF (f : FsD) (node : Int) : List UInt8 := if parK f node = true then pathL (nmsUp (placesF f.nodes) f.nodes.length node) else []
/-- A directory above another one. -/
theorem good_above {f : FsD} (h : goodF f = true) {m : Nat} (hm : m < f.nodes.length) (hm0 : m ≠ 0) (hk : kindAt f.nodes m = 2) : ∃ d, ∃ hd : d < f.nodes.length, (placesF f.nodes m).dir = d ∧ parentOf m f.nodes = d ∧ kindAt f.nodes d = 2 ∧ (placesF f.nodes m).name = lastN m [] f.nodes[d].list := by
  have h1 : links m f.nodes = 1 := ((goodF_GoodF h).2.2.2.2.2 m hm).2.1 (by omega) hk
  obtain ⟨d, hd, e1, e2, e3⟩ := pl_some (ns := f.nodes) (i := m) (by omega)
  refine ⟨d, hd, e1, parent_is h1 hd e2, ?_, e3⟩
  have h4 := (nodOkI_dir ((nodOk_iff.1 ((goodF_GoodF h).2.2.2.2.1 _ (List.getElem_mem hd))).1) (fun x => by rw [x] at e2; simp [linksE, tot] at e2)).1
  rw [← h4]; simp [kindAt, List.getD, hd]

end Go.Proofs.YtjomkjnpflebaaaGreatDoor


/-
  The model's RealPath, ListDir and CodeText.
  Conditions: at most 2^20 values and letters together; a text of at most 2^20 bytes.
-/
namespace Go.Proofs.YtjomkjnpflebaaaGreatDoor
open Go.ChangeShapes Go.WideShapes Go.ChangeAt Go.RowKit Go.Joins
set_option linter.unusedVariables false
set_option linter.unusedSimpArgs false

theorem dirF_lt {f : FsD} (hF : LookFs f) (u g : Int) (l : List UInt8) : (dirF f.nodes u g l).2 < f.nodes.length := by
  unfold dirF
  split
  · exact hF.pos
  · exact lkFind_lt hF u g l true
theorem dirF_kind {ns : List Nod} {u g : Int} {l : List UInt8} (h : (dirF ns u g l).1 = 0) : (nodeAt ns (dirF ns u g l).2).kind = 2 := by
  unfold dirF at h ⊢
  by_cases hc : (lkFind ns u g l true).1 = 0 ∧ (nodeAt ns (lkFind ns u g l true).2).kind ≠ 2
  · rw [if_pos hc] at h; exact absurd h (by decide)
  · rw [if_neg hc] at h ⊢
    by_cases hk : (nodeAt ns (lkFind ns u g l true).2).kind = 2
    · exact hk
    · exact absurd ⟨h, hk⟩ hc
theorem kind_at {ns : List Nod} {i : Nat} (hi : i < ns.length) : kindAt ns (i : Int) = (nodeAt ns i).kind := by
  unfold kindAt nodeAt; simp
theorem names_smallL {f : FsD} (h : goodF f = true) (m : Int) : (slashed (nmsUp (placesF f.nodes) f.nodes.length m)).length ≤ 360 := by
  have h1 := nmsUp_len (placesF f.nodes) f.nodes.length m
  have h2 := slashed_le 8 _ (nmsUp_all (place_name h) f.nodes.length m)
  have h3 := inB_t (goodF_GoodF h).1
  omega
/-- What RealPath tells: a text and a code. -/
noncomputable def rpF (f : FsD) (u g : Int) (l : List UInt8) : List UInt8 × Int :=
  if (dirF f.nodes u g l).1 ≠ 0 then ([], (dirF f.nodes u g l).1) else (pathL (nmsUp (placesF f.nodes) f.nodes.length ((dirF f.nodes u g l).2 : Nat)), 0)
noncomputable def rpT (f : FsD) (u g : Int) (l : List UInt8) : List UInt8 := if askB4 f u g = true then (rpF f u g l).1 else []
noncomputable def rpC (f : FsD) (u g : Int) (l : List UInt8) : Int := if askB4 f u g = true then (rpF f u g l).2 else 0
/-- What ListDir tells: names and a code. -/
def ldC0 (ns : List Nod) (u g : Int) (l : List UInt8) : Int :=
  if (dirF ns u g l).1 = 0 ∧ mayB u g (nodeAt ns (dirF ns u g l).2).mode (nodeAt ns (dirF ns u g l).2).uid (nodeAt ns (dirF ns u g l).2).gid 4 = false then 4 else (dirF ns u g l).1
def namesOf (es : List Ent) : List (List UInt8) := es.map fun e => e.name
noncomputable def ldL (f : FsD) (u g : Int) (l : List UInt8) : List (List UInt8) := if askB4 f u g = true ∧ ldC0 f.nodes u g l = 0 then namesOf (nodeAt f.nodes (dirF f.nodes u g l).2).list else []
noncomputable def ldC (f : FsD) (u g : Int) (l : List UInt8) : Int := if askB4 f u g = true then ldC0 f.nodes u g l else 0
theorem names_take {es : List Ent} {k : Nat} (h : k < es.length) : namesOf (es.take (k + 1)) = namesOf (es.take k) ++ [es[k].name] := by
  unfold namesOf; rw [List.take_succ_eq_append_getElem h, List.map_append]; rfl
theorem cell_new1 (w : World) (a : Obj) (v : Value) (t : TypeId) : ∀ j u, [v][j]? = some u → ((w.alloc a).alloc (.cells #[v] t)).cell? ((⟨w.heap.size + 1, 0, none⟩ : Addr).add j) = some u := by
  have h := cell_one_new (w.alloc a) v t
  rw [World.size_alloc] at h
  exact h
end Go.Proofs.YtjomkjnpflebaaaGreatDoor


/-
  Contracts of the model's PathTo, of the program's pathFromRoot and PathTo: the same answer.
  Conditions: at most 2^20 values and letters together.
-/
namespace Go.Proofs.YtjomkjnpflebaaaGreatDoor
open Go.ChangeShapes Go.WideShapes Go.ChangeAt Go.RowKit Go.Joins
set_option linter.unusedVariables false
set_option linter.unusedSimpArgs false

theorem tupSB {a a' : ByteArray} {b b' : Bool} (h1 : a = a') (h2 : b = b') : Ending.returned (.tuple #[.string a, .bool b]) = .returned (.tuple #[.string a', .bool b']) := by rw [h1, h2]
def strLen : Value → Nat
  | .string s => s.size
  | _ => 0
theorem names_small {f : FsD} (h : goodF f = true) (m : Int) : (slashed (nmsUp (placesF f.nodes) f.nodes.length m)).length ≤ 360 := by
  have h1 := nmsUp_len (placesF f.nodes) f.nodes.length m
  have h2 := slashed_le 8 _ (nmsUp_all (place_name h) f.nodes.length m)
  have h3 := inB_t (goodF_GoodF h).1
  omega
theorem slashed_nil {ps : List (List UInt8)} : slashed ps = [] ↔ ps = [] := by
  cases ps <;> simp [slashed]

end Go.Proofs.YtjomkjnpflebaaaGreatDoor


/-
  The program's linkAt, ReadLink, dirAt, RealPath.
  Conditions: at most 2^20 values and letters together; a text of at most 2^20 bytes; the variable errors.errorType as the program's text lays it.
-/
namespace Go.Proofs.YtjomkjnpflebaaaGreatDoor
open Go.ChangeShapes Go.WideShapes Go.ChangeAt Go.RowKit Go.Joins
set_option linter.unusedVariables false
set_option linter.unusedSimpArgs false

theorem errV_ok (p : ByteArray) : errV p 0 = .nilIface := rfl
theorem lkFind_zero {ns : List Nod} {u g : Int} {l : List UInt8} {fol : Bool} (h : (lkFind ns u g l fol).1 ≠ 0) : (lkFind ns u g l fol).2 = 0 := by
  unfold lkFind at h ⊢
  by_cases h1 : goodB l = true ∧ wholeB l = true
  · rw [if_pos h1] at h ⊢
    by_cases h2 : (lkGo ns u g (fol || slashB l) ⟨0, parts l, 0⟩).1 ≠ 0
    · rw [if_pos h2]
    · rw [if_neg h2] at h ⊢
      by_cases h3 : slashB l = true ∧ (nodeAt ns (lkGo ns u g (fol || slashB l) ⟨0, parts l, 0⟩).2).kind ≠ 2
      · rw [if_pos h3]
      · rw [if_neg h3] at h; exact absurd rfl h
  · rw [if_neg h1]
/-- What dirAt finds: a code and a node. -/
def dirW (ns : List Nod) (u g : Int) (l : List UInt8) (want : Int) : Int × Nat :=
  if (lkFind ns u g l true).1 ≠ 0 then ((lkFind ns u g l true).1, 0)
  else if dirC (nodeAt ns (lkFind ns u g l true).2) u g want ≠ 0 then (dirC (nodeAt ns (lkFind ns u g l true).2) u g want, 0)
  else (0, (lkFind ns u g l true).2)
theorem dirW_none (ns : List Nod) (u g : Int) (l : List UInt8) : dirW ns u g l 0 = dirF ns u g l := by
  unfold dirW dirF
  by_cases h1 : (lkFind ns u g l true).1 = 0
  · rw [if_neg (by simp [h1]), dirC_none]
    by_cases h2 : (nodeAt ns (lkFind ns u g l true).2).kind = 2
    · rw [if_neg (by simp [h2]), if_neg (by simp [h2])]
      rw [← h1]
    · rw [if_pos h2, if_pos (show (3 : Int) ≠ 0 by decide), if_pos (show (lkFind ns u g l true).1 = 0 ∧ (nodeAt ns (lkFind ns u g l true).2).kind ≠ 2 from ⟨h1, h2⟩)]
  · rw [if_pos h1, if_neg (fun h => h1 h.1)]
    have h2 := lkFind_zero h1
    exact Prod.ext rfl h2.symm

set_option maxHeartbeats 4000000 in
theorem dirAt_any (f : FsD) (v : Value) (u g : Int) (s : ByteArray) (want : Int) (w : World) (hR : FsA w v f) (hs : szF f ≤ 1048576) (hk : askB4 f u g = true) (hw : inB 0 7 want = true) (hss : s.size ≤ 1048576) :
    Calls Tryz.prog 154 #[v, .agg #[.int .i64 u, .int .i64 g], .string s, .int .i64 want] w fun e w' => e = .returned (.tuple #[.int .i64 ((dirW f.nodes u g s.data.toList want).2 : Nat), errV s (dirW f.nodes u g s.data.toList want).1]) ∧ Below w.heap.size w w' := by
  have HR := Lib.hid hR
  obtain ⟨nv, rfl, hN⟩ := hR
  have HN := Lib.hid hN
  obtain ⟨o, c, rfl, hm, hH⟩ := hN
  unfold maxLen at hm
  have HS := Lib.hid hs
  have hl : f.nodes.length ≤ 1048576 := (lists_small hs).1
  have HB0 : Hid (Below w.heap.size w ((w.alloc (.cells #[.slice o f.nodes.length c, .int .i64 f.room] 30)).alloc (.cells #[.int .i64 u, .int .i64 g] 34))) := Lib.hid (((Below.refl _ _).alloc (Nat.le_refl _) _).alloc (by simp) _)
  have KA0 := Lib.hid (alloc3_fst' w (.cells #[.slice o f.nodes.length c, .int .i64 f.room] 30) (.cells #[.int .i64 u, .int .i64 g] 34))
  have KB0 := Lib.hid (alloc3_snd' w (.cells #[.slice o f.nodes.length c, .int .i64 f.room] 30) (.cells #[.int .i64 u, .int .i64 g] 34))
  clear hH
  have HK := Lib.hid hk
  have HW := Lib.hid hw
  have HL := Lib.hid (look_of (ask_good hk) HS.out)
  obtain ⟨⟨cd, nd⟩, hfd⟩ : ∃ q, lkFind f.nodes u g s.data.toList true = q := ⟨_, rfl⟩
  have hlt : nd < f.nodes.length := by have h7 := lkFind_lt HL.out.1 u g s.data.toList true; rw [hfd] at h7; exact h7
  have HFD := Lib.hid hfd
  clear hs hk hw
  by_cases hc : cd = 0
  · subst hc
    obtain ⟨dc, hdc⟩ : ∃ dc, dirC (nodeAt f.nodes nd) u g want = dc := ⟨_, rfl⟩
    have HDC := Lib.hid hdc
    by_cases hd : dc = 0
    · have HF : Hid (dirW f.nodes u g s.data.toList want = (0, nd)) := Lib.hid (by unfold dirW; rw [hfd]; simp [hdc, hd])
      subst hd
      clear hfd hdc
      go_enter Tryz.func154, Tryz.ntmps154
      go_wp2_with fail
      refine (nodeAt_is HFD.out (HR.out.below HB0.out) HS.out HK.out hss).mono ?_
      rintro e w1 ⟨rfl, hb1⟩
      have HB1 := Lib.hid (HB0.out.trans (hb1.mono HB0.out.size))
      have KA1 := Lib.hid ((hb1.block w.heap.size (lt_of_heap KA0.out)).trans KA0.out)
      have KB1 := Lib.hid ((hb1.block (w.heap.size + 1) (lt_of_heap KB0.out)).trans KB0.out)
      have x1a : w1.cell? ⟨w.heap.size, 0, none⟩ = some (.slice o f.nodes.length c) := cell_blk KA1.out 0
      have x1b : w1.cell? ⟨w.heap.size, 1, none⟩ = some (.int .i64 f.room) := cell_blk KA1.out 1
      have y1a : w1.cell? ⟨w.heap.size + 1, 0, none⟩ = some (.int .i64 u) := cell_blk KB1.out 0
      have y1b : w1.cell? ⟨w.heap.size + 1, 1, none⟩ = some (.int .i64 g) := cell_blk KB1.out 1
      clear hb1
      rw [errV_ok]
      obtain ⟨o5, c5, e5, -, hH5⟩ := HN.out.below HB1.out
      simp only [Value.slice.injEq, true_and] at e5
      obtain ⟨rfl, rfl⟩ := e5
      obtain ⟨g5, f5, l5, rfl, hg5, hc5, -, -⟩ := hH5 nd hlt
      have hqe : f.nodes[nd] = nodeAt f.nodes nd := (getD_at hlt).symm
      rw [hqe] at hc5
      have HC5 := Lib.hid hc5
      have HAS : Hid ((nodeAt f.nodes nd).kind = 2 → askB u g (nodeAt f.nodes nd).mode (nodeAt f.nodes nd).uid (nodeAt f.nodes nd).gid want = true) := Lib.hid (fun h => good_ask (ask_good HK.out) (ask_cred HK.out) HW.out hlt h)
      obtain ⟨nq, hnq⟩ : ∃ nq, nq = nodeAt f.nodes nd := ⟨_, rfl⟩
      rw [← hnq] at HC5 HAS HDC
      clear hH5 hc5 hqe hnq
      have z0 := fun d os => cell_regrown (w := w1) x1a d os
      have z1 := fun d os => cell_regrown (w := w1) y1a d os
      have z2 := fun d os => cell_regrown (w := w1) y1b d os
      have HV : Hid (errC (dirC nq u g want) = .nilIface) := Lib.hid (by rw [HDC.out]; rfl)
      go_wp2
      refine wp_region_quiet_below (by kernel_rfl) (by kernel_rfl) ?_
      repeat (first | go_big_quiet_step ((go_at_call 111; exact Calls.regrown_of (checkDir_is HV.out (Nat.lt_of_lt_of_le hg5 (below_regrown _ _ _).size) (HC5.out.below (below_regrown _ _ _) hg5) HAS.out))) | quiet_step ((go_at_call 111; exact Calls.regrown_of (checkDir_is HV.out (Nat.lt_of_lt_of_le hg5 (below_regrown _ _ _).size) (HC5.out.below (below_regrown _ _ _) hg5) HAS.out))))
      refine wpQuiet_nil ?_
      intro w6 hwq
      have hb6 : Below w1.heap.size w1 w6 := by
        obtain ⟨pp, rfl⟩ := hwq
        exact below_regrown _ _ _
      have HB6 := Lib.hid (HB1.out.trans (hb6.mono HB1.out.size))
      clear hwq hb6 z0 z1 z2
      go_wp2
      go_ret2
      exact ⟨by rw [HF.out]; rfl, HB6.out⟩
    · have HF : Hid (dirW f.nodes u g s.data.toList want = (dc, 0)) := Lib.hid (by unfold dirW; rw [hfd]; simp [hdc, hd])
      have HE := Lib.hid (errV_not s hd)
      have HX : Hid (errC dc = .iface 94 (.agg #[.int .i64 dc])) := Lib.hid (by unfold errC; rw [if_neg hd]; rfl)
      clear hfd hdc hd
      go_enter Tryz.func154, Tryz.ntmps154
      go_wp2_with fail
      refine (nodeAt_is HFD.out (HR.out.below HB0.out) HS.out HK.out hss).mono ?_
      rintro e w1 ⟨rfl, hb1⟩
      have HB1 := Lib.hid (HB0.out.trans (hb1.mono HB0.out.size))
      have KA1 := Lib.hid ((hb1.block w.heap.size (lt_of_heap KA0.out)).trans KA0.out)
      have KB1 := Lib.hid ((hb1.block (w.heap.size + 1) (lt_of_heap KB0.out)).trans KB0.out)
      have x1a : w1.cell? ⟨w.heap.size, 0, none⟩ = some (.slice o f.nodes.length c) := cell_blk KA1.out 0
      have x1b : w1.cell? ⟨w.heap.size, 1, none⟩ = some (.int .i64 f.room) := cell_blk KA1.out 1
      have y1a : w1.cell? ⟨w.heap.size + 1, 0, none⟩ = some (.int .i64 u) := cell_blk KB1.out 0
      have y1b : w1.cell? ⟨w.heap.size + 1, 1, none⟩ = some (.int .i64 g) := cell_blk KB1.out 1
      clear hb1
      rw [errV_ok]
      obtain ⟨o5, c5, e5, -, hH5⟩ := HN.out.below HB1.out
      simp only [Value.slice.injEq, true_and] at e5
      obtain ⟨rfl, rfl⟩ := e5
      obtain ⟨g5, f5, l5, rfl, hg5, hc5, -, -⟩ := hH5 nd hlt
      have hqe : f.nodes[nd] = nodeAt f.nodes nd := (getD_at hlt).symm
      rw [hqe] at hc5
      have HC5 := Lib.hid hc5
      have HAS : Hid ((nodeAt f.nodes nd).kind = 2 → askB u g (nodeAt f.nodes nd).mode (nodeAt f.nodes nd).uid (nodeAt f.nodes nd).gid want = true) := Lib.hid (fun h => good_ask (ask_good HK.out) (ask_cred HK.out) HW.out hlt h)
      obtain ⟨nq, hnq⟩ : ∃ nq, nq = nodeAt f.nodes nd := ⟨_, rfl⟩
      rw [← hnq] at HC5 HAS HDC
      clear hH5 hc5 hqe hnq
      have z0 := fun d os => cell_regrown (w := w1) x1a d os
      have z1 := fun d os => cell_regrown (w := w1) y1a d os
      have z2 := fun d os => cell_regrown (w := w1) y1b d os
      have HV : Hid (errC (dirC nq u g want) = .iface 94 (.agg #[.int .i64 dc])) := Lib.hid (by rw [HDC.out, HX.out])
      go_wp2
      refine wp_region_quiet_below (by kernel_rfl) (by kernel_rfl) ?_
      repeat (first | go_big_quiet_step ((go_at_call 111; exact Calls.regrown_of (checkDir_is HV.out (Nat.lt_of_lt_of_le hg5 (below_regrown _ _ _).size) (HC5.out.below (below_regrown _ _ _) hg5) HAS.out))) | quiet_step ((go_at_call 111; exact Calls.regrown_of (checkDir_is HV.out (Nat.lt_of_lt_of_le hg5 (below_regrown _ _ _).size) (HC5.out.below (below_regrown _ _ _) hg5) HAS.out))))
      refine wpQuiet_nil ?_
      intro w6 hwq
      have hb6 : Below w1.heap.size w1 w6 := by
        obtain ⟨pp, rfl⟩ := hwq
        exact below_regrown _ _ _
      have HB6 := Lib.hid (HB1.out.trans (hb6.mono HB1.out.size))
      clear hwq hb6 z0 z1 z2
      go_wp2
      go_ret2
      exact ⟨by rw [HF.out]; show _ = Ending.returned (.tuple #[.int .i64 ((0 : Nat) : Int), errV s dc]); rw [HE.out]; rfl, HB6.out⟩
  · have HF : Hid (dirW f.nodes u g s.data.toList want = (cd, 0)) := Lib.hid (by unfold dirW; rw [hfd]; simp [hc])
    have HE := Lib.hid (errV_not s hc)
    clear hfd hc
    go_enter Tryz.func154, Tryz.ntmps154
    go_wp2_with fail
    refine (nodeAt_is HFD.out (HR.out.below HB0.out) HS.out HK.out hss).mono ?_
    rintro e w1 ⟨rfl, hb1⟩
    have HB1 := Lib.hid (HB0.out.trans (hb1.mono HB0.out.size))
    have KA1 := Lib.hid ((hb1.block w.heap.size (lt_of_heap KA0.out)).trans KA0.out)
    have KB1 := Lib.hid ((hb1.block (w.heap.size + 1) (lt_of_heap KB0.out)).trans KB0.out)
    have x1a : w1.cell? ⟨w.heap.size, 0, none⟩ = some (.slice o f.nodes.length c) := cell_blk KA1.out 0
    have x1b : w1.cell? ⟨w.heap.size, 1, none⟩ = some (.int .i64 f.room) := cell_blk KA1.out 1
    have y1a : w1.cell? ⟨w.heap.size + 1, 0, none⟩ = some (.int .i64 u) := cell_blk KB1.out 0
    have y1b : w1.cell? ⟨w.heap.size + 1, 1, none⟩ = some (.int .i64 g) := cell_blk KB1.out 1
    clear hb1
    rw [HE.out]
    go_wp2
    go_ret2
    exact ⟨by rw [HF.out]; show _ = Ending.returned (.tuple #[.int .i64 ((0 : Nat) : Int), errV s cd]); rw [HE.out]; rfl, HB1.out⟩
theorem dirAt_is {f : FsD} {v : Value} {u g : Int} {s : ByteArray} {want : Int} {w : World} {cd : Int} {nd : Nat} (h : dirW f.nodes u g s.data.toList want = (cd, nd)) (hR : FsA w v f) (hs : szF f ≤ 1048576) (hk : askB4 f u g = true) (hw : inB 0 7 want = true) (hss : s.size ≤ 1048576) :
    Calls Tryz.prog 154 #[v, .agg #[.int .i64 u, .int .i64 g], .string s, .int .i64 want] w fun e w' => e = .returned (.tuple #[.int .i64 (nd : Int), errV s cd]) ∧ Below w.heap.size w w' := by
  have := dirAt_any f v u g s want w hR hs hk hw hss
  rw [h] at this
  exact this

end Go.Proofs.YtjomkjnpflebaaaGreatDoor


/-
  Where the last name of a path comes, as plain data: the text behind the last slash, what is ahead of it; slashes at the end count for nothing where a directory is asked for.
  Conditions: as each states.
-/
namespace Go.Proofs.YtjomkjnpflebaaaGreatDoor
open Go.ChangeShapes Go.WideShapes Go.ChangeAt Go.RowKit Go.Joins
set_option linter.unusedVariables false

theorem cut_slash : ∀ (l : List UInt8), 47 ∈ l → ∃ D p, l = D ++ 47 :: p ∧ 47 ∉ p
  | [], h => by simp at h
  | c :: l, h => by
    by_cases hl : 47 ∈ l
    · obtain ⟨D, p, e, hp⟩ := cut_slash l hl
      exact ⟨c :: D, p, by rw [e]; rfl, hp⟩
    · have hc : c = 47 := by
        rcases List.mem_cons.1 h with h | h
        · exact h.symm
        · exact absurd h hl
      exact ⟨[], l, by rw [hc]; rfl, hl⟩
theorem parts_cut (D p : List UInt8) (hp : 47 ∉ p) : parts (D ++ 47 :: p) = parts D ++ full [p] := by
  have e : D ++ 47 :: p = (D ++ [47]) ++ p := by simp
  unfold parts
  rw [e, sp_app _ _ (fun c hc h => hp (h ▸ hc)), sp_snoc, spStep, if_pos rfl]
  show full (((sp D).1 ++ [(sp D).2]) ++ [[] ++ p]) = _
  rw [full_app]
  rfl
theorem parts_slash (D : List UInt8) : parts (D ++ [47]) = parts D := by
  have := parts_cut D [] (by simp)
  rw [this]; simp [full]
theorem full_one {p : List UInt8} (h : p ≠ []) : full [p] = [p] := by
  cases p with
  | nil => exact absurd rfl h
  | cons c p => rfl
theorem slash_cut (D p : List UInt8) (hp : 47 ∉ p) : slashB (D ++ 47 :: p) = p.isEmpty := by
  unfold slashB
  rcases List.eq_nil_or_concat p with rfl | ⟨q, c, hq⟩
  · simp
  · rw [List.concat_eq_append] at hq
    subst hq
    have e : D ++ 47 :: (q ++ [c]) = (D ++ 47 :: q) ++ [c] := by simp
    have hc : c ≠ 47 := fun h => hp (by rw [h]; simp)
    have h1 : (c == 47) = false := beq_eq_false_iff_ne.2 hc
    have h2 : (q ++ [c]).isEmpty = false := by cases q <;> rfl
    rw [e, List.getLast?_append, h2, ← h1]
    simp
theorem name_is4 {p : List UInt8} (h : nameB p = true) : partB p = true ∧ p ≠ [46] ∧ p ≠ [46, 46] ∧ p ≠ [] := by
  unfold nameB at h
  simp only [Bool.and_eq_true, Bool.not_eq_true', beq_eq_false_iff_ne] at h
  refine ⟨h.1, h.2.1, h.2.2, ?_⟩
  rintro rfl
  exact absurd h.1 (by decide)
/-- What is ahead of the last slash: the root's own text where nothing is. -/
def aheadL (D : List UInt8) : List UInt8 := if D = [] then [47] else D
/-- What is ahead, slashes at its end struck. -/
def strip : List UInt8 → List UInt8 := fun l => (l.reverse.dropWhile (· == 47)).reverse

theorem goodB_slash {l : List UInt8} (hl : l.length < 60) (h0 : l ≠ []) : goodB (l ++ [47]) = goodB l := by
  unfold goodB
  rw [parts_slash]
  have h1 : 1 ≤ l.length := by cases l with | nil => exact absurd rfl h0 | cons => simp
  have e1 : decide (1 ≤ (l ++ [47]).length ∧ (l ++ [47]).length ≤ 60) = true := by simp; omega
  have e2 : decide (1 ≤ l.length ∧ l.length ≤ 60) = true := by simp; omega
  rw [e1, e2]
theorem wholeB_slash {l : List UInt8} (h0 : l ≠ []) (m : List UInt8) : wholeB (l ++ m) = wholeB l := by
  cases l with
  | nil => exact absurd rfl h0
  | cons c l => rfl
/-- A slash at the end changes nothing where a directory is asked for. -/
theorem dirW_slash {ns : List Nod} {u g : Int} {l : List UInt8} {want : Int} (hl : l.length < 60) (h0 : l ≠ []) : dirW ns u g (l ++ [47]) want = dirW ns u g l want := by
  have hs : slashB (l ++ [47]) = true := by unfold slashB; simp
  unfold dirW lkFind
  rw [goodB_slash hl h0, wholeB_slash h0, parts_slash, hs]
  by_cases h1 : goodB l = true ∧ wholeB l = true
  · simp only [if_pos h1, Bool.true_or]
    obtain ⟨⟨cd, nd⟩, hfd⟩ : ∃ q, lkGo ns u g true ⟨0, parts l, 0⟩ = q := ⟨_, rfl⟩
    rw [hfd]
    by_cases h2 : cd = 0
    · subst h2
      by_cases hk : (nodeAt ns nd).kind = 2
      · simp [hk]
      · have hd : dirC (nodeAt ns nd) u g want = 3 := by unfold dirC; rw [if_pos hk]
        by_cases hsl : slashB l = true
        · simp [hk, hsl]
        · simp [hk, hsl, hd]
    · simp [h2]
  · simp only [if_neg h1]
theorem dirW_slashes {ns : List Nod} {u g : Int} {want : Int} : ∀ (k : Nat) (l : List UInt8), l.length + k ≤ 60 → l ≠ [] → dirW ns u g (l ++ List.replicate k 47) want = dirW ns u g l want
  | 0, l, _, _ => by simp
  | k + 1, l, h, h0 => by
    rw [List.replicate_succ', ← List.append_assoc, dirW_slash (by simp; omega) (by simp [h0])]
    exact dirW_slashes k l (by omega) h0

/-- What FindPlace tells: a code, a node, a name. -/
def plF4 (ns : List Nod) (u g : Int) (D p : List UInt8) : Int × Nat × List UInt8 :=
  if (goodB (D ++ 47 :: p) = true ∧ wholeB (D ++ 47 :: p) = true) ∧ nameB p = true then
    ((dirW ns u g (aheadL D) 1).1, (dirW ns u g (aheadL D) 1).2, if (dirW ns u g (aheadL D) 1).1 = 0 then p else [])
  else (1, 0, [])
theorem base_cut {D p : List UInt8} (hp : 47 ∉ p) (hn : nameB p = true) : clean (wholeB (D ++ 47 :: p)) (parts (D ++ 47 :: p)) = clean (wholeB (D ++ 47 :: p)) (parts D) ++ [p] := by
  obtain ⟨h1, h2, h3, h4⟩ := name_is4 hn
  rw [parts_cut D p hp, full_one h4, clean_snoc, clStep, if_neg h2, if_neg h3]
end Go.Proofs.YtjomkjnpflebaaaGreatDoor
