/-
  Joined: LookP TryB TryC SetP.
  Conditions: as each states.
-/
import Derived.Deep.RegionHeld3
import Derived.Deep.RegionWith
import Derived.Deep.CutRange
import Derived.Deep.CutBlock
import Derived.Deep.DeepCutAuto
import Derived.Test.YtpkmkpeabfmbiaaGreatDoorLib12
import Derived.Test.YtpkmkpeabfmbiaaGreatDoorLib13
import Derived.Test.YtpkmkpeabfmbiaaGreatDoorLib14
import Derived.Test.YtpkmkpeabfmbiaaGreatDoorLib16
import Derived.Test.YtpkmkpeabfmbiaaGreatDoorLib18

/-
  The program's side of chapter 4: canLook, nodeAt, FindNode, linkAt, ReadLink.
  Conditions: at most 2^20 values and letters together; a text of at most 2^20 bytes; the variable errors.errorType as the program's text lays it.
-/
namespace Go.Proofs.YtpkmkpeabfmbiaaGreatDoor
open Go.ChangeShapes Go.WideShapes Go.ChangeAt Go.RowKit Go.Joins
set_option linter.unusedVariables false
set_option linter.unusedSimpArgs false

set_option maxHeartbeats 2000000 in
theorem canLook_any (f : FsD) (v : Value) (u g : Int) (w : World) (hR : FsA w v f) (hs : szF f ≤ 1048576) : Calls Tryz.prog 39 #[v, .agg #[.int .i64 u, .int .i64 g]] w fun e w' => e = .returned (.bool (askB4 f u g)) ∧ Below w.heap.size w w' := by
  have HR := Lib.hid hR
  obtain ⟨nv, rfl, hN⟩ := hR
  have HN := Lib.hid hN
  obtain ⟨o, c, rfl, hm, hH⟩ := hN
  unfold maxLen at hm
  have HS := Lib.hid hs
  have hl : f.nodes.length ≤ 1048576 := (lists_small hs).1
  have HB0 : Hid (Below w.heap.size w ((w.alloc (.cells #[.slice o f.nodes.length c, .int .i64 f.room] 34)).alloc (.cells #[.int .i64 u, .int .i64 g] 36))) := Lib.hid (((Below.refl _ _).alloc (Nat.le_refl _) _).alloc (by simp) _)
  have KA0 := Lib.hid (alloc3_fst' w (.cells #[.slice o f.nodes.length c, .int .i64 f.room] 34) (.cells #[.int .i64 u, .int .i64 g] 36))
  have KB0 := Lib.hid (alloc3_snd' w (.cells #[.slice o f.nodes.length c, .int .i64 f.room] 34) (.cells #[.int .i64 u, .int .i64 g] 36))
  clear hH
  clear hs
  by_cases hg : goodF f = true
  · have HG := Lib.hid hg
    have HF : Hid (askB4 f u g = credB u g) := Lib.hid (by unfold askB4; rw [HG.out]; rfl)
    clear hg
    go_enter Tryz.func39, Tryz.ntmps39
    go_wp2_with fail
    refine (goodFs_any f _ _ (HR.out.below HB0.out) HS.out).mono ?_
    rintro e w1 ⟨rfl, hb1⟩
    rw [HG.out]
    have HB1 := Lib.hid (HB0.out.trans (hb1.mono HB0.out.size))
    have KA1 := Lib.hid ((hb1.block w.heap.size (lt_of_heap KA0.out)).trans KA0.out)
    have KB1 := Lib.hid ((hb1.block (w.heap.size + 1) (lt_of_heap KB0.out)).trans KB0.out)
    have x1a : w1.cell? ⟨w.heap.size, 0, none⟩ = some (.slice o f.nodes.length c) := cell_blk KA1.out 0
    have x1b : w1.cell? ⟨w.heap.size, 1, none⟩ = some (.int .i64 f.room) := cell_blk KA1.out 1
    have y1a : w1.cell? ⟨w.heap.size + 1, 0, none⟩ = some (.int .i64 u) := cell_blk KB1.out 0
    have y1b : w1.cell? ⟨w.heap.size + 1, 1, none⟩ = some (.int .i64 g) := cell_blk KB1.out 1
    clear hb1
    go_wp2_with fail
    refine (goodCred_any u g _).mono ?_
    rintro e w2 ⟨rfl, hb2⟩
    have HB2 := Lib.hid (HB1.out.trans (hb2.mono HB1.out.size))
    clear hb2
    go_wp2
    go_ret
    exact ⟨ret_bool HF.out.symm, HB2.out⟩
  · have HG : Hid (goodF f = false) := Lib.hid (by simpa using hg)
    have HF : Hid (askB4 f u g = false) := Lib.hid (by unfold askB4; rw [HG.out]; rfl)
    clear hg
    go_enter Tryz.func39, Tryz.ntmps39
    go_wp2_with fail
    refine (goodFs_any f _ _ (HR.out.below HB0.out) HS.out).mono ?_
    rintro e w1 ⟨rfl, hb1⟩
    rw [HG.out]
    have HB1 := Lib.hid (HB0.out.trans (hb1.mono HB0.out.size))
    clear hb1
    go_wp2
    go_ret
    exact ⟨ret_bool HF.out.symm, HB1.out⟩
theorem canLook_is {f : FsD} {v : Value} {u g : Int} {w : World} {b : Bool} (h : askB4 f u g = b) (hR : FsA w v f) (hs : szF f ≤ 1048576) : Calls Tryz.prog 39 #[v, .agg #[.int .i64 u, .int .i64 g]] w fun e w' => e = .returned (.bool b) ∧ Below w.heap.size w w' := by
  rw [← h]; exact canLook_any f v u g w hR hs

set_option maxHeartbeats 2000000 in
theorem nodeAt_no (f : FsD) (v : Value) (u g : Int) (s : ByteArray) (fol : Bool) (w : World) (hR : FsA w v f) (hs : szF f ≤ 1048576) (hss : s.size ≤ 1048576) (hw : wgB s.data.toList = false) :
    Calls Tryz.prog 40 #[v, .agg #[.int .i64 u, .int .i64 g], .string s, .bool fol] w fun e w' => e = .returned (.tuple #[.int .i64 0, faultV s 1]) ∧ Below w.heap.size w w' := by
  have HR := Lib.hid hR
  obtain ⟨nv, rfl, hN⟩ := hR
  have HN := Lib.hid hN
  obtain ⟨o, c, rfl, hm, hH⟩ := hN
  unfold maxLen at hm
  have HS := Lib.hid hs
  have hl : f.nodes.length ≤ 1048576 := (lists_small hs).1
  have HB0 : Hid (Below w.heap.size w ((w.alloc (.cells #[.slice o f.nodes.length c, .int .i64 f.room] 34)).alloc (.cells #[.int .i64 u, .int .i64 g] 36))) := Lib.hid (((Below.refl _ _).alloc (Nat.le_refl _) _).alloc (by simp) _)
  have KA0 := Lib.hid (alloc3_fst' w (.cells #[.slice o f.nodes.length c, .int .i64 f.room] 34) (.cells #[.int .i64 u, .int .i64 g] 36))
  have KB0 := Lib.hid (alloc3_snd' w (.cells #[.slice o f.nodes.length c, .int .i64 f.room] 34) (.cells #[.int .i64 u, .int .i64 g] 36))
  clear hH
  have HW := Lib.hid hw
  clear hw hs
  go_enter Tryz.func40, Tryz.ntmps40
  go_wp2_with fail
  refine (isWholePath_is HW.out (by omega)).mono ?_
  rintro e w1 ⟨rfl, hb1⟩
  have HB1 := Lib.hid (HB0.out.trans (hb1.mono HB0.out.size))
  clear hb1
  go_wp2
  go_ret2
  exact ⟨rfl, HB1.out⟩
theorem nodeAt_any (f : FsD) (v : Value) (u g : Int) (s : ByteArray) (fol : Bool) (w : World) (hR : FsA w v f) (hs : szF f ≤ 1048576) (hgood : goodF f = true) (hcred : credB u g = true) (hss : s.size ≤ 1048576) :
    Calls Tryz.prog 40 #[v, .agg #[.int .i64 u, .int .i64 g], .string s, .bool fol] w fun e w' => e = .returned (.tuple #[.int .i64 ((lkFind f.nodes u g s.data.toList fol).2 : Nat), errV s (lkFind f.nodes u g s.data.toList fol).1]) ∧ Below w.heap.size w w' := by
  by_cases hw : wgB s.data.toList = true
  · cases fol with
    | false => exact nodeAt_f f v u g s w hR hgood hcred hs hss hw
    | true => exact nodeAt_t f v u g s w hR hgood hcred hs hss hw
  · have h1 : lkFind f.nodes u g s.data.toList fol = (1, 0) := by
      unfold lkFind
      rw [if_neg]
      intro h
      apply hw
      unfold wgB
      rw [h.1, h.2]; rfl
    rw [h1]
    exact nodeAt_no f v u g s fol w hR hs hss (by simpa using hw)
theorem ask_cred {f : FsD} {u g : Int} (h : askB4 f u g = true) : credB u g = true := by unfold askB4 at h; simp only [Bool.and_eq_true] at h; exact h.2
theorem nodeAt_is {f : FsD} {v : Value} {u g : Int} {s : ByteArray} {fol : Bool} {w : World} {cd : Int} {nd : Nat} (h : lkFind f.nodes u g s.data.toList fol = (cd, nd)) (hR : FsA w v f) (hs : szF f ≤ 1048576) (hk : askB4 f u g = true) (hss : s.size ≤ 1048576) :
    Calls Tryz.prog 40 #[v, .agg #[.int .i64 u, .int .i64 g], .string s, .bool fol] w fun e w' => e = .returned (.tuple #[.int .i64 (nd : Int), errV s cd]) ∧ Below w.heap.size w w' := by
  have := nodeAt_any f v u g s fol w hR hs (ask_good hk) (ask_cred hk) hss
  rw [h] at this
  exact this

end Go.Proofs.YtpkmkpeabfmbiaaGreatDoor


/-
  The contract of impl.tryOn: what a change makes of a copy; the file system anew where it tells a fault.
  Conditions: at most 2^20 values and letters together; the variable errors.errorType as the program's text lays it.
-/
namespace Go.Proofs.YtpkmkpeabfmbiaaGreatDoor
open Go.ChangeShapes Go.WideShapes Go.ChangeAt Go.RowKit Go.Joins
set_option linter.unusedVariables false
set_option linter.unusedSimpArgs false

theorem al4_0 (w : World) (a b c d : Obj) : ((((w.alloc a).alloc b).alloc c).alloc d).heap[w.heap.size]? = some a := by
  rw [Below.heap_alloc _ d _ (by first | (simp; done) | (simp; omega)), Below.heap_alloc _ c _ (by first | (simp; done) | (simp; omega)), Below.heap_alloc _ b _ (by first | (simp; done) | (simp; omega))]
  exact heap_alloc_new w a
theorem al4_1 (w : World) (a b c d : Obj) : ((((w.alloc a).alloc b).alloc c).alloc d).heap[w.heap.size + 1]? = some b := by
  rw [Below.heap_alloc _ d _ (by first | (simp; done) | (simp; omega)), Below.heap_alloc _ c _ (by first | (simp; done) | (simp; omega))]
  have h := heap_alloc_new (w.alloc a) b
  rw [World.size_alloc] at h
  exact h
theorem al4_2 (w : World) (a b c d : Obj) : ((((w.alloc a).alloc b).alloc c).alloc d).heap[w.heap.size + 2]? = some c := by
  rw [Below.heap_alloc _ d _ (by first | (simp; done) | (simp; omega))]
  have h := heap_alloc_new ((w.alloc a).alloc b) c
  rw [World.size_alloc, World.size_alloc] at h
  exact h
theorem al4_3 (w : World) (a b c d : Obj) : ((((w.alloc a).alloc b).alloc c).alloc d).heap[w.heap.size + 3]? = some d := by
  have h := heap_alloc_new (((w.alloc a).alloc b).alloc c) d
  rw [World.size_alloc, World.size_alloc, World.size_alloc] at h
  exact h

theorem set_two {w : World} {G : Nat} {x y : Value} {T : TypeId} (h : w.heap[G]? = some (.cells #[x, y] T (0, 0))) (a b : Value) : ((w.setCell ⟨G, 0, none⟩ a).setCell ⟨G, 1, none⟩ b).heap[G]? = some (.cells #[a, b] T (0, 0)) :=
  heap_setCell_same _ G 1 _ T b (heap_setCell_same w G 0 _ T a h)
theorem set_five {w : World} {G : Nat} {x0 x1 x2 x3 x4 : Value} {T : TypeId} (h : w.heap[G]? = some (.cells #[x0, x1, x2, x3, x4] T (0, 0))) (a b c d e : Value) : (((((w.setCell ⟨G, 0, none⟩ a).setCell ⟨G, 1, none⟩ b).setCell ⟨G, 2, none⟩ c).setCell ⟨G, 3, none⟩ d).setCell ⟨G, 4, none⟩ e).heap[G]? = some (.cells #[a, b, c, d, e] T (0, 0)) :=
  heap_setCell_same _ G 4 _ T e (heap_setCell_same _ G 3 _ T d (heap_setCell_same _ G 2 _ T c (heap_setCell_same _ G 1 _ T b (heap_setCell_same w G 0 _ T a h))))
theorem five_ne {w : World} {G i : Nat} (h : i ≠ G) (a b c d e : Value) : (((((w.setCell ⟨G, 0, none⟩ a).setCell ⟨G, 1, none⟩ b).setCell ⟨G, 2, none⟩ c).setCell ⟨G, 3, none⟩ d).setCell ⟨G, 4, none⟩ e).heap[i]? = w.heap[i]? :=
  (Below.heap_setCell _ ⟨G, 4, none⟩ e i h).trans ((Below.heap_setCell _ ⟨G, 3, none⟩ d i h).trans ((Below.heap_setCell _ ⟨G, 2, none⟩ c i h).trans ((Below.heap_setCell _ ⟨G, 1, none⟩ b i h).trans (Below.heap_setCell w ⟨G, 0, none⟩ a i h))))
theorem set_one {w : World} {N : Nat} {x : Value} {T : TypeId} (h : w.heap[N]? = some (.cells #[x] T (0, 0))) (a : Value) : (w.setCell ⟨N, 0, none⟩ a).heap[N]? = some (.cells #[a] T (0, 0)) :=
  heap_setCell_same w N 0 _ T a h
theorem Own.other {w : World} {R : Nat} {nv : Value} {ps : List (Nod × Value)} (h : Own w R nv ps) {b : Nat} (hb : b < R) (j : Nat) (u : Value) : Own (w.setCell ⟨b, j, none⟩ u) R nv ps :=
  h.up fun i hi _ => Below.heap_setCell w ⟨b, j, none⟩ u i (by simp only; omega)
theorem cell_more {w : World} {a : Addr} {v : Value} {o : Obj} (h : w.cell? a = some v) : (w.alloc o).cell? a = some v := by
  have hl : a.block < w.heap.size := World.block_lt_of_cell? w a h
  exact (((Below.refl _ w).alloc (Nat.le_refl _) o).cell hl).trans h
set_option maxRecDepth 100000 in
set_option maxHeartbeats 16000000 in
theorem tryOn_ok (f f2 : FsD) (v : Value) (u g t : Int) (j : FuncId) (cap : Array Value) (w : World) (hR : FsA w v f) (hs : szF f ≤ 1048576) (hE : ErrT w) (hk : askB4 f u g = true) (ht : inB 0 1000000 t = true)
    (hcf : ∀ args w, (callFunc j args).run Tryz.prog w = .ok (.enter j args) w)
    (hchg : ∀ (w1 : World) (d R : Nat) (nv : Value) (ps : List (Nod × Value)), w.heap.size ≤ R → R ≤ d → Below w.heap.size w w1 → w1.heap[d]? = some (.cells #[nv, .int .i64 f.room, .int .i64 u, .int .i64 g, .int .i64 t] 150) → ps.map Prod.fst = f.nodes → Own w1 R nv ps →
      Calls Tryz.prog j (#[.pointer (some ⟨d, 0, none⟩)] ++ cap) w1 fun e w' => e = .returned .nilIface ∧ Below R w1 w' ∧ ∃ nv2 ps2, w'.heap[d]? = some (.cells #[nv2, .int .i64 f2.room, .int .i64 u, .int .i64 g, .int .i64 t] 150) ∧ ps2.map Prod.fst = f2.nodes ∧ Own w' R nv2 ps2) :
    Calls Tryz.prog 69 #[v, .agg #[.int .i64 u, .int .i64 g], .int .i64 t, .func (.func j) #[] cap] w fun e w' => ∃ nv ps, e = .returned (.tuple #[.agg #[nv, .int .i64 f2.room], .int .i64 0, .bool true]) ∧ ps.map Prod.fst = f2.nodes ∧ Own w' w.heap.size nv ps ∧ Below w.heap.size w w' := by
  have hmf : ∀ (fn : Fn) (first cap : Array Value) (w : World), (Instr.makeFunc fn first cap).run Tryz.prog w = .ok (.func fn first cap) w := fun _ _ _ _ => rfl
  have HR := Lib.hid hR
  obtain ⟨nv0, rfl, hN⟩ := hR
  obtain ⟨o, c, rfl, -, -⟩ := hN
  have HS := Lib.hid hs
  have HET := Lib.hid hE
  have HK := Lib.hid hk
  have HTM := Lib.hid ht
  have HCH := Lib.hid hchg
  have hb0 : Below w.heap.size w ((((w.alloc (.cells #[.slice o f.nodes.length c, .int .i64 f.room] 34)).alloc (.cells #[.int .i64 u, .int .i64 g] 36)).alloc (.cells #[.slice none 0 0, .int .i64 0] 34)).alloc (.cells #[.int .i64 0] 3)) := (((((Below.refl _ _).alloc (Nat.le_refl _) _).alloc (by simp) _).alloc (by simp; omega) _).alloc (by simp; omega) _)
  have HB0 := Lib.hid hb0
  have HF0 := Lib.hid (al4_0 w (.cells #[.slice o f.nodes.length c, .int .i64 f.room] 34) (.cells #[.int .i64 u, .int .i64 g] 36) (.cells #[.slice none 0 0, .int .i64 0] 34) (.cells #[.int .i64 0] 3))
  have HC0 := Lib.hid (al4_1 w (.cells #[.slice o f.nodes.length c, .int .i64 f.room] 34) (.cells #[.int .i64 u, .int .i64 g] 36) (.cells #[.slice none 0 0, .int .i64 0] 34) (.cells #[.int .i64 0] 3))
  have HG0 := Lib.hid (al4_2 w (.cells #[.slice o f.nodes.length c, .int .i64 f.room] 34) (.cells #[.int .i64 u, .int .i64 g] 36) (.cells #[.slice none 0 0, .int .i64 0] 34) (.cells #[.int .i64 0] 3))
  have HN0 := Lib.hid (al4_3 w (.cells #[.slice o f.nodes.length c, .int .i64 f.room] 34) (.cells #[.int .i64 u, .int .i64 g] 36) (.cells #[.slice none 0 0, .int .i64 0] 34) (.cells #[.int .i64 0] 3))
  clear hs hE hk ht hchg hb0
  go_enter_defers Tryz.func69, Tryz.ntmps69
  go_wp2_with fail
  refine (canLook_is HK.out (HR.out.below HB0.out) HS.out).mono ?_
  rintro e w1 ⟨rfl, hb1⟩
  have HB1 := Lib.hid (HB0.out.trans (hb1.mono HB0.out.size))
  have HF1 := Lib.hid ((hb1.block _ (lt_of_heap HF0.out)).trans HF0.out)
  have HC1 := Lib.hid ((hb1.block _ (lt_of_heap HC0.out)).trans HC0.out)
  have HG1 := Lib.hid ((hb1.block _ (lt_of_heap HG0.out)).trans HG0.out)
  have HN1 := Lib.hid ((hb1.block _ (lt_of_heap HN0.out)).trans HN0.out)
  clear hb1
  go_wp2_with fail
  refine (isTime_any _ _).mono ?_
  rintro e w1b ⟨rfl, rfl⟩
  rw [HTM.out]
  have f10 : w1.cell? ⟨w.heap.size, 0, none⟩ = some (.slice o f.nodes.length c) := cell_blk HF1.out 0
  have f11 : w1.cell? ⟨w.heap.size, 1, none⟩ = some (.int .i64 f.room) := cell_blk HF1.out 1
  have c10 : w1.cell? ⟨w.heap.size + 1, 0, none⟩ = some (.int .i64 u) := cell_blk HC1.out 0
  have c11 : w1.cell? ⟨w.heap.size + 1, 1, none⟩ = some (.int .i64 g) := cell_blk HC1.out 1
  have hs4 : w.heap.size + 4 ≤ w1.heap.size := lt_of_heap HN1.out
  have f10z := fun oo => cell_more (o := oo) f10
  have f11z := fun oo => cell_more (o := oo) f11
  have c10z := fun oo => cell_more (o := oo) c10
  have c11z := fun oo => cell_more (o := oo) c11
  have HBX := Lib.hid HB1.out.drew
  have HBY := Lib.hid (HB1.out.alloc HB1.out.size (.cells #[.slice none 0 0, .int .i64 0, .int .i64 0, .int .i64 0, .int .i64 0] 150)).drew
  have HX : Hid (w1.heap.size ≤ w1.drew.heap.size ∧ ∀ i, i < w1.heap.size → w1.drew.heap[i]? = w1.heap[i]?) := Lib.hid ⟨Nat.le_refl _, fun _ _ => rfl⟩
  have HY : Hid (w1.heap.size ≤ (w1.alloc (.cells #[.slice none 0 0, .int .i64 0, .int .i64 0, .int .i64 0, .int .i64 0] 150)).drew.heap.size ∧ ∀ i, i < w1.heap.size → (w1.alloc (.cells #[.slice none 0 0, .int .i64 0, .int .i64 0, .int .i64 0, .int .i64 0] 150)).drew.heap[i]? = w1.heap[i]?) := Lib.hid ⟨by simp, fun i hi => Below.heap_alloc w1 _ i hi⟩
  have HYZ : Hid ((w1.alloc (.cells #[.slice none 0 0, .int .i64 0, .int .i64 0, .int .i64 0, .int .i64 0] 150)).drew.heap[w1.heap.size]? = some (.cells #[.slice none 0 0, .int .i64 0, .int .i64 0, .int .i64 0, .int .i64 0] 150)) := Lib.hid (heap_alloc_new w1 _)
  go_upto_region 3 with fail
  go_cut [11] from 23 to 27 (fun t11 wx => ∃ (d : Nat) (oo2 : Option Addr) (cc2 : Nat) (ps : List (Nod × Value)), t11 = .pointer (some ⟨d, 0, none⟩) ∧ w.heap.size + 4 ≤ d ∧ ps.map Prod.fst = f.nodes ∧ Own wx (w.heap.size + 4) (.slice oo2 ps.length cc2) ps ∧ wx.heap[d]? = some (.cells #[.slice oo2 ps.length cc2, .int .i64 f.room, .int .i64 u, .int .i64 g, .int .i64 t] 150) ∧ Below w.heap.size w wx ∧ (w1.heap.size ≤ wx.heap.size ∧ ∀ i, i < w1.heap.size → wx.heap[i]? = w1.heap[i]?))
  case first =>
    refine wp_region_noPanic ?_
    go_region_with
      (first
        | (go_at_call 101; (with_reducible refine (copyFs_any f _ _ (HR.out.below HBX.out) HS.out).mono ?_); rintro e w2 ⟨nv2, ps, rfl, hps, hO, hb2⟩; have HPS := Lib.hid hps; have HO2 := Lib.hid (hO.low (R := w.heap.size + 4) (Nat.le_trans hs4 HX.out.1)); obtain ⟨oo2, cc2, rfl, -⟩ := owns_form hO.row; have HB2 := Lib.hid (HBX.out.trans (hb2.mono HBX.out.size)); have HU2 : Hid (w1.heap.size ≤ w2.heap.size ∧ ∀ i, i < w1.heap.size → w2.heap[i]? = w1.heap[i]?) := Lib.hid ⟨Nat.le_trans HX.out.1 hb2.size, fun i hi => (hb2.block i (Nat.lt_of_lt_of_le hi HX.out.1)).trans (HX.out.2 i hi)⟩; have f20 : w2.cell? ⟨w.heap.size, 0, none⟩ = some (.slice o f.nodes.length c) := cell_blk ((HU2.out.2 _ (lt_of_heap HF1.out)).trans HF1.out) 0; have f21 : w2.cell? ⟨w.heap.size, 1, none⟩ = some (.int .i64 f.room) := cell_blk ((HU2.out.2 _ (lt_of_heap HF1.out)).trans HF1.out) 1; have c20 : w2.cell? ⟨w.heap.size + 1, 0, none⟩ = some (.int .i64 u) := cell_blk ((HU2.out.2 _ (lt_of_heap HC1.out)).trans HC1.out) 0; have c21 : w2.cell? ⟨w.heap.size + 1, 1, none⟩ = some (.int .i64 g) := cell_blk ((HU2.out.2 _ (lt_of_heap HC1.out)).trans HC1.out) 1; have f20z := fun oo => cell_more (o := oo) f20; have f21z := fun oo => cell_more (o := oo) f21; have c20z := fun oo => cell_more (o := oo) c20; have c21z := fun oo => cell_more (o := oo) c21; clear hps hO hb2)
        | (go_at_call 101; (with_reducible refine (copyFs_any f _ _ (HR.out.below HBY.out) HS.out).mono ?_); rintro e w2 ⟨nv2, ps, rfl, hps, hO, hb2⟩; have HPS := Lib.hid hps; have HO2 := Lib.hid (hO.low (R := w.heap.size + 4) (Nat.le_trans hs4 HY.out.1)); obtain ⟨oo2, cc2, rfl, -⟩ := owns_form hO.row; have HB2 := Lib.hid (HBY.out.trans (hb2.mono HBY.out.size)); have HU2 : Hid (w1.heap.size ≤ w2.heap.size ∧ ∀ i, i < w1.heap.size → w2.heap[i]? = w1.heap[i]?) := Lib.hid ⟨Nat.le_trans HY.out.1 hb2.size, fun i hi => (hb2.block i (Nat.lt_of_lt_of_le hi HY.out.1)).trans (HY.out.2 i hi)⟩; have HOB := Lib.hid (hO.low (R := w1.heap.size + 1) (by simp)); have HD2 := Lib.hid ((hb2.block _ (lt_of_heap HYZ.out)).trans HYZ.out); have y0 : w2.cell? ⟨w1.heap.size, 0, none⟩ = some (.slice none 0 0) := cell_blk HD2.out 0; have y1 : w2.cell? ⟨w1.heap.size, 1, none⟩ = some (.int .i64 0) := cell_blk HD2.out 1; have y2 : w2.cell? ⟨w1.heap.size, 2, none⟩ = some (.int .i64 0) := cell_blk HD2.out 2; have y3 : w2.cell? ⟨w1.heap.size, 3, none⟩ = some (.int .i64 0) := cell_blk HD2.out 3; have y4 : w2.cell? ⟨w1.heap.size, 4, none⟩ = some (.int .i64 0) := cell_blk HD2.out 4; have yf := frozen_blk HD2.out; have f20 : w2.cell? ⟨w.heap.size, 0, none⟩ = some (.slice o f.nodes.length c) := cell_blk ((HU2.out.2 _ (lt_of_heap HF1.out)).trans HF1.out) 0; have f21 : w2.cell? ⟨w.heap.size, 1, none⟩ = some (.int .i64 f.room) := cell_blk ((HU2.out.2 _ (lt_of_heap HF1.out)).trans HF1.out) 1; have c20 : w2.cell? ⟨w.heap.size + 1, 0, none⟩ = some (.int .i64 u) := cell_blk ((HU2.out.2 _ (lt_of_heap HC1.out)).trans HC1.out) 0; have c21 : w2.cell? ⟨w.heap.size + 1, 1, none⟩ = some (.int .i64 g) := cell_blk ((HU2.out.2 _ (lt_of_heap HC1.out)).trans HC1.out) 1; have f20z := fun oo => cell_more (o := oo) f20; have f21z := fun oo => cell_more (o := oo) f21; have c20z := fun oo => cell_more (o := oo) c20; have c21z := fun oo => cell_more (o := oo) c21; clear hps hO hb2))
    all_goals
      refine NoPanic.normal ?_
      go_wp2_with fail
      go_meet
      first
        | (have hx := HOB; exact ⟨w1.heap.size, oo2, cc2, ps, rfl, hs4, HPS.out, ((((((HOB.out.other (Nat.lt_succ_self _) _ _).other (Nat.lt_succ_self _) _ _).other (Nat.lt_succ_self _) _ _).other (Nat.lt_succ_self _) _ _).other (Nat.lt_succ_self _) _ _).low (Nat.le_succ_of_le hs4)), set_five HD2.out _ _ _ _ _, ((((HB2.out.setCell (p := ⟨w1.heap.size, 0, none⟩) HB1.out.size _).setCell (p := ⟨w1.heap.size, 1, none⟩) HB1.out.size _).setCell (p := ⟨w1.heap.size, 2, none⟩) HB1.out.size _).setCell (p := ⟨w1.heap.size, 3, none⟩) HB1.out.size _).setCell (p := ⟨w1.heap.size, 4, none⟩) HB1.out.size _, by simpa using HU2.out.1, fun i hi => (five_ne (Nat.ne_of_lt hi) _ _ _ _ _).trans (HU2.out.2 i hi)⟩)
        | exact ⟨w2.heap.size, oo2, cc2, ps, rfl, Nat.le_trans hs4 HU2.out.1, HPS.out, HO2.out.up fun i _ hi => Below.heap_alloc w2 _ i hi, heap_alloc_new w2 _, HB2.out.alloc HB2.out.size _, by simp only [World.size_alloc]; exact Nat.le_succ_of_le HU2.out.1, fun i hi => (Below.heap_alloc w2 _ i (Nat.lt_of_lt_of_le hi HU2.out.1)).trans (HU2.out.2 i hi)⟩
  case rest =>
    obtain ⟨d, oo2, cc2, ps, rfl, hd, hps, hO, hD, hB, hU⟩ := hcut
    have HU := Lib.hid hU
    have HB := Lib.hid hB
    clear f10z f11z c10z c11z HBX HBY HX HY HYZ f10 f11 c10 c11 hU
    go_wp2_with fail
    refine (HCH.out _ d (w.heap.size + 4) _ ps (by omega) hd hB hD hps hO).mono ?_
    rintro e w3 ⟨rfl, hb3, nv3, ps3, hD3, hps3, hO3⟩
    obtain ⟨oo3, cc3, rfl, -⟩ := owns_form hO3.row
    have HB3 : Hid (Below w.heap.size w w3) := Lib.hid (HB.out.trans (hb3.mono (by omega)))
    have HO3 := Lib.hid hO3
    have HPS3 := Lib.hid hps3
    have hu3 : ∀ i, i < w.heap.size + 4 → w3.heap[i]? = w1.heap[i]? := fun i hi => (hb3.block i hi).trans (HU.out.2 i (by omega))
    have HG3 : Hid (w3.heap[w.heap.size + 2]? = some (.cells #[.slice none 0 0, .int .i64 0] 34)) := Lib.hid ((hu3 _ (by omega)).trans HG1.out)
    have HN3 : Hid (w3.heap[w.heap.size + 3]? = some (.cells #[.int .i64 0] 3)) := Lib.hid ((hu3 _ (by omega)).trans HN1.out)
    have HD3 := Lib.hid hD3
    have x0 : w3.cell? ⟨d, 0, none⟩ = some (.slice oo3 ps3.length cc3) := cell_blk hD3 0
    have x1 : w3.cell? ⟨d, 1, none⟩ = some (.int .i64 f2.room) := cell_blk hD3 1
    have g0 : w3.cell? ⟨w.heap.size + 2, 0, none⟩ = some (.slice none 0 0) := cell_blk HG3.out 0
    have g1 : w3.cell? ⟨w.heap.size + 2, 1, none⟩ = some (.int .i64 0) := cell_blk HG3.out 1
    have gf := frozen_blk HG3.out
    have n0 : w3.cell? ⟨w.heap.size + 3, 0, none⟩ = some (.int .i64 0) := cell_blk HN3.out 0
    have nf := frozen_blk HN3.out
    have hdl := lt_of_heap hD3
    clear hb3 hD3 hps3 hO3 hO hD hB hps hu3
    have HCO : Hid (∀ W, ErrT W → Calls Tryz.prog 41 #[.nilIface] W fun e w' => e = .returned (.int .i64 0) ∧ Below W.heap.size W w') := Lib.hid (fun W h => codeOfC_any 0 W h)
    have HBa := Lib.hid HB3.out.drew
    have HBb : Hid (Below w.heap.size w ((w3.setCell ⟨w.heap.size + 2, 0, none⟩ (.slice oo3 ps3.length cc3)).setCell ⟨w.heap.size + 2, 1, none⟩ (.int .i64 f2.room)).drew) := Lib.hid ((HB3.out.setCell (p := ⟨w.heap.size + 2, 0, none⟩) (by simp only; omega) _).setCell (p := ⟨w.heap.size + 2, 1, none⟩) (by simp only; omega) _).drew
    have HEa := Lib.hid (HET.out.below HBa.out HET.out.1)
    have HEb := Lib.hid (HET.out.below HBb.out HET.out.1)
    have HUb : Hid (∀ i, w.heap.size + 4 ≤ i → i < w3.heap.size → ((w3.setCell ⟨w.heap.size + 2, 0, none⟩ (.slice oo3 ps3.length cc3)).setCell ⟨w.heap.size + 2, 1, none⟩ (.int .i64 f2.room)).drew.heap[i]? = w3.heap[i]?) := Lib.hid (fun i h1 h2 => (Below.heap_setCell _ ⟨w.heap.size + 2, 1, none⟩ _ i (by simp only; omega)).trans (Below.heap_setCell _ ⟨w.heap.size + 2, 0, none⟩ _ i (by simp only; omega)))
    have HD3d : Hid (w3.drew.heap[d]? = _) := Lib.hid HD3.out
    have HG3d : Hid (w3.drew.heap[w.heap.size + 2]? = _) := Lib.hid HG3.out
    have HN3d : Hid (w3.drew.heap[w.heap.size + 3]? = _) := Lib.hid HN3.out
    have HG5 : Hid (((w3.setCell ⟨w.heap.size + 2, 0, none⟩ (.slice oo3 ps3.length cc3)).setCell ⟨w.heap.size + 2, 1, none⟩ (.int .i64 f2.room)).drew.heap[w.heap.size + 2]? = some (.cells #[(.slice oo3 ps3.length cc3), .int .i64 f2.room] 34)) := Lib.hid (set_two HG3.out _ _)
    have HN5 : Hid (((w3.setCell ⟨w.heap.size + 2, 0, none⟩ (.slice oo3 ps3.length cc3)).setCell ⟨w.heap.size + 2, 1, none⟩ (.int .i64 f2.room)).drew.heap[w.heap.size + 3]? = some (.cells #[.int .i64 0] 3)) := Lib.hid ((Below.heap_setCell _ ⟨w.heap.size + 2, 1, none⟩ _ _ (by simp only; omega)).trans ((Below.heap_setCell _ ⟨w.heap.size + 2, 0, none⟩ _ _ (by simp only; omega)).trans HN3.out))
    go_upto_region 6 with fail
    go_cut [10] from 31 to 34 (fun t10 wx => t10 = .bool true ∧ wx.heap[w.heap.size + 2]? = some (.cells #[(.slice oo3 ps3.length cc3), .int .i64 f2.room] 34) ∧ wx.heap[w.heap.size + 3]? = some (.cells #[.int .i64 0] 3) ∧ Own wx (w.heap.size + 4) (.slice oo3 ps3.length cc3) ps3 ∧ Below w.heap.size w wx)
    case first =>
      refine wp_region_noPanic ?_
      go_region_with (first
        | (go_at_call 41; (with_reducible refine (HCO.out _ HEa.out).mono ?_); rintro e w4 ⟨rfl, hb4⟩; have HB4 := Lib.hid (HBa.out.trans (hb4.mono HBa.out.size)); have HO4 := Lib.hid ((HO3.out.up (w' := w3.drew) (fun _ _ _ => rfl)).below hb4); have HD4 := Lib.hid ((hb4.block _ (lt_of_heap HD3d.out)).trans HD3d.out); have HG4 := Lib.hid ((hb4.block _ (lt_of_heap HG3d.out)).trans HG3d.out); have HN4 := Lib.hid ((hb4.block _ (lt_of_heap HN3d.out)).trans HN3d.out); have g40 := cell_blk HG4.out 0; have g41 := cell_blk HG4.out 1; have g4f := frozen_blk HG4.out; have n40 := cell_blk HN4.out 0; have n4f := frozen_blk HN4.out; have d40 := cell_blk HD4.out 0; have d41 := cell_blk HD4.out 1; clear hb4)
        | (go_at_call 41; (with_reducible refine (HCO.out _ HEb.out).mono ?_); rintro e w4 ⟨rfl, hb4⟩; have HB4 := Lib.hid (HBb.out.trans (hb4.mono HBb.out.size)); have HO4 := Lib.hid ((HO3.out.up (w' := ((w3.setCell ⟨w.heap.size + 2, 0, none⟩ (.slice oo3 ps3.length cc3)).setCell ⟨w.heap.size + 2, 1, none⟩ (.int .i64 f2.room)).drew) HUb.out).below hb4); have HG4 := Lib.hid ((hb4.block _ (lt_of_heap HG5.out)).trans HG5.out); have HN4 := Lib.hid ((hb4.block _ (lt_of_heap HN5.out)).trans HN5.out); have n40 := cell_blk HN4.out 0; have n4f := frozen_blk HN4.out; clear hb4))
      all_goals
        refine NoPanic.normal ?_
        go_wp2_with fail
        go_meet
        first
          | exact ⟨rfl, (Below.heap_setCell _ ⟨w.heap.size + 3, 0, none⟩ _ _ (by simp only; omega)).trans (set_two HG4.out _ _), set_one ((Below.heap_setCell _ ⟨w.heap.size + 2, 1, none⟩ _ _ (by simp only; omega)).trans ((Below.heap_setCell _ ⟨w.heap.size + 2, 0, none⟩ _ _ (by simp only; omega)).trans HN4.out)) _, ((HO4.out.other (by omega) _ _).other (by omega) _ _).other (by omega) _ _, ((HB4.out.setCell (p := ⟨w.heap.size + 2, 0, none⟩) (by simp only; omega) _).setCell (p := ⟨w.heap.size + 2, 1, none⟩) (by simp only; omega) _).setCell (p := ⟨w.heap.size + 3, 0, none⟩) (by simp only; omega) _⟩
          | exact ⟨rfl, set_two ((Below.heap_setCell _ ⟨w.heap.size + 3, 0, none⟩ _ _ (by simp only; omega)).trans HG4.out) _ _, (Below.heap_setCell _ ⟨w.heap.size + 2, 1, none⟩ _ _ (by simp only; omega)).trans ((Below.heap_setCell _ ⟨w.heap.size + 2, 0, none⟩ _ _ (by simp only; omega)).trans (set_one HN4.out _)), ((HO4.out.other (by omega) _ _).other (by omega) _ _).other (by omega) _ _, ((HB4.out.setCell (p := ⟨w.heap.size + 3, 0, none⟩) (by simp only; omega) _).setCell (p := ⟨w.heap.size + 2, 0, none⟩) (by simp only; omega) _).setCell (p := ⟨w.heap.size + 2, 1, none⟩) (by simp only; omega) _⟩
          | exact ⟨rfl, (Below.heap_setCell _ ⟨w.heap.size + 3, 0, none⟩ _ _ (by simp only; omega)).trans HG4.out, set_one HN4.out _, HO4.out.other (by omega) _ _, HB4.out.setCell (p := ⟨w.heap.size + 3, 0, none⟩) (by simp only; omega) _⟩
    case rest =>
      obtain ⟨rfl, hg9, hn9, hO9, hB9⟩ := hcut
      have r0 : wc.cell? ⟨w.heap.size + 2, 0, none⟩ = some (Value.slice oo3 ps3.length cc3) := cell_blk hg9 0
      have r1 : wc.cell? ⟨w.heap.size + 2, 1, none⟩ = some (Value.int .i64 f2.room) := cell_blk hg9 1
      have r2 : wc.cell? ⟨w.heap.size + 3, 0, none⟩ = some (Value.int .i64 0) := cell_blk hn9 0
      have HO9 := Lib.hid hO9
      have HB9 := Lib.hid hB9
      have HN9 := Lib.hid hn9
      clear hg9 hn9 hO9 hB9 x0 x1 g0 g1 gf n0 nf
      go_wp2
      refine leaves_cons (f := 102) (args := #[.pointer (some ⟨w.heap.size + 3, 0, none⟩), .pointer (some ⟨w.heap.size, 0, none⟩), .pointer (some ⟨w.heap.size + 2, 0, none⟩)]) (by simp) (by simp [go_sem]) ?_
      refine (undo_idle (w.heap.size + 3) w.heap.size (w.heap.size + 2) .returning _ HN9.out).mono ?_
      rintro e u' w'' ⟨rfl, rfl, rfl⟩
      refine ⟨.tuple #[.agg #[.slice oo3 ps3.length cc3, .int .i64 f2.room], .int .i64 0, .bool true], by simp [results, Tryz.results69, go_sem, r0, r1, r2], _, ps3, rfl, HPS3.out, HO9.out.low (by omega), HB9.out⟩
end Go.Proofs.YtpkmkpeabfmbiaaGreatDoor


/-
  The contract of impl.tryOn where the change tells a fault (the file system anew), and where the arguments are not as asked (the zero answer).
  Conditions: at most 2^20 values and letters together; the variable errors.errorType as the program's text lays it.
-/
namespace Go.Proofs.YtpkmkpeabfmbiaaGreatDoor
open Go.ChangeShapes Go.WideShapes Go.ChangeAt Go.RowKit Go.Joins
set_option linter.unusedVariables false
set_option linter.unusedSimpArgs false

set_option maxRecDepth 100000 in
set_option maxHeartbeats 16000000 in
theorem tryOn_bad (f : FsD) (E : Value) (cd : Int) (hz : cd ≠ 0) (hCO : ∀ W, ErrT W → Calls Tryz.prog 41 #[E] W fun e w' => e = .returned (.int .i64 cd) ∧ Below W.heap.size W w') (v : Value) (u g t : Int) (j : FuncId) (cap : Array Value) (w : World) (hR : FsA w v f) (hs : szF f ≤ 1048576) (hE : ErrT w) (hk : askB4 f u g = true) (ht : inB 0 1000000 t = true)
    (hcf : ∀ args w, (callFunc j args).run Tryz.prog w = .ok (.enter j args) w)
    (hchg : ∀ (w1 : World) (d R : Nat) (nv : Value) (ps : List (Nod × Value)), w.heap.size ≤ R → R ≤ d → Below w.heap.size w w1 → w1.heap[d]? = some (.cells #[nv, .int .i64 f.room, .int .i64 u, .int .i64 g, .int .i64 t] 150) → ps.map Prod.fst = f.nodes → Own w1 R nv ps →
      Calls Tryz.prog j (#[.pointer (some ⟨d, 0, none⟩)] ++ cap) w1 fun e w' => e = .returned E ∧ Below R w1 w' ∧ ∃ nv2 ps2, w'.heap[d]? = some (.cells #[nv2, .int .i64 f.room, .int .i64 u, .int .i64 g, .int .i64 t] 150) ∧ Own w' R nv2 ps2) :
    Calls Tryz.prog 69 #[v, .agg #[.int .i64 u, .int .i64 g], .int .i64 t, .func (.func j) #[] cap] w fun e w' => ∃ nv ps, e = .returned (.tuple #[.agg #[nv, .int .i64 f.room], .int .i64 cd, .bool true]) ∧ ps.map Prod.fst = f.nodes ∧ Own w' w.heap.size nv ps ∧ Below w.heap.size w w' := by
  have hmf : ∀ (fn : Fn) (first cap : Array Value) (w : World), (Instr.makeFunc fn first cap).run Tryz.prog w = .ok (.func fn first cap) w := fun _ _ _ _ => rfl
  have HR := Lib.hid hR
  have HCOE := Lib.hid hCO
  have HZ := Lib.hid hz
  obtain ⟨nv0, rfl, hN⟩ := hR
  obtain ⟨o, c, rfl, -, -⟩ := hN
  have HS := Lib.hid hs
  have HET := Lib.hid hE
  have HK := Lib.hid hk
  have HTM := Lib.hid ht
  have HCH := Lib.hid hchg
  have hb0 : Below w.heap.size w ((((w.alloc (.cells #[.slice o f.nodes.length c, .int .i64 f.room] 34)).alloc (.cells #[.int .i64 u, .int .i64 g] 36)).alloc (.cells #[.slice none 0 0, .int .i64 0] 34)).alloc (.cells #[.int .i64 0] 3)) := (((((Below.refl _ _).alloc (Nat.le_refl _) _).alloc (by simp) _).alloc (by simp; omega) _).alloc (by simp; omega) _)
  have HB0 := Lib.hid hb0
  have HF0 := Lib.hid (al4_0 w (.cells #[.slice o f.nodes.length c, .int .i64 f.room] 34) (.cells #[.int .i64 u, .int .i64 g] 36) (.cells #[.slice none 0 0, .int .i64 0] 34) (.cells #[.int .i64 0] 3))
  have HC0 := Lib.hid (al4_1 w (.cells #[.slice o f.nodes.length c, .int .i64 f.room] 34) (.cells #[.int .i64 u, .int .i64 g] 36) (.cells #[.slice none 0 0, .int .i64 0] 34) (.cells #[.int .i64 0] 3))
  have HG0 := Lib.hid (al4_2 w (.cells #[.slice o f.nodes.length c, .int .i64 f.room] 34) (.cells #[.int .i64 u, .int .i64 g] 36) (.cells #[.slice none 0 0, .int .i64 0] 34) (.cells #[.int .i64 0] 3))
  have HN0 := Lib.hid (al4_3 w (.cells #[.slice o f.nodes.length c, .int .i64 f.room] 34) (.cells #[.int .i64 u, .int .i64 g] 36) (.cells #[.slice none 0 0, .int .i64 0] 34) (.cells #[.int .i64 0] 3))
  clear hs hE hk ht hchg hb0 hCO hz
  go_enter_defers Tryz.func69, Tryz.ntmps69
  go_wp2_with fail
  refine (canLook_is HK.out (HR.out.below HB0.out) HS.out).mono ?_
  rintro e w1 ⟨rfl, hb1⟩
  have HB1 := Lib.hid (HB0.out.trans (hb1.mono HB0.out.size))
  have HF1 := Lib.hid ((hb1.block _ (lt_of_heap HF0.out)).trans HF0.out)
  have HC1 := Lib.hid ((hb1.block _ (lt_of_heap HC0.out)).trans HC0.out)
  have HG1 := Lib.hid ((hb1.block _ (lt_of_heap HG0.out)).trans HG0.out)
  have HN1 := Lib.hid ((hb1.block _ (lt_of_heap HN0.out)).trans HN0.out)
  clear hb1
  go_wp2_with fail
  refine (isTime_any _ _).mono ?_
  rintro e w1b ⟨rfl, rfl⟩
  rw [HTM.out]
  have f10 : w1.cell? ⟨w.heap.size, 0, none⟩ = some (.slice o f.nodes.length c) := cell_blk HF1.out 0
  have f11 : w1.cell? ⟨w.heap.size, 1, none⟩ = some (.int .i64 f.room) := cell_blk HF1.out 1
  have c10 : w1.cell? ⟨w.heap.size + 1, 0, none⟩ = some (.int .i64 u) := cell_blk HC1.out 0
  have c11 : w1.cell? ⟨w.heap.size + 1, 1, none⟩ = some (.int .i64 g) := cell_blk HC1.out 1
  have hs4 : w.heap.size + 4 ≤ w1.heap.size := lt_of_heap HN1.out
  have f10z := fun oo => cell_more (o := oo) f10
  have f11z := fun oo => cell_more (o := oo) f11
  have c10z := fun oo => cell_more (o := oo) c10
  have c11z := fun oo => cell_more (o := oo) c11
  have HBX := Lib.hid HB1.out.drew
  have HBY := Lib.hid (HB1.out.alloc HB1.out.size (.cells #[.slice none 0 0, .int .i64 0, .int .i64 0, .int .i64 0, .int .i64 0] 150)).drew
  have HX : Hid (w1.heap.size ≤ w1.drew.heap.size ∧ ∀ i, i < w1.heap.size → w1.drew.heap[i]? = w1.heap[i]?) := Lib.hid ⟨Nat.le_refl _, fun _ _ => rfl⟩
  have HY : Hid (w1.heap.size ≤ (w1.alloc (.cells #[.slice none 0 0, .int .i64 0, .int .i64 0, .int .i64 0, .int .i64 0] 150)).drew.heap.size ∧ ∀ i, i < w1.heap.size → (w1.alloc (.cells #[.slice none 0 0, .int .i64 0, .int .i64 0, .int .i64 0, .int .i64 0] 150)).drew.heap[i]? = w1.heap[i]?) := Lib.hid ⟨by simp, fun i hi => Below.heap_alloc w1 _ i hi⟩
  have HYZ : Hid ((w1.alloc (.cells #[.slice none 0 0, .int .i64 0, .int .i64 0, .int .i64 0, .int .i64 0] 150)).drew.heap[w1.heap.size]? = some (.cells #[.slice none 0 0, .int .i64 0, .int .i64 0, .int .i64 0, .int .i64 0] 150)) := Lib.hid (heap_alloc_new w1 _)
  go_upto_region 3 with fail
  go_cut [11] from 23 to 27 (fun t11 wx => ∃ (d : Nat) (oo2 : Option Addr) (cc2 : Nat) (ps : List (Nod × Value)), t11 = .pointer (some ⟨d, 0, none⟩) ∧ w.heap.size + 4 ≤ d ∧ ps.map Prod.fst = f.nodes ∧ Own wx (w.heap.size + 4) (.slice oo2 ps.length cc2) ps ∧ wx.heap[d]? = some (.cells #[.slice oo2 ps.length cc2, .int .i64 f.room, .int .i64 u, .int .i64 g, .int .i64 t] 150) ∧ Below w.heap.size w wx ∧ (w1.heap.size ≤ wx.heap.size ∧ ∀ i, i < w1.heap.size → wx.heap[i]? = w1.heap[i]?))
  case first =>
    refine wp_region_noPanic ?_
    go_region_with
      (first
        | (go_at_call 101; (with_reducible refine (copyFs_any f _ _ (HR.out.below HBX.out) HS.out).mono ?_); rintro e w2 ⟨nv2, ps, rfl, hps, hO, hb2⟩; have HPS := Lib.hid hps; have HO2 := Lib.hid (hO.low (R := w.heap.size + 4) (Nat.le_trans hs4 HX.out.1)); obtain ⟨oo2, cc2, rfl, -⟩ := owns_form hO.row; have HB2 := Lib.hid (HBX.out.trans (hb2.mono HBX.out.size)); have HU2 : Hid (w1.heap.size ≤ w2.heap.size ∧ ∀ i, i < w1.heap.size → w2.heap[i]? = w1.heap[i]?) := Lib.hid ⟨Nat.le_trans HX.out.1 hb2.size, fun i hi => (hb2.block i (Nat.lt_of_lt_of_le hi HX.out.1)).trans (HX.out.2 i hi)⟩; have f20 : w2.cell? ⟨w.heap.size, 0, none⟩ = some (.slice o f.nodes.length c) := cell_blk ((HU2.out.2 _ (lt_of_heap HF1.out)).trans HF1.out) 0; have f21 : w2.cell? ⟨w.heap.size, 1, none⟩ = some (.int .i64 f.room) := cell_blk ((HU2.out.2 _ (lt_of_heap HF1.out)).trans HF1.out) 1; have c20 : w2.cell? ⟨w.heap.size + 1, 0, none⟩ = some (.int .i64 u) := cell_blk ((HU2.out.2 _ (lt_of_heap HC1.out)).trans HC1.out) 0; have c21 : w2.cell? ⟨w.heap.size + 1, 1, none⟩ = some (.int .i64 g) := cell_blk ((HU2.out.2 _ (lt_of_heap HC1.out)).trans HC1.out) 1; have f20z := fun oo => cell_more (o := oo) f20; have f21z := fun oo => cell_more (o := oo) f21; have c20z := fun oo => cell_more (o := oo) c20; have c21z := fun oo => cell_more (o := oo) c21; clear hps hO hb2)
        | (go_at_call 101; (with_reducible refine (copyFs_any f _ _ (HR.out.below HBY.out) HS.out).mono ?_); rintro e w2 ⟨nv2, ps, rfl, hps, hO, hb2⟩; have HPS := Lib.hid hps; have HO2 := Lib.hid (hO.low (R := w.heap.size + 4) (Nat.le_trans hs4 HY.out.1)); obtain ⟨oo2, cc2, rfl, -⟩ := owns_form hO.row; have HB2 := Lib.hid (HBY.out.trans (hb2.mono HBY.out.size)); have HU2 : Hid (w1.heap.size ≤ w2.heap.size ∧ ∀ i, i < w1.heap.size → w2.heap[i]? = w1.heap[i]?) := Lib.hid ⟨Nat.le_trans HY.out.1 hb2.size, fun i hi => (hb2.block i (Nat.lt_of_lt_of_le hi HY.out.1)).trans (HY.out.2 i hi)⟩; have HOB := Lib.hid (hO.low (R := w1.heap.size + 1) (by simp)); have HD2 := Lib.hid ((hb2.block _ (lt_of_heap HYZ.out)).trans HYZ.out); have y0 : w2.cell? ⟨w1.heap.size, 0, none⟩ = some (.slice none 0 0) := cell_blk HD2.out 0; have y1 : w2.cell? ⟨w1.heap.size, 1, none⟩ = some (.int .i64 0) := cell_blk HD2.out 1; have y2 : w2.cell? ⟨w1.heap.size, 2, none⟩ = some (.int .i64 0) := cell_blk HD2.out 2; have y3 : w2.cell? ⟨w1.heap.size, 3, none⟩ = some (.int .i64 0) := cell_blk HD2.out 3; have y4 : w2.cell? ⟨w1.heap.size, 4, none⟩ = some (.int .i64 0) := cell_blk HD2.out 4; have yf := frozen_blk HD2.out; have f20 : w2.cell? ⟨w.heap.size, 0, none⟩ = some (.slice o f.nodes.length c) := cell_blk ((HU2.out.2 _ (lt_of_heap HF1.out)).trans HF1.out) 0; have f21 : w2.cell? ⟨w.heap.size, 1, none⟩ = some (.int .i64 f.room) := cell_blk ((HU2.out.2 _ (lt_of_heap HF1.out)).trans HF1.out) 1; have c20 : w2.cell? ⟨w.heap.size + 1, 0, none⟩ = some (.int .i64 u) := cell_blk ((HU2.out.2 _ (lt_of_heap HC1.out)).trans HC1.out) 0; have c21 : w2.cell? ⟨w.heap.size + 1, 1, none⟩ = some (.int .i64 g) := cell_blk ((HU2.out.2 _ (lt_of_heap HC1.out)).trans HC1.out) 1; have f20z := fun oo => cell_more (o := oo) f20; have f21z := fun oo => cell_more (o := oo) f21; have c20z := fun oo => cell_more (o := oo) c20; have c21z := fun oo => cell_more (o := oo) c21; clear hps hO hb2))
    all_goals
      refine NoPanic.normal ?_
      go_wp2_with fail
      go_meet
      first
        | (have hx := HOB; exact ⟨w1.heap.size, oo2, cc2, ps, rfl, hs4, HPS.out, ((((((HOB.out.other (Nat.lt_succ_self _) _ _).other (Nat.lt_succ_self _) _ _).other (Nat.lt_succ_self _) _ _).other (Nat.lt_succ_self _) _ _).other (Nat.lt_succ_self _) _ _).low (Nat.le_succ_of_le hs4)), set_five HD2.out _ _ _ _ _, ((((HB2.out.setCell (p := ⟨w1.heap.size, 0, none⟩) HB1.out.size _).setCell (p := ⟨w1.heap.size, 1, none⟩) HB1.out.size _).setCell (p := ⟨w1.heap.size, 2, none⟩) HB1.out.size _).setCell (p := ⟨w1.heap.size, 3, none⟩) HB1.out.size _).setCell (p := ⟨w1.heap.size, 4, none⟩) HB1.out.size _, by simpa using HU2.out.1, fun i hi => (five_ne (Nat.ne_of_lt hi) _ _ _ _ _).trans (HU2.out.2 i hi)⟩)
        | exact ⟨w2.heap.size, oo2, cc2, ps, rfl, Nat.le_trans hs4 HU2.out.1, HPS.out, HO2.out.up fun i _ hi => Below.heap_alloc w2 _ i hi, heap_alloc_new w2 _, HB2.out.alloc HB2.out.size _, by simp only [World.size_alloc]; exact Nat.le_succ_of_le HU2.out.1, fun i hi => (Below.heap_alloc w2 _ i (Nat.lt_of_lt_of_le hi HU2.out.1)).trans (HU2.out.2 i hi)⟩
  case rest =>
    obtain ⟨d, oo2, cc2, ps, rfl, hd, hps, hO, hD, hB, hU⟩ := hcut
    have HU := Lib.hid hU
    have HB := Lib.hid hB
    clear f10z f11z c10z c11z HBX HBY HX HY HYZ f10 f11 c10 c11 hU
    go_wp2_with fail
    refine (HCH.out _ d (w.heap.size + 4) _ ps (by omega) hd hB hD hps hO).mono ?_
    rintro e w3 ⟨rfl, hb3, nv3, ps3, hD3, hO3⟩
    obtain ⟨oo3, cc3, rfl, -⟩ := owns_form hO3.row
    have HB3 : Hid (Below w.heap.size w w3) := Lib.hid (HB.out.trans (hb3.mono (by omega)))
    have HO3 := Lib.hid hO3
    have hu3 : ∀ i, i < w.heap.size + 4 → w3.heap[i]? = w1.heap[i]? := fun i hi => (hb3.block i hi).trans (HU.out.2 i (by omega))
    have HG3 : Hid (w3.heap[w.heap.size + 2]? = some (.cells #[.slice none 0 0, .int .i64 0] 34)) := Lib.hid ((hu3 _ (by omega)).trans HG1.out)
    have HN3 : Hid (w3.heap[w.heap.size + 3]? = some (.cells #[.int .i64 0] 3)) := Lib.hid ((hu3 _ (by omega)).trans HN1.out)
    have HF3 : Hid (w3.heap[w.heap.size]? = some (.cells #[.slice o f.nodes.length c, .int .i64 f.room] 34)) := Lib.hid ((hu3 _ (by omega)).trans HF1.out)
    have HD3 := Lib.hid hD3
    have x0 : w3.cell? ⟨d, 0, none⟩ = some (.slice oo3 ps3.length cc3) := cell_blk hD3 0
    have x1 : w3.cell? ⟨d, 1, none⟩ = some (.int .i64 f.room) := cell_blk hD3 1
    have g0 : w3.cell? ⟨w.heap.size + 2, 0, none⟩ = some (.slice none 0 0) := cell_blk HG3.out 0
    have g1 : w3.cell? ⟨w.heap.size + 2, 1, none⟩ = some (.int .i64 0) := cell_blk HG3.out 1
    have gf := frozen_blk HG3.out
    have n0 : w3.cell? ⟨w.heap.size + 3, 0, none⟩ = some (.int .i64 0) := cell_blk HN3.out 0
    have nf := frozen_blk HN3.out
    have hdl := lt_of_heap hD3
    clear hb3 hD3 hO3 hO hD hB hps hu3
    have HCO := HCOE
    have HBa := Lib.hid HB3.out.drew
    have HBb : Hid (Below w.heap.size w ((w3.setCell ⟨w.heap.size + 2, 0, none⟩ (.slice oo3 ps3.length cc3)).setCell ⟨w.heap.size + 2, 1, none⟩ (.int .i64 f.room)).drew) := Lib.hid ((HB3.out.setCell (p := ⟨w.heap.size + 2, 0, none⟩) (by simp only; omega) _).setCell (p := ⟨w.heap.size + 2, 1, none⟩) (by simp only; omega) _).drew
    have HEa := Lib.hid (HET.out.below HBa.out HET.out.1)
    have HEb := Lib.hid (HET.out.below HBb.out HET.out.1)
    have HUb : Hid (∀ i, w.heap.size + 4 ≤ i → i < w3.heap.size → ((w3.setCell ⟨w.heap.size + 2, 0, none⟩ (.slice oo3 ps3.length cc3)).setCell ⟨w.heap.size + 2, 1, none⟩ (.int .i64 f.room)).drew.heap[i]? = w3.heap[i]?) := Lib.hid (fun i h1 h2 => (Below.heap_setCell _ ⟨w.heap.size + 2, 1, none⟩ _ i (by simp only; omega)).trans (Below.heap_setCell _ ⟨w.heap.size + 2, 0, none⟩ _ i (by simp only; omega)))
    have HF3d : Hid (w3.drew.heap[w.heap.size]? = _) := Lib.hid HF3.out
    have HD3d : Hid (w3.drew.heap[d]? = _) := Lib.hid HD3.out
    have HG3d : Hid (w3.drew.heap[w.heap.size + 2]? = _) := Lib.hid HG3.out
    have HN3d : Hid (w3.drew.heap[w.heap.size + 3]? = _) := Lib.hid HN3.out
    have HG5 : Hid (((w3.setCell ⟨w.heap.size + 2, 0, none⟩ (.slice oo3 ps3.length cc3)).setCell ⟨w.heap.size + 2, 1, none⟩ (.int .i64 f.room)).drew.heap[w.heap.size + 2]? = some (.cells #[(.slice oo3 ps3.length cc3), .int .i64 f.room] 34)) := Lib.hid (set_two HG3.out _ _)
    have HF5 : Hid (((w3.setCell ⟨w.heap.size + 2, 0, none⟩ (.slice oo3 ps3.length cc3)).setCell ⟨w.heap.size + 2, 1, none⟩ (.int .i64 f.room)).drew.heap[w.heap.size]? = some (.cells #[.slice o f.nodes.length c, .int .i64 f.room] 34)) := Lib.hid ((Below.heap_setCell _ ⟨w.heap.size + 2, 1, none⟩ _ _ (by simp only; omega)).trans ((Below.heap_setCell _ ⟨w.heap.size + 2, 0, none⟩ _ _ (by simp only; omega)).trans HF3.out))
    have HN5 : Hid (((w3.setCell ⟨w.heap.size + 2, 0, none⟩ (.slice oo3 ps3.length cc3)).setCell ⟨w.heap.size + 2, 1, none⟩ (.int .i64 f.room)).drew.heap[w.heap.size + 3]? = some (.cells #[.int .i64 0] 3)) := Lib.hid ((Below.heap_setCell _ ⟨w.heap.size + 2, 1, none⟩ _ _ (by simp only; omega)).trans ((Below.heap_setCell _ ⟨w.heap.size + 2, 0, none⟩ _ _ (by simp only; omega)).trans HN3.out))
    go_upto_region 6 with fail
    go_cut [10] from 31 to 34 (fun t10 wx => t10 = .bool true ∧ wx.heap[w.heap.size + 2]? = some (.cells #[(.slice oo3 ps3.length cc3), .int .i64 f.room] 34) ∧ wx.heap[w.heap.size + 3]? = some (.cells #[.int .i64 cd] 3) ∧ wx.heap[w.heap.size]? = some (.cells #[.slice o f.nodes.length c, .int .i64 f.room] 34) ∧ Own wx (w.heap.size + 4) (.slice oo3 ps3.length cc3) ps3 ∧ Below w.heap.size w wx)
    case first =>
      refine wp_region_noPanic ?_
      go_region_with (first
        | (go_at_call 41; (with_reducible refine (HCO.out _ HEa.out).mono ?_); rintro e w4 ⟨rfl, hb4⟩; have HB4 := Lib.hid (HBa.out.trans (hb4.mono HBa.out.size)); have HO4 := Lib.hid ((HO3.out.up (w' := w3.drew) (fun _ _ _ => rfl)).below hb4); have HD4 := Lib.hid ((hb4.block _ (lt_of_heap HD3d.out)).trans HD3d.out); have HG4 := Lib.hid ((hb4.block _ (lt_of_heap HG3d.out)).trans HG3d.out); have HN4 := Lib.hid ((hb4.block _ (lt_of_heap HN3d.out)).trans HN3d.out); have HF4 := Lib.hid ((hb4.block _ (lt_of_heap HF3d.out)).trans HF3d.out); have g40 := cell_blk HG4.out 0; have g41 := cell_blk HG4.out 1; have g4f := frozen_blk HG4.out; have n40 := cell_blk HN4.out 0; have n4f := frozen_blk HN4.out; have d40 := cell_blk HD4.out 0; have d41 := cell_blk HD4.out 1; clear hb4)
        | (go_at_call 41; (with_reducible refine (HCO.out _ HEb.out).mono ?_); rintro e w4 ⟨rfl, hb4⟩; have HB4 := Lib.hid (HBb.out.trans (hb4.mono HBb.out.size)); have HO4 := Lib.hid ((HO3.out.up (w' := ((w3.setCell ⟨w.heap.size + 2, 0, none⟩ (.slice oo3 ps3.length cc3)).setCell ⟨w.heap.size + 2, 1, none⟩ (.int .i64 f.room)).drew) HUb.out).below hb4); have HG4 := Lib.hid ((hb4.block _ (lt_of_heap HG5.out)).trans HG5.out); have HN4 := Lib.hid ((hb4.block _ (lt_of_heap HN5.out)).trans HN5.out); have HF4 := Lib.hid ((hb4.block _ (lt_of_heap HF5.out)).trans HF5.out); have n40 := cell_blk HN4.out 0; have n4f := frozen_blk HN4.out; clear hb4))
      all_goals
        refine NoPanic.normal ?_
        go_wp2_with fail
        go_meet
        first
          | exact ⟨rfl, (Below.heap_setCell _ ⟨w.heap.size + 3, 0, none⟩ _ _ (by simp only; omega)).trans (set_two HG4.out _ _), set_one ((Below.heap_setCell _ ⟨w.heap.size + 2, 1, none⟩ _ _ (by simp only; omega)).trans ((Below.heap_setCell _ ⟨w.heap.size + 2, 0, none⟩ _ _ (by simp only; omega)).trans HN4.out)) _, (Below.heap_setCell _ ⟨w.heap.size + 3, 0, none⟩ _ _ (by simp only; omega)).trans ((Below.heap_setCell _ ⟨w.heap.size + 2, 1, none⟩ _ _ (by simp only; omega)).trans ((Below.heap_setCell _ ⟨w.heap.size + 2, 0, none⟩ _ _ (by simp only; omega)).trans HF4.out)), ((HO4.out.other (by omega) _ _).other (by omega) _ _).other (by omega) _ _, ((HB4.out.setCell (p := ⟨w.heap.size + 2, 0, none⟩) (by simp only; omega) _).setCell (p := ⟨w.heap.size + 2, 1, none⟩) (by simp only; omega) _).setCell (p := ⟨w.heap.size + 3, 0, none⟩) (by simp only; omega) _⟩
          | exact ⟨rfl, set_two ((Below.heap_setCell _ ⟨w.heap.size + 3, 0, none⟩ _ _ (by simp only; omega)).trans HG4.out) _ _, (Below.heap_setCell _ ⟨w.heap.size + 2, 1, none⟩ _ _ (by simp only; omega)).trans ((Below.heap_setCell _ ⟨w.heap.size + 2, 0, none⟩ _ _ (by simp only; omega)).trans (set_one HN4.out _)), (Below.heap_setCell _ ⟨w.heap.size + 2, 1, none⟩ _ _ (by simp only; omega)).trans ((Below.heap_setCell _ ⟨w.heap.size + 2, 0, none⟩ _ _ (by simp only; omega)).trans ((Below.heap_setCell _ ⟨w.heap.size + 3, 0, none⟩ _ _ (by simp only; omega)).trans HF4.out)), ((HO4.out.other (by omega) _ _).other (by omega) _ _).other (by omega) _ _, ((HB4.out.setCell (p := ⟨w.heap.size + 3, 0, none⟩) (by simp only; omega) _).setCell (p := ⟨w.heap.size + 2, 0, none⟩) (by simp only; omega) _).setCell (p := ⟨w.heap.size + 2, 1, none⟩) (by simp only; omega) _⟩
          | exact ⟨rfl, (Below.heap_setCell _ ⟨w.heap.size + 3, 0, none⟩ _ _ (by simp only; omega)).trans HG4.out, set_one HN4.out _, (Below.heap_setCell _ ⟨w.heap.size + 3, 0, none⟩ _ _ (by simp only; omega)).trans HF4.out, HO4.out.other (by omega) _ _, HB4.out.setCell (p := ⟨w.heap.size + 3, 0, none⟩) (by simp only; omega) _⟩
    case rest =>
      obtain ⟨rfl, hg9, hn9, hf9, hO9, hB9⟩ := hcut
      have r0 : wc.cell? ⟨w.heap.size + 2, 0, none⟩ = some (Value.slice oo3 ps3.length cc3) := cell_blk hg9 0
      have r1 : wc.cell? ⟨w.heap.size + 2, 1, none⟩ = some (Value.int .i64 f.room) := cell_blk hg9 1
      have r2 : wc.cell? ⟨w.heap.size + 3, 0, none⟩ = some (Value.int .i64 cd) := cell_blk hn9 0
      have HO9 := Lib.hid hO9
      have HB9 := Lib.hid hB9
      have HN9 := Lib.hid hn9
      have HG9 := Lib.hid hg9
      have HF9 := Lib.hid hf9
      clear hg9 hn9 hO9 hB9 hf9 x0 x1 g0 g1 gf n0 nf
      go_wp2
      refine leaves_cons (f := 102) (args := #[.pointer (some ⟨w.heap.size + 3, 0, none⟩), .pointer (some ⟨w.heap.size, 0, none⟩), .pointer (some ⟨w.heap.size + 2, 0, none⟩)]) (by simp) (by simp [go_sem]) ?_
      refine (undo_done (w.heap.size + 3) w.heap.size (w.heap.size + 2) cd f _ _ _ 0 .returning _ HZ.out HN9.out HF9.out HG9.out (HR.out.below HB9.out) HS.out).mono ?_
      rintro e u' w'' ⟨rfl, rfl, nv8, ps8, w8, hps8, hO8, hb8, rfl⟩
      have hl8 := HB9.out.size
      have hlc := lt_of_heap HN9.out
      have hg8 := set_two ((hb8.block _ (lt_of_heap HG9.out)).trans HG9.out) nv8 (.int .i64 f.room)
      have hn8 := (Below.heap_setCell (w8.setCell ⟨w.heap.size + 2, 0, none⟩ nv8) ⟨w.heap.size + 2, 1, none⟩ (.int .i64 f.room) (w.heap.size + 3) (by simp only; omega)).trans ((Below.heap_setCell w8 ⟨w.heap.size + 2, 0, none⟩ nv8 (w.heap.size + 3) (by simp only; omega)).trans ((hb8.block _ (lt_of_heap HN9.out)).trans HN9.out))
      have q0 := (cell_blk hg8 0).trans rfl
      have q1 := (cell_blk hg8 1).trans rfl
      have q2 := (cell_blk hn8 0).trans rfl
      refine ⟨.tuple #[.agg #[nv8, .int .i64 f.room], .int .i64 cd, .bool true], by simp [results, Tryz.results69, go_sem, q0, q1, q2], _, ps8, rfl, hps8, ((hO8.other (by omega) _ _).other (by omega) _ _).low (by omega), ((HB9.out.trans (hb8.mono HB9.out.size)).setCell (p := ⟨w.heap.size + 2, 0, none⟩) (by simp only; omega) _).setCell (p := ⟨w.heap.size + 2, 1, none⟩) (by simp only; omega) _⟩

set_option maxHeartbeats 4000000 in
theorem tryOn_no (f : FsD) (v : Value) (u g t : Int) (j : FuncId) (cap : Array Value) (w : World) (hR : FsA w v f) (hs : szF f ≤ 1048576) (hk : (askB4 f u g && inB 0 1000000 t) = false) :
    Calls Tryz.prog 69 #[v, .agg #[.int .i64 u, .int .i64 g], .int .i64 t, .func (.func j) #[] cap] w fun e w' => e = .returned (.tuple #[.agg #[.slice none 0 0, .int .i64 0], .int .i64 0, .bool false]) ∧ Below w.heap.size w w' := by
  have HR := Lib.hid hR
  obtain ⟨nv0, rfl, hN⟩ := hR
  obtain ⟨o, c, rfl, -, -⟩ := hN
  have HS := Lib.hid hs
  have hb0 : Below w.heap.size w ((((w.alloc (.cells #[.slice o f.nodes.length c, .int .i64 f.room] 34)).alloc (.cells #[.int .i64 u, .int .i64 g] 36)).alloc (.cells #[.slice none 0 0, .int .i64 0] 34)).alloc (.cells #[.int .i64 0] 3)) := (((((Below.refl _ _).alloc (Nat.le_refl _) _).alloc (by simp) _).alloc (by simp; omega) _).alloc (by simp; omega) _)
  have HB0 := Lib.hid hb0
  have HG0 := Lib.hid (al4_2 w (.cells #[.slice o f.nodes.length c, .int .i64 f.room] 34) (.cells #[.int .i64 u, .int .i64 g] 36) (.cells #[.slice none 0 0, .int .i64 0] 34) (.cells #[.int .i64 0] 3))
  have HN0 := Lib.hid (al4_3 w (.cells #[.slice o f.nodes.length c, .int .i64 f.room] 34) (.cells #[.int .i64 u, .int .i64 g] 36) (.cells #[.slice none 0 0, .int .i64 0] 34) (.cells #[.int .i64 0] 3))
  cases hq : askB4 f u g with
  | false =>
    have HK := Lib.hid hq
    clear hs hk hb0 hq
    go_enter_defers Tryz.func69, Tryz.ntmps69
    go_wp2_with fail
    refine (canLook_is HK.out (HR.out.below HB0.out) HS.out).mono ?_
    rintro e w1 ⟨rfl, hb1⟩
    have HB1 := Lib.hid (HB0.out.trans (hb1.mono HB0.out.size))
    have HG1 := Lib.hid ((hb1.block _ (lt_of_heap HG0.out)).trans HG0.out)
    have HN1 := Lib.hid ((hb1.block _ (lt_of_heap HN0.out)).trans HN0.out)
    have g0 := (cell_blk HG1.out 0).trans rfl
    have g1 := (cell_blk HG1.out 1).trans rfl
    have gf := frozen_blk HG1.out
    have n0 := (cell_blk HN1.out 0).trans rfl
    have nf := frozen_blk HN1.out
    have hg2 := set_two HG1.out (.slice none 0 0) (.int .i64 0)
    have hn2 := set_one ((Below.heap_setCell _ ⟨w.heap.size + 2, 1, none⟩ (.int .i64 0) (w.heap.size + 3) (by simp only; omega)).trans ((Below.heap_setCell _ ⟨w.heap.size + 2, 0, none⟩ (.slice none 0 0) (w.heap.size + 3) (by simp only; omega)).trans HN1.out)) (.int .i64 0)
    have hg3 := (Below.heap_setCell ((w1.setCell ⟨w.heap.size + 2, 0, none⟩ (.slice none 0 0)).setCell ⟨w.heap.size + 2, 1, none⟩ (.int .i64 0)) ⟨w.heap.size + 3, 0, none⟩ (.int .i64 0) (w.heap.size + 2) (by simp only; omega)).trans hg2
    have r0 := (cell_blk hg3 0).trans rfl
    have r1 := (cell_blk hg3 1).trans rfl
    have r2 := (cell_blk hn2 0).trans rfl
    clear hb1 hg2 hg3 hn2
    go_wp2
    exact ⟨.tuple #[.agg #[.slice none 0 0, .int .i64 0], .int .i64 0, .bool false], by simp [results, Tryz.results69, go_sem, r0, r1, r2], rfl, ((HB1.out.setCell (p := ⟨w.heap.size + 2, 0, none⟩) (by simp only; omega) _).setCell (p := ⟨w.heap.size + 2, 1, none⟩) (by simp only; omega) _).setCell (p := ⟨w.heap.size + 3, 0, none⟩) (by simp only; omega) _⟩
  | true =>
    have HK := Lib.hid hq
    have HTM : Hid (inB 0 1000000 t = false) := Lib.hid (by rw [hq] at hk; simpa using hk)
    clear hs hk hb0 hq
    go_enter_defers Tryz.func69, Tryz.ntmps69
    go_wp2_with fail
    refine (canLook_is HK.out (HR.out.below HB0.out) HS.out).mono ?_
    rintro e w1 ⟨rfl, hb1⟩
    have HB1 := Lib.hid (HB0.out.trans (hb1.mono HB0.out.size))
    have HG1 := Lib.hid ((hb1.block _ (lt_of_heap HG0.out)).trans HG0.out)
    have HN1 := Lib.hid ((hb1.block _ (lt_of_heap HN0.out)).trans HN0.out)
    go_wp2_with fail
    refine (isTime_any _ _).mono ?_
    rintro e w1b ⟨rfl, rfl⟩
    rw [HTM.out]
    have g0 := (cell_blk HG1.out 0).trans rfl
    have g1 := (cell_blk HG1.out 1).trans rfl
    have gf := frozen_blk HG1.out
    have n0 := (cell_blk HN1.out 0).trans rfl
    have nf := frozen_blk HN1.out
    have hg2 := set_two HG1.out (.slice none 0 0) (.int .i64 0)
    have hn2 := set_one ((Below.heap_setCell _ ⟨w.heap.size + 2, 1, none⟩ (.int .i64 0) (w.heap.size + 3) (by simp only; omega)).trans ((Below.heap_setCell _ ⟨w.heap.size + 2, 0, none⟩ (.slice none 0 0) (w.heap.size + 3) (by simp only; omega)).trans HN1.out)) (.int .i64 0)
    have hg3 := (Below.heap_setCell ((w1.setCell ⟨w.heap.size + 2, 0, none⟩ (.slice none 0 0)).setCell ⟨w.heap.size + 2, 1, none⟩ (.int .i64 0)) ⟨w.heap.size + 3, 0, none⟩ (.int .i64 0) (w.heap.size + 2) (by simp only; omega)).trans hg2
    have r0 := (cell_blk hg3 0).trans rfl
    have r1 := (cell_blk hg3 1).trans rfl
    have r2 := (cell_blk hn2 0).trans rfl
    clear hb1 hg2 hg3 hn2
    go_wp2
    exact ⟨.tuple #[.agg #[.slice none 0 0, .int .i64 0], .int .i64 0, .bool false], by simp [results, Tryz.results69, go_sem, r0, r1, r2], rfl, ((HB1.out.setCell (p := ⟨w.heap.size + 2, 0, none⟩) (by simp only; omega) _).setCell (p := ⟨w.heap.size + 2, 1, none⟩) (by simp only; omega) _).setCell (p := ⟨w.heap.size + 3, 0, none⟩) (by simp only; omega) _⟩
end Go.Proofs.YtpkmkpeabfmbiaaGreatDoor


/-
  The program's setAt and setAsOwner with their closures; SetMode and SetTime.
  Conditions: at most 2^20 values and letters together; a text of at most 2^20 bytes; the variable errors.errorType as the program's text lays it.
-/
namespace Go.Proofs.YtpkmkpeabfmbiaaGreatDoor
open Go.ChangeShapes Go.WideShapes Go.ChangeAt Go.RowKit Go.Joins Go.Shelf
set_option linter.unusedVariables false
set_option linter.unusedSimpArgs false

/-- What a closure makes of one node: an error, a node turned. -/
def SetSays (w0 : World) (j : FuncId) (cap : Array Value) (nd : Nat) (nq q : Nod) (E : Value) : Prop := ∀ (w1 : World) (R g cc : Nat) (ps : List (Nod × Value)), Below w0.heap.size w0 w1 → w0.heap.size ≤ R → Own w1 R (.slice (some ⟨g, 0, none⟩) ps.length cc) ps → (hnd : nd < ps.length) → ps[nd].1 = nq →
  Calls Tryz.prog j (#[.pointer (some ⟨g, nd * 7, none⟩)] ++ cap) w1 fun e w' => e = .returned E ∧ Below R w1 w' ∧ (∀ i, i ≠ g → i < w1.heap.size → w'.heap[i]? = w1.heap[i]?) ∧ Own w' R (.slice (some ⟨g, 0, none⟩) ps.length cc) (ps.set nd (q, (ps[nd]).2))
theorem SetSays.later {w0 w2 : World} {j : FuncId} {cap : Array Value} {nd : Nat} {nq q : Nod} {E : Value} (h : SetSays w0 j cap nd nq q E) (hb : Below w0.heap.size w0 w2) : SetSays w2 j cap nd nq q E :=
  fun w1 R g cc ps h1 h2 h3 h4 h5 => h w1 R g cc ps (bel_step hb h1) (Nat.le_trans hb.size h2) h3 h4 h5

set_option maxHeartbeats 1000000 in
theorem setMode1_says (w0 : World) (mb : Nat) (md : Int) (hm : w0.heap[mb]? = some (.cells #[.int .i64 md] 3)) (nd : Nat) (nq : Nod) : SetSays w0 55 #[.pointer (some ⟨mb, 0, none⟩)] nd nq { nq with mode := md } (.tuple #[]) := by
  intro w1 R g cc ps hb hR hO hnd hq
  have c0 : w1.cell? ⟨mb, 0, none⟩ = some (.int .i64 md) := cell_blk (blk_step hb hm) 0
  obtain ⟨g9, cap9, e9, hRg, hgl, hn9, hm9, hc9, hfr9⟩ := hO.at hnd
  simp only [Value.slice.injEq, Option.some.injEq, Addr.mk.injEq, and_true, true_and] at e9
  obtain ⟨rfl, rfl⟩ := e9
  have HW := Lib.hid (hO.turn hnd (show 1 < 7 by decide) (.int .i64 md) { ps[nd].1 with mode := md } rfl rfl)
  have x9 := hc9.c1
  have HB : Hid (Below R w1 (w1.setCell ⟨g, nd * 7 + 1, none⟩ (.int .i64 md))) := Lib.hid ((Below.refl _ _).setCell (p := ⟨g, nd * 7 + 1, none⟩) hRg _)
  have HQ := Lib.hid hq
  clear hb hO hc9 hq
  show Calls _ _ #[_, _] _ _
  go_enter Tryz.func55, Tryz.ntmps55
  go_wp2
  go_end0
  refine ⟨rfl, HB.out, fun i h1 h2 => Below.heap_setCell w1 ⟨g, nd * 7 + 1, none⟩ _ i (by simp only; omega), ?_⟩
  rw [← HQ.out]
  exact HW.out
set_option maxHeartbeats 1000000 in
theorem setTime1_says (w0 : World) (mb : Nat) (md : Int) (hm : w0.heap[mb]? = some (.cells #[.int .i64 md] 3)) (nd : Nat) (nq : Nod) : SetSays w0 59 #[.pointer (some ⟨mb, 0, none⟩)] nd nq { nq with time := md } (.tuple #[]) := by
  intro w1 R g cc ps hb hR hO hnd hq
  have c0 : w1.cell? ⟨mb, 0, none⟩ = some (.int .i64 md) := cell_blk (blk_step hb hm) 0
  obtain ⟨g9, cap9, e9, hRg, hgl, hn9, hm9, hc9, hfr9⟩ := hO.at hnd
  simp only [Value.slice.injEq, Option.some.injEq, Addr.mk.injEq, and_true, true_and] at e9
  obtain ⟨rfl, rfl⟩ := e9
  have HW := Lib.hid (hO.turn hnd (show 4 < 7 by decide) (.int .i64 md) { ps[nd].1 with time := md } rfl rfl)
  have x9 := hc9.c4
  have HB : Hid (Below R w1 (w1.setCell ⟨g, nd * 7 + 4, none⟩ (.int .i64 md))) := Lib.hid ((Below.refl _ _).setCell (p := ⟨g, nd * 7 + 4, none⟩) hRg _)
  have HQ := Lib.hid hq
  clear hb hO hc9 hq
  show Calls _ _ #[_, _] _ _
  go_enter Tryz.func59, Tryz.ntmps59
  go_wp2
  go_end0
  refine ⟨rfl, HB.out, fun i h1 h2 => Below.heap_setCell w1 ⟨g, nd * 7 + 4, none⟩ _ i (by simp only; omega), ?_⟩
  rw [← HQ.out]
  exact HW.out

theorem set_self {ps : List (Nod × Value)} {nd : Nat} (h : nd < ps.length) {nq : Nod} (hq : ps[nd].1 = nq) : ps.set nd (nq, (ps[nd]).2) = ps := by
  subst hq
  exact List.set_getElem_self h
set_option maxHeartbeats 4000000 in
/-- Who is no owner is told so. -/
theorem setAsOwner1_no (w0 : World) (cb sb : Nat) (u g : Int) (fv : Value) (hC : w0.heap[cb]? = some (.cells #[.int .i64 u, .int .i64 g] 36)) (nd : Nat) (nq : Nod) (h1 : u ≠ 0) (h2 : u ≠ nq.uid) : SetSays w0 97 #[.pointer (some ⟨cb, 0, none⟩), .pointer (some ⟨sb, 0, none⟩)] nd nq nq (errC 4) := by
  intro w1 R gg cc ps hb hR hO hnd hq
  have c0 : w1.cell? ⟨cb, 0, none⟩ = some (.int .i64 u) := cell_blk (blk_step hb hC) 0
  obtain ⟨g9, cap9, e9, hRg, hgl, hn9, hm9, hc9, hfr9⟩ := hO.at hnd
  simp only [Value.slice.injEq, Option.some.injEq, Addr.mk.injEq, and_true, true_and] at e9
  obtain ⟨rfl, rfl⟩ := e9
  have x9 := hc9.c2
  rw [hq] at x9
  have HS : Hid (ps.set nd (nq, (ps[nd]).2) = ps) := Lib.hid (set_self hnd hq)
  have HO := Lib.hid hO
  have hub1 : (u != 0) = true := by rw [bne_iff_ne]; exact h1
  have hub2 : (u != nq.uid) = true := by rw [bne_iff_ne]; exact h2
  clear hb hO hc9 hq h1 h2
  show Calls _ _ #[_, _, _] _ _
  go_enter Tryz.func97, Tryz.ntmps97
  go_wp2
  have z1 := fun d os => cell_regrown (w := w1) c0 d os
  have z2 := fun d os => cell_regrown (w := w1) x9 d os
  refine wp_region_quiet_below (by kernel_rfl) (by kernel_rfl) ?_
  repeat (first | go_big_quiet_step (fail) | quiet_step (fail))
  refine wpQuiet_nil ?_
  intro w5 hwq
  have hb5 : Below w1.heap.size w1 w5 := by obtain ⟨pp, rfl⟩ := hwq; exact below_regrown _ _ _
  have HB5 := Lib.hid hb5
  clear hwq hb5 z1 z2
  go_wp2
  go_ret
  exact ⟨rfl, HB5.out.mono (Nat.le_trans hRg (Nat.le_of_lt hgl)), fun i _ h => HB5.out.block i h, by rw [HS.out]; exact HO.out.below HB5.out⟩
set_option maxHeartbeats 4000000 in
theorem setAsOwner1_yes (w0 : World) (cb sb : Nat) (u g : Int) (j2 : FuncId) (cap2 : Array Value) (hC : w0.heap[cb]? = some (.cells #[.int .i64 u, .int .i64 g] 36)) (hS : w0.heap[sb]? = some (.cells #[.func (.func j2) #[] cap2] 94)) (nd : Nat) (nq q : Nod) (hu : u = 0 ∨ u = nq.uid)
    (hcf : ∀ args w, (callFunc j2 args).run Tryz.prog w = .ok (.enter j2 args) w) (hset : SetSays w0 j2 cap2 nd nq q (.tuple #[])) : SetSays w0 97 #[.pointer (some ⟨cb, 0, none⟩), .pointer (some ⟨sb, 0, none⟩)] nd nq q .nilIface := by
  intro w1 R gg cc ps hb hR hO hnd hq
  have c0 : w1.cell? ⟨cb, 0, none⟩ = some (.int .i64 u) := cell_blk (blk_step hb hC) 0
  have HSB := Lib.hid (blk_step hb hS)
  obtain ⟨g9, cap9, e9, hRg, hgl, hn9, hm9, hc9, hfr9⟩ := hO.at hnd
  simp only [Value.slice.injEq, Option.some.injEq, Addr.mk.injEq, and_true, true_and] at e9
  obtain ⟨rfl, rfl⟩ := e9
  have x9 := hc9.c2
  rw [hq] at x9
  have HQ := Lib.hid hq
  have HO := Lib.hid hO
  have HB := Lib.hid hb
  have HST := Lib.hid hset
  by_cases h0 : u = 0
  · have hub1 : (u != 0) = false := by rw [h0]; rfl
    clear hb hO hc9 hq hset hu h0 x9
    show Calls _ _ #[_, _, _] _ _
    go_enter Tryz.func97, Tryz.ntmps97
    go_wp2
    have z1 := fun d os => cell_regrown (w := w1) c0 d os
    refine wp_region_quiet_below (by kernel_rfl) (by kernel_rfl) ?_
    repeat (first | go_big_quiet_step (fail) | quiet_step (fail))
    refine wpQuiet_nil ?_
    intro w5 hwq
    have hb5 : Below w1.heap.size w1 w5 := by obtain ⟨pp, rfl⟩ := hwq; exact below_regrown _ _ _
    have HB5 := Lib.hid hb5
    have s0 : w5.cell? ⟨sb, 0, none⟩ = some (.func (.func j2) #[] cap2) := cell_blk (blk_step hb5 HSB.out) 0
    clear hwq hb5 z1 c0
    go_wp2_with fail
    refine (HST.out w5 R gg cc ps (bel_step HB.out HB5.out) hR (HO.out.below HB5.out) hnd HQ.out).mono ?_
    rintro e w6 ⟨rfl, hb6, hu6, hO6⟩
    have HB6 := Lib.hid hb6
    have HU6 := Lib.hid hu6
    have HO6 := Lib.hid hO6
    clear hb6 hu6 hO6 s0
    go_wp2
    go_ret
    exact ⟨rfl, (HB5.out.mono (Nat.le_trans hRg (Nat.le_of_lt hgl))).trans HB6.out, fun i h1 h2 => (HU6.out i h1 (Nat.lt_of_lt_of_le h2 HB5.out.size)).trans (HB5.out.block i h2), HO6.out⟩
  · have h2 : u = nq.uid := by rcases hu with h | h; exact absurd h h0; exact h
    have hub1 : (u != 0) = true := by rw [bne_iff_ne]; exact h0
    have hub2 : (u != nq.uid) = false := by rw [bne_eq_false_iff_eq]; exact h2
    clear hb hO hc9 hq hset hu h0 h2
    show Calls _ _ #[_, _, _] _ _
    go_enter Tryz.func97, Tryz.ntmps97
    go_wp2
    have z1 := fun d os => cell_regrown (w := w1) c0 d os
    have z2 := fun d os => cell_regrown (w := w1) x9 d os
    refine wp_region_quiet_below (by kernel_rfl) (by kernel_rfl) ?_
    repeat (first | go_big_quiet_step (fail) | quiet_step (fail))
    refine wpQuiet_nil ?_
    intro w5 hwq
    have hb5 : Below w1.heap.size w1 w5 := by obtain ⟨pp, rfl⟩ := hwq; exact below_regrown _ _ _
    have HB5 := Lib.hid hb5
    have s0 : w5.cell? ⟨sb, 0, none⟩ = some (.func (.func j2) #[] cap2) := cell_blk (blk_step hb5 HSB.out) 0
    clear hwq hb5 z1 z2 c0 x9
    go_wp2_with fail
    refine (HST.out w5 R gg cc ps (bel_step HB.out HB5.out) hR (HO.out.below HB5.out) hnd HQ.out).mono ?_
    rintro e w6 ⟨rfl, hb6, hu6, hO6⟩
    have HB6 := Lib.hid hb6
    have HU6 := Lib.hid hu6
    have HO6 := Lib.hid hO6
    clear hb6 hu6 hO6 s0
    go_wp2
    go_ret
    exact ⟨rfl, (HB5.out.mono (Nat.le_trans hRg (Nat.le_of_lt hgl))).trans HB6.out, fun i h1 h2 => (HU6.out i h1 (Nat.lt_of_lt_of_le h2 HB5.out.size)).trans (HB5.out.block i h2), HO6.out⟩

/-- The boxes that setAt's closure holds. -/
structure SetBox (w : World) (cb pb fb sb : Nat) (u g : Int) (s : ByteArray) (fol : Bool) (fv : Value) : Prop where
  c : w.heap[cb]? = some (.cells #[.int .i64 u, .int .i64 g] 36)
  p : w.heap[pb]? = some (.cells #[.string s] 9)
  f : w.heap[fb]? = some (.cells #[.bool fol] 4)
  s : w.heap[sb]? = some (.cells #[fv] 101)
theorem SetBox.below {w w' : World} {cb pb fb sb : Nat} {u g : Int} {s : ByteArray} {fol : Bool} {fv : Value} (h : SetBox w cb pb fb sb u g s fol fv) (hb : Below w.heap.size w w') : SetBox w' cb pb fb sb u g s fol fv := ⟨blk_step hb h.c, blk_step hb h.p, blk_step hb h.f, blk_step hb h.s⟩
end Go.Proofs.YtpkmkpeabfmbiaaGreatDoor
