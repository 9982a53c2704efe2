/-
  Joined: TryC TryD.
  Conditions: as each states.
-/
import Derived.Test.YtjomkjnpflebaaaGreatDoorLib15

/-
  The contract of impl.tryOn where the change tells a fault (the file system anew), and where the arguments are not as asked (the zero answer).
  Conditions: at most 2^20 values and letters together; the variable errors.errorType as the program's text lays it.
-/
namespace Go.Proofs.YtjomkjnpflebaaaGreatDoor
open Go.ChangeShapes Go.WideShapes Go.ChangeAt Go.RowKit Go.Joins
set_option linter.unusedVariables false
set_option linter.unusedSimpArgs false

set_option maxRecDepth 100000 in
set_option maxHeartbeats 16000000 in
theorem tryOn_bad (f : FsD) (E : Value) (cd : Int) (hz : cd ≠ 0) (hCO : ∀ W, ErrT W → Calls Tryz.prog 76 #[E] W fun e w' => e = .returned (.int .i64 cd) ∧ Below W.heap.size W w') (v : Value) (u g t : Int) (j : FuncId) (cap : Array Value) (w : World) (hR : FsA w v f) (hs : szF f ≤ 1048576) (hE : ErrT w) (hk : askB4 f u g = true) (ht : inB 0 1000000 t = true)
    (hcf : ∀ args w, (callFunc j args).run Tryz.prog w = .ok (.enter j args) w)
    (hchg : ∀ (w1 : World) (d R : Nat) (nv : Value) (ps : List (Nod × Value)), w.heap.size ≤ R → R ≤ d → Below w.heap.size w w1 → w1.heap[d]? = some (.cells #[nv, .int .i64 f.room, .int .i64 u, .int .i64 g, .int .i64 t] 89) → ps.map Prod.fst = f.nodes → Own w1 R nv ps →
      Calls Tryz.prog j (#[.pointer (some ⟨d, 0, none⟩)] ++ cap) w1 fun e w' => e = .returned E ∧ Below R w1 w' ∧ ∃ nv2 ps2, w'.heap[d]? = some (.cells #[nv2, .int .i64 f.room, .int .i64 u, .int .i64 g, .int .i64 t] 89) ∧ Own w' R nv2 ps2) :
    Calls Tryz.prog 42 #[v, .agg #[.int .i64 u, .int .i64 g], .int .i64 t, .func (.func j) #[] cap] w fun e w' => ∃ nv ps, e = .returned (.tuple #[.agg #[nv, .int .i64 f.room], .int .i64 cd, .bool true]) ∧ ps.map Prod.fst = f.nodes ∧ Own w' w.heap.size nv ps ∧ Below w.heap.size w w' := by
  have hmf : ∀ (fn : Fn) (first cap : Array Value) (w : World), (Instr.makeFunc fn first cap).run Tryz.prog w = .ok (.func fn first cap) w := fun _ _ _ _ => rfl
  have HR := Lib.hid hR
  have HCOE := Lib.hid hCO
  have HZ := Lib.hid hz
  obtain ⟨nv0, rfl, hN⟩ := hR
  obtain ⟨o, c, rfl, -, -⟩ := hN
  have HS := Lib.hid hs
  have HET := Lib.hid hE
  have HK := Lib.hid hk
  have HTM := Lib.hid ht
  have HCH := Lib.hid hchg
  have hb0 : Below w.heap.size w ((((w.alloc (.cells #[.slice o f.nodes.length c, .int .i64 f.room] 30)).alloc (.cells #[.int .i64 u, .int .i64 g] 34)).alloc (.cells #[.slice none 0 0, .int .i64 0] 30)).alloc (.cells #[.int .i64 0] 3)) := (((((Below.refl _ _).alloc (Nat.le_refl _) _).alloc (by simp) _).alloc (by simp; omega) _).alloc (by simp; omega) _)
  have HB0 := Lib.hid hb0
  have HF0 := Lib.hid (al4_0 w (.cells #[.slice o f.nodes.length c, .int .i64 f.room] 30) (.cells #[.int .i64 u, .int .i64 g] 34) (.cells #[.slice none 0 0, .int .i64 0] 30) (.cells #[.int .i64 0] 3))
  have HC0 := Lib.hid (al4_1 w (.cells #[.slice o f.nodes.length c, .int .i64 f.room] 30) (.cells #[.int .i64 u, .int .i64 g] 34) (.cells #[.slice none 0 0, .int .i64 0] 30) (.cells #[.int .i64 0] 3))
  have HG0 := Lib.hid (al4_2 w (.cells #[.slice o f.nodes.length c, .int .i64 f.room] 30) (.cells #[.int .i64 u, .int .i64 g] 34) (.cells #[.slice none 0 0, .int .i64 0] 30) (.cells #[.int .i64 0] 3))
  have HN0 := Lib.hid (al4_3 w (.cells #[.slice o f.nodes.length c, .int .i64 f.room] 30) (.cells #[.int .i64 u, .int .i64 g] 34) (.cells #[.slice none 0 0, .int .i64 0] 30) (.cells #[.int .i64 0] 3))
  clear hs hE hk ht hchg hb0 hCO hz
  go_enter_defers Tryz.func42, Tryz.ntmps42
  go_wp2_with fail
  refine (canLook_is HK.out (HR.out.below HB0.out) HS.out).mono ?_
  rintro e w1 ⟨rfl, hb1⟩
  have HB1 := Lib.hid (HB0.out.trans (hb1.mono HB0.out.size))
  have HF1 := Lib.hid ((hb1.block _ (lt_of_heap HF0.out)).trans HF0.out)
  have HC1 := Lib.hid ((hb1.block _ (lt_of_heap HC0.out)).trans HC0.out)
  have HG1 := Lib.hid ((hb1.block _ (lt_of_heap HG0.out)).trans HG0.out)
  have HN1 := Lib.hid ((hb1.block _ (lt_of_heap HN0.out)).trans HN0.out)
  clear hb1
  go_wp2_with fail
  refine (isTime_any _ _).mono ?_
  rintro e w1b ⟨rfl, rfl⟩
  rw [HTM.out]
  have f10 : w1.cell? ⟨w.heap.size, 0, none⟩ = some (.slice o f.nodes.length c) := cell_blk HF1.out 0
  have f11 : w1.cell? ⟨w.heap.size, 1, none⟩ = some (.int .i64 f.room) := cell_blk HF1.out 1
  have c10 : w1.cell? ⟨w.heap.size + 1, 0, none⟩ = some (.int .i64 u) := cell_blk HC1.out 0
  have c11 : w1.cell? ⟨w.heap.size + 1, 1, none⟩ = some (.int .i64 g) := cell_blk HC1.out 1
  have hs4 : w.heap.size + 4 ≤ w1.heap.size := lt_of_heap HN1.out
  have f10z := fun oo => cell_more (o := oo) f10
  have f11z := fun oo => cell_more (o := oo) f11
  have c10z := fun oo => cell_more (o := oo) c10
  have c11z := fun oo => cell_more (o := oo) c11
  have HBX := Lib.hid HB1.out.drew
  have HBY := Lib.hid (HB1.out.alloc HB1.out.size (.cells #[.slice none 0 0, .int .i64 0, .int .i64 0, .int .i64 0, .int .i64 0] 89)).drew
  have HX : Hid (w1.heap.size ≤ w1.drew.heap.size ∧ ∀ i, i < w1.heap.size → w1.drew.heap[i]? = w1.heap[i]?) := Lib.hid ⟨Nat.le_refl _, fun _ _ => rfl⟩
  have HY : Hid (w1.heap.size ≤ (w1.alloc (.cells #[.slice none 0 0, .int .i64 0, .int .i64 0, .int .i64 0, .int .i64 0] 89)).drew.heap.size ∧ ∀ i, i < w1.heap.size → (w1.alloc (.cells #[.slice none 0 0, .int .i64 0, .int .i64 0, .int .i64 0, .int .i64 0] 89)).drew.heap[i]? = w1.heap[i]?) := Lib.hid ⟨by simp, fun i hi => Below.heap_alloc w1 _ i hi⟩
  have HYZ : Hid ((w1.alloc (.cells #[.slice none 0 0, .int .i64 0, .int .i64 0, .int .i64 0, .int .i64 0] 89)).drew.heap[w1.heap.size]? = some (.cells #[.slice none 0 0, .int .i64 0, .int .i64 0, .int .i64 0, .int .i64 0] 89)) := Lib.hid (heap_alloc_new w1 _)
  go_upto_region 3 with fail
  go_cut [11] from 23 to 27 (fun t11 wx => ∃ (d : Nat) (oo2 : Option Addr) (cc2 : Nat) (ps : List (Nod × Value)), t11 = .pointer (some ⟨d, 0, none⟩) ∧ w.heap.size + 4 ≤ d ∧ ps.map Prod.fst = f.nodes ∧ Own wx (w.heap.size + 4) (.slice oo2 ps.length cc2) ps ∧ wx.heap[d]? = some (.cells #[.slice oo2 ps.length cc2, .int .i64 f.room, .int .i64 u, .int .i64 g, .int .i64 t] 89) ∧ Below w.heap.size w wx ∧ (w1.heap.size ≤ wx.heap.size ∧ ∀ i, i < w1.heap.size → wx.heap[i]? = w1.heap[i]?))
  case first =>
    refine wp_region_noPanic ?_
    go_region_with
      (first
        | (go_at_call 74; (with_reducible refine (copyFs_any f _ _ (HR.out.below HBX.out) HS.out).mono ?_); rintro e w2 ⟨nv2, ps, rfl, hps, hO, hb2⟩; have HPS := Lib.hid hps; have HO2 := Lib.hid (hO.low (R := w.heap.size + 4) (Nat.le_trans hs4 HX.out.1)); obtain ⟨oo2, cc2, rfl, -⟩ := owns_form hO.row; have HB2 := Lib.hid (HBX.out.trans (hb2.mono HBX.out.size)); have HU2 : Hid (w1.heap.size ≤ w2.heap.size ∧ ∀ i, i < w1.heap.size → w2.heap[i]? = w1.heap[i]?) := Lib.hid ⟨Nat.le_trans HX.out.1 hb2.size, fun i hi => (hb2.block i (Nat.lt_of_lt_of_le hi HX.out.1)).trans (HX.out.2 i hi)⟩; have f20 : w2.cell? ⟨w.heap.size, 0, none⟩ = some (.slice o f.nodes.length c) := cell_blk ((HU2.out.2 _ (lt_of_heap HF1.out)).trans HF1.out) 0; have f21 : w2.cell? ⟨w.heap.size, 1, none⟩ = some (.int .i64 f.room) := cell_blk ((HU2.out.2 _ (lt_of_heap HF1.out)).trans HF1.out) 1; have c20 : w2.cell? ⟨w.heap.size + 1, 0, none⟩ = some (.int .i64 u) := cell_blk ((HU2.out.2 _ (lt_of_heap HC1.out)).trans HC1.out) 0; have c21 : w2.cell? ⟨w.heap.size + 1, 1, none⟩ = some (.int .i64 g) := cell_blk ((HU2.out.2 _ (lt_of_heap HC1.out)).trans HC1.out) 1; have f20z := fun oo => cell_more (o := oo) f20; have f21z := fun oo => cell_more (o := oo) f21; have c20z := fun oo => cell_more (o := oo) c20; have c21z := fun oo => cell_more (o := oo) c21; clear hps hO hb2)
        | (go_at_call 74; (with_reducible refine (copyFs_any f _ _ (HR.out.below HBY.out) HS.out).mono ?_); rintro e w2 ⟨nv2, ps, rfl, hps, hO, hb2⟩; have HPS := Lib.hid hps; have HO2 := Lib.hid (hO.low (R := w.heap.size + 4) (Nat.le_trans hs4 HY.out.1)); obtain ⟨oo2, cc2, rfl, -⟩ := owns_form hO.row; have HB2 := Lib.hid (HBY.out.trans (hb2.mono HBY.out.size)); have HU2 : Hid (w1.heap.size ≤ w2.heap.size ∧ ∀ i, i < w1.heap.size → w2.heap[i]? = w1.heap[i]?) := Lib.hid ⟨Nat.le_trans HY.out.1 hb2.size, fun i hi => (hb2.block i (Nat.lt_of_lt_of_le hi HY.out.1)).trans (HY.out.2 i hi)⟩; have HOB := Lib.hid (hO.low (R := w1.heap.size + 1) (by simp)); have HD2 := Lib.hid ((hb2.block _ (lt_of_heap HYZ.out)).trans HYZ.out); have y0 : w2.cell? ⟨w1.heap.size, 0, none⟩ = some (.slice none 0 0) := cell_blk HD2.out 0; have y1 : w2.cell? ⟨w1.heap.size, 1, none⟩ = some (.int .i64 0) := cell_blk HD2.out 1; have y2 : w2.cell? ⟨w1.heap.size, 2, none⟩ = some (.int .i64 0) := cell_blk HD2.out 2; have y3 : w2.cell? ⟨w1.heap.size, 3, none⟩ = some (.int .i64 0) := cell_blk HD2.out 3; have y4 : w2.cell? ⟨w1.heap.size, 4, none⟩ = some (.int .i64 0) := cell_blk HD2.out 4; have yf := frozen_blk HD2.out; have f20 : w2.cell? ⟨w.heap.size, 0, none⟩ = some (.slice o f.nodes.length c) := cell_blk ((HU2.out.2 _ (lt_of_heap HF1.out)).trans HF1.out) 0; have f21 : w2.cell? ⟨w.heap.size, 1, none⟩ = some (.int .i64 f.room) := cell_blk ((HU2.out.2 _ (lt_of_heap HF1.out)).trans HF1.out) 1; have c20 : w2.cell? ⟨w.heap.size + 1, 0, none⟩ = some (.int .i64 u) := cell_blk ((HU2.out.2 _ (lt_of_heap HC1.out)).trans HC1.out) 0; have c21 : w2.cell? ⟨w.heap.size + 1, 1, none⟩ = some (.int .i64 g) := cell_blk ((HU2.out.2 _ (lt_of_heap HC1.out)).trans HC1.out) 1; have f20z := fun oo => cell_more (o := oo) f20; have f21z := fun oo => cell_more (o := oo) f21; have c20z := fun oo => cell_more (o := oo) c20; have c21z := fun oo => cell_more (o := oo) c21; clear hps hO hb2))
    all_goals
      refine NoPanic.normal ?_
      go_wp2_with fail
      go_meet
      first
        | (have hx := HOB; exact ⟨w1.heap.size, oo2, cc2, ps, rfl, hs4, HPS.out, ((((((HOB.out.other (Nat.lt_succ_self _) _ _).other (Nat.lt_succ_self _) _ _).other (Nat.lt_succ_self _) _ _).other (Nat.lt_succ_self _) _ _).other (Nat.lt_succ_self _) _ _).low (Nat.le_succ_of_le hs4)), set_five HD2.out _ _ _ _ _, ((((HB2.out.setCell (p := ⟨w1.heap.size, 0, none⟩) HB1.out.size _).setCell (p := ⟨w1.heap.size, 1, none⟩) HB1.out.size _).setCell (p := ⟨w1.heap.size, 2, none⟩) HB1.out.size _).setCell (p := ⟨w1.heap.size, 3, none⟩) HB1.out.size _).setCell (p := ⟨w1.heap.size, 4, none⟩) HB1.out.size _, by simpa using HU2.out.1, fun i hi => (five_ne (Nat.ne_of_lt hi) _ _ _ _ _).trans (HU2.out.2 i hi)⟩)
        | exact ⟨w2.heap.size, oo2, cc2, ps, rfl, Nat.le_trans hs4 HU2.out.1, HPS.out, HO2.out.up fun i _ hi => Below.heap_alloc w2 _ i hi, heap_alloc_new w2 _, HB2.out.alloc HB2.out.size _, by simp only [World.size_alloc]; exact Nat.le_succ_of_le HU2.out.1, fun i hi => (Below.heap_alloc w2 _ i (Nat.lt_of_lt_of_le hi HU2.out.1)).trans (HU2.out.2 i hi)⟩
  case rest =>
    obtain ⟨d, oo2, cc2, ps, rfl, hd, hps, hO, hD, hB, hU⟩ := hcut
    have HU := Lib.hid hU
    have HB := Lib.hid hB
    clear f10z f11z c10z c11z HBX HBY HX HY HYZ f10 f11 c10 c11 hU
    go_wp2_with fail
    refine (HCH.out _ d (w.heap.size + 4) _ ps (by omega) hd hB hD hps hO).mono ?_
    rintro e w3 ⟨rfl, hb3, nv3, ps3, hD3, hO3⟩
    obtain ⟨oo3, cc3, rfl, -⟩ := owns_form hO3.row
    have HB3 : Hid (Below w.heap.size w w3) := Lib.hid (HB.out.trans (hb3.mono (by omega)))
    have HO3 := Lib.hid hO3
    have hu3 : ∀ i, i < w.heap.size + 4 → w3.heap[i]? = w1.heap[i]? := fun i hi => (hb3.block i hi).trans (HU.out.2 i (by omega))
    have HG3 : Hid (w3.heap[w.heap.size + 2]? = some (.cells #[.slice none 0 0, .int .i64 0] 30)) := Lib.hid ((hu3 _ (by omega)).trans HG1.out)
    have HN3 : Hid (w3.heap[w.heap.size + 3]? = some (.cells #[.int .i64 0] 3)) := Lib.hid ((hu3 _ (by omega)).trans HN1.out)
    have HF3 : Hid (w3.heap[w.heap.size]? = some (.cells #[.slice o f.nodes.length c, .int .i64 f.room] 30)) := Lib.hid ((hu3 _ (by omega)).trans HF1.out)
    have HD3 := Lib.hid hD3
    have x0 : w3.cell? ⟨d, 0, none⟩ = some (.slice oo3 ps3.length cc3) := cell_blk hD3 0
    have x1 : w3.cell? ⟨d, 1, none⟩ = some (.int .i64 f.room) := cell_blk hD3 1
    have g0 : w3.cell? ⟨w.heap.size + 2, 0, none⟩ = some (.slice none 0 0) := cell_blk HG3.out 0
    have g1 : w3.cell? ⟨w.heap.size + 2, 1, none⟩ = some (.int .i64 0) := cell_blk HG3.out 1
    have gf := frozen_blk HG3.out
    have n0 : w3.cell? ⟨w.heap.size + 3, 0, none⟩ = some (.int .i64 0) := cell_blk HN3.out 0
    have nf := frozen_blk HN3.out
    have hdl := lt_of_heap hD3
    clear hb3 hD3 hO3 hO hD hB hps hu3
    have HCO := HCOE
    have HBa := Lib.hid HB3.out.drew
    have HBb : Hid (Below w.heap.size w ((w3.setCell ⟨w.heap.size + 2, 0, none⟩ (.slice oo3 ps3.length cc3)).setCell ⟨w.heap.size + 2, 1, none⟩ (.int .i64 f.room)).drew) := Lib.hid ((HB3.out.setCell (p := ⟨w.heap.size + 2, 0, none⟩) (by simp only; omega) _).setCell (p := ⟨w.heap.size + 2, 1, none⟩) (by simp only; omega) _).drew
    have HEa := Lib.hid (HET.out.below HBa.out HET.out.1)
    have HEb := Lib.hid (HET.out.below HBb.out HET.out.1)
    have HUb : Hid (∀ i, w.heap.size + 4 ≤ i → i < w3.heap.size → ((w3.setCell ⟨w.heap.size + 2, 0, none⟩ (.slice oo3 ps3.length cc3)).setCell ⟨w.heap.size + 2, 1, none⟩ (.int .i64 f.room)).drew.heap[i]? = w3.heap[i]?) := Lib.hid (fun i h1 h2 => (Below.heap_setCell _ ⟨w.heap.size + 2, 1, none⟩ _ i (by simp only; omega)).trans (Below.heap_setCell _ ⟨w.heap.size + 2, 0, none⟩ _ i (by simp only; omega)))
    have HF3d : Hid (w3.drew.heap[w.heap.size]? = _) := Lib.hid HF3.out
    have HD3d : Hid (w3.drew.heap[d]? = _) := Lib.hid HD3.out
    have HG3d : Hid (w3.drew.heap[w.heap.size + 2]? = _) := Lib.hid HG3.out
    have HN3d : Hid (w3.drew.heap[w.heap.size + 3]? = _) := Lib.hid HN3.out
    have HG5 : Hid (((w3.setCell ⟨w.heap.size + 2, 0, none⟩ (.slice oo3 ps3.length cc3)).setCell ⟨w.heap.size + 2, 1, none⟩ (.int .i64 f.room)).drew.heap[w.heap.size + 2]? = some (.cells #[(.slice oo3 ps3.length cc3), .int .i64 f.room] 30)) := Lib.hid (set_two HG3.out _ _)
    have HF5 : Hid (((w3.setCell ⟨w.heap.size + 2, 0, none⟩ (.slice oo3 ps3.length cc3)).setCell ⟨w.heap.size + 2, 1, none⟩ (.int .i64 f.room)).drew.heap[w.heap.size]? = some (.cells #[.slice o f.nodes.length c, .int .i64 f.room] 30)) := Lib.hid ((Below.heap_setCell _ ⟨w.heap.size + 2, 1, none⟩ _ _ (by simp only; omega)).trans ((Below.heap_setCell _ ⟨w.heap.size + 2, 0, none⟩ _ _ (by simp only; omega)).trans HF3.out))
    have HN5 : Hid (((w3.setCell ⟨w.heap.size + 2, 0, none⟩ (.slice oo3 ps3.length cc3)).setCell ⟨w.heap.size + 2, 1, none⟩ (.int .i64 f.room)).drew.heap[w.heap.size + 3]? = some (.cells #[.int .i64 0] 3)) := Lib.hid ((Below.heap_setCell _ ⟨w.heap.size + 2, 1, none⟩ _ _ (by simp only; omega)).trans ((Below.heap_setCell _ ⟨w.heap.size + 2, 0, none⟩ _ _ (by simp only; omega)).trans HN3.out))
    go_upto_region 6 with fail
    go_cut [10] from 31 to 34 (fun t10 wx => t10 = .bool true ∧ wx.heap[w.heap.size + 2]? = some (.cells #[(.slice oo3 ps3.length cc3), .int .i64 f.room] 30) ∧ wx.heap[w.heap.size + 3]? = some (.cells #[.int .i64 cd] 3) ∧ wx.heap[w.heap.size]? = some (.cells #[.slice o f.nodes.length c, .int .i64 f.room] 30) ∧ Own wx (w.heap.size + 4) (.slice oo3 ps3.length cc3) ps3 ∧ Below w.heap.size w wx)
    case first =>
      refine wp_region_noPanic ?_
      go_region_with (first
        | (go_at_call 76; (with_reducible refine (HCO.out _ HEa.out).mono ?_); rintro e w4 ⟨rfl, hb4⟩; have HB4 := Lib.hid (HBa.out.trans (hb4.mono HBa.out.size)); have HO4 := Lib.hid ((HO3.out.up (w' := w3.drew) (fun _ _ _ => rfl)).below hb4); have HD4 := Lib.hid ((hb4.block _ (lt_of_heap HD3d.out)).trans HD3d.out); have HG4 := Lib.hid ((hb4.block _ (lt_of_heap HG3d.out)).trans HG3d.out); have HN4 := Lib.hid ((hb4.block _ (lt_of_heap HN3d.out)).trans HN3d.out); have HF4 := Lib.hid ((hb4.block _ (lt_of_heap HF3d.out)).trans HF3d.out); have g40 := cell_blk HG4.out 0; have g41 := cell_blk HG4.out 1; have g4f := frozen_blk HG4.out; have n40 := cell_blk HN4.out 0; have n4f := frozen_blk HN4.out; have d40 := cell_blk HD4.out 0; have d41 := cell_blk HD4.out 1; clear hb4)
        | (go_at_call 76; (with_reducible refine (HCO.out _ HEb.out).mono ?_); rintro e w4 ⟨rfl, hb4⟩; have HB4 := Lib.hid (HBb.out.trans (hb4.mono HBb.out.size)); have HO4 := Lib.hid ((HO3.out.up (w' := ((w3.setCell ⟨w.heap.size + 2, 0, none⟩ (.slice oo3 ps3.length cc3)).setCell ⟨w.heap.size + 2, 1, none⟩ (.int .i64 f.room)).drew) HUb.out).below hb4); have HG4 := Lib.hid ((hb4.block _ (lt_of_heap HG5.out)).trans HG5.out); have HN4 := Lib.hid ((hb4.block _ (lt_of_heap HN5.out)).trans HN5.out); have HF4 := Lib.hid ((hb4.block _ (lt_of_heap HF5.out)).trans HF5.out); have n40 := cell_blk HN4.out 0; have n4f := frozen_blk HN4.out; clear hb4))
      all_goals
        refine NoPanic.normal ?_
        go_wp2_with fail
        go_meet
        first
          | exact ⟨rfl, (Below.heap_setCell _ ⟨w.heap.size + 3, 0, none⟩ _ _ (by simp only; omega)).trans (set_two HG4.out _ _), set_one ((Below.heap_setCell _ ⟨w.heap.size + 2, 1, none⟩ _ _ (by simp only; omega)).trans ((Below.heap_setCell _ ⟨w.heap.size + 2, 0, none⟩ _ _ (by simp only; omega)).trans HN4.out)) _, (Below.heap_setCell _ ⟨w.heap.size + 3, 0, none⟩ _ _ (by simp only; omega)).trans ((Below.heap_setCell _ ⟨w.heap.size + 2, 1, none⟩ _ _ (by simp only; omega)).trans ((Below.heap_setCell _ ⟨w.heap.size + 2, 0, none⟩ _ _ (by simp only; omega)).trans HF4.out)), ((HO4.out.other (by omega) _ _).other (by omega) _ _).other (by omega) _ _, ((HB4.out.setCell (p := ⟨w.heap.size + 2, 0, none⟩) (by simp only; omega) _).setCell (p := ⟨w.heap.size + 2, 1, none⟩) (by simp only; omega) _).setCell (p := ⟨w.heap.size + 3, 0, none⟩) (by simp only; omega) _⟩
          | exact ⟨rfl, set_two ((Below.heap_setCell _ ⟨w.heap.size + 3, 0, none⟩ _ _ (by simp only; omega)).trans HG4.out) _ _, (Below.heap_setCell _ ⟨w.heap.size + 2, 1, none⟩ _ _ (by simp only; omega)).trans ((Below.heap_setCell _ ⟨w.heap.size + 2, 0, none⟩ _ _ (by simp only; omega)).trans (set_one HN4.out _)), (Below.heap_setCell _ ⟨w.heap.size + 2, 1, none⟩ _ _ (by simp only; omega)).trans ((Below.heap_setCell _ ⟨w.heap.size + 2, 0, none⟩ _ _ (by simp only; omega)).trans ((Below.heap_setCell _ ⟨w.heap.size + 3, 0, none⟩ _ _ (by simp only; omega)).trans HF4.out)), ((HO4.out.other (by omega) _ _).other (by omega) _ _).other (by omega) _ _, ((HB4.out.setCell (p := ⟨w.heap.size + 3, 0, none⟩) (by simp only; omega) _).setCell (p := ⟨w.heap.size + 2, 0, none⟩) (by simp only; omega) _).setCell (p := ⟨w.heap.size + 2, 1, none⟩) (by simp only; omega) _⟩
          | exact ⟨rfl, (Below.heap_setCell _ ⟨w.heap.size + 3, 0, none⟩ _ _ (by simp only; omega)).trans HG4.out, set_one HN4.out _, (Below.heap_setCell _ ⟨w.heap.size + 3, 0, none⟩ _ _ (by simp only; omega)).trans HF4.out, HO4.out.other (by omega) _ _, HB4.out.setCell (p := ⟨w.heap.size + 3, 0, none⟩) (by simp only; omega) _⟩
    case rest =>
      obtain ⟨rfl, hg9, hn9, hf9, hO9, hB9⟩ := hcut
      have r0 : wc.cell? ⟨w.heap.size + 2, 0, none⟩ = some (Value.slice oo3 ps3.length cc3) := cell_blk hg9 0
      have r1 : wc.cell? ⟨w.heap.size + 2, 1, none⟩ = some (Value.int .i64 f.room) := cell_blk hg9 1
      have r2 : wc.cell? ⟨w.heap.size + 3, 0, none⟩ = some (Value.int .i64 cd) := cell_blk hn9 0
      have HO9 := Lib.hid hO9
      have HB9 := Lib.hid hB9
      have HN9 := Lib.hid hn9
      have HG9 := Lib.hid hg9
      have HF9 := Lib.hid hf9
      clear hg9 hn9 hO9 hB9 hf9 x0 x1 g0 g1 gf n0 nf
      go_wp2
      refine leaves_cons (f := 75) (args := #[.pointer (some ⟨w.heap.size + 3, 0, none⟩), .pointer (some ⟨w.heap.size, 0, none⟩), .pointer (some ⟨w.heap.size + 2, 0, none⟩)]) (by simp) (by simp [go_sem]) ?_
      refine (undo_done (w.heap.size + 3) w.heap.size (w.heap.size + 2) cd f _ _ _ 0 .returning _ HZ.out HN9.out HF9.out HG9.out (HR.out.below HB9.out) HS.out).mono ?_
      rintro e u' w'' ⟨rfl, rfl, nv8, ps8, w8, hps8, hO8, hb8, rfl⟩
      have hl8 := HB9.out.size
      have hlc := lt_of_heap HN9.out
      have hg8 := set_two ((hb8.block _ (lt_of_heap HG9.out)).trans HG9.out) nv8 (.int .i64 f.room)
      have hn8 := (Below.heap_setCell (w8.setCell ⟨w.heap.size + 2, 0, none⟩ nv8) ⟨w.heap.size + 2, 1, none⟩ (.int .i64 f.room) (w.heap.size + 3) (by simp only; omega)).trans ((Below.heap_setCell w8 ⟨w.heap.size + 2, 0, none⟩ nv8 (w.heap.size + 3) (by simp only; omega)).trans ((hb8.block _ (lt_of_heap HN9.out)).trans HN9.out))
      have q0 := (cell_blk hg8 0).trans rfl
      have q1 := (cell_blk hg8 1).trans rfl
      have q2 := (cell_blk hn8 0).trans rfl
      refine ⟨.tuple #[.agg #[nv8, .int .i64 f.room], .int .i64 cd, .bool true], by simp [results, Tryz.results42, go_sem, q0, q1, q2], _, ps8, rfl, hps8, ((hO8.other (by omega) _ _).other (by omega) _ _).low (by omega), ((HB9.out.trans (hb8.mono HB9.out.size)).setCell (p := ⟨w.heap.size + 2, 0, none⟩) (by simp only; omega) _).setCell (p := ⟨w.heap.size + 2, 1, none⟩) (by simp only; omega) _⟩

set_option maxHeartbeats 4000000 in
theorem tryOn_no (f : FsD) (v : Value) (u g t : Int) (j : FuncId) (cap : Array Value) (w : World) (hR : FsA w v f) (hs : szF f ≤ 1048576) (hk : (askB4 f u g && inB 0 1000000 t) = false) :
    Calls Tryz.prog 42 #[v, .agg #[.int .i64 u, .int .i64 g], .int .i64 t, .func (.func j) #[] cap] w fun e w' => e = .returned (.tuple #[.agg #[.slice none 0 0, .int .i64 0], .int .i64 0, .bool false]) ∧ Below w.heap.size w w' := by
  have HR := Lib.hid hR
  obtain ⟨nv0, rfl, hN⟩ := hR
  obtain ⟨o, c, rfl, -, -⟩ := hN
  have HS := Lib.hid hs
  have hb0 : Below w.heap.size w ((((w.alloc (.cells #[.slice o f.nodes.length c, .int .i64 f.room] 30)).alloc (.cells #[.int .i64 u, .int .i64 g] 34)).alloc (.cells #[.slice none 0 0, .int .i64 0] 30)).alloc (.cells #[.int .i64 0] 3)) := (((((Below.refl _ _).alloc (Nat.le_refl _) _).alloc (by simp) _).alloc (by simp; omega) _).alloc (by simp; omega) _)
  have HB0 := Lib.hid hb0
  have HG0 := Lib.hid (al4_2 w (.cells #[.slice o f.nodes.length c, .int .i64 f.room] 30) (.cells #[.int .i64 u, .int .i64 g] 34) (.cells #[.slice none 0 0, .int .i64 0] 30) (.cells #[.int .i64 0] 3))
  have HN0 := Lib.hid (al4_3 w (.cells #[.slice o f.nodes.length c, .int .i64 f.room] 30) (.cells #[.int .i64 u, .int .i64 g] 34) (.cells #[.slice none 0 0, .int .i64 0] 30) (.cells #[.int .i64 0] 3))
  cases hq : askB4 f u g with
  | false =>
    have HK := Lib.hid hq
    clear hs hk hb0 hq
    go_enter_defers Tryz.func42, Tryz.ntmps42
    go_wp2_with fail
    refine (canLook_is HK.out (HR.out.below HB0.out) HS.out).mono ?_
    rintro e w1 ⟨rfl, hb1⟩
    have HB1 := Lib.hid (HB0.out.trans (hb1.mono HB0.out.size))
    have HG1 := Lib.hid ((hb1.block _ (lt_of_heap HG0.out)).trans HG0.out)
    have HN1 := Lib.hid ((hb1.block _ (lt_of_heap HN0.out)).trans HN0.out)
    have g0 := (cell_blk HG1.out 0).trans rfl
    have g1 := (cell_blk HG1.out 1).trans rfl
    have gf := frozen_blk HG1.out
    have n0 := (cell_blk HN1.out 0).trans rfl
    have nf := frozen_blk HN1.out
    have hg2 := set_two HG1.out (.slice none 0 0) (.int .i64 0)
    have hn2 := set_one ((Below.heap_setCell _ ⟨w.heap.size + 2, 1, none⟩ (.int .i64 0) (w.heap.size + 3) (by simp only; omega)).trans ((Below.heap_setCell _ ⟨w.heap.size + 2, 0, none⟩ (.slice none 0 0) (w.heap.size + 3) (by simp only; omega)).trans HN1.out)) (.int .i64 0)
    have hg3 := (Below.heap_setCell ((w1.setCell ⟨w.heap.size + 2, 0, none⟩ (.slice none 0 0)).setCell ⟨w.heap.size + 2, 1, none⟩ (.int .i64 0)) ⟨w.heap.size + 3, 0, none⟩ (.int .i64 0) (w.heap.size + 2) (by simp only; omega)).trans hg2
    have r0 := (cell_blk hg3 0).trans rfl
    have r1 := (cell_blk hg3 1).trans rfl
    have r2 := (cell_blk hn2 0).trans rfl
    clear hb1 hg2 hg3 hn2
    go_wp2
    exact ⟨.tuple #[.agg #[.slice none 0 0, .int .i64 0], .int .i64 0, .bool false], by simp [results, Tryz.results42, go_sem, r0, r1, r2], rfl, ((HB1.out.setCell (p := ⟨w.heap.size + 2, 0, none⟩) (by simp only; omega) _).setCell (p := ⟨w.heap.size + 2, 1, none⟩) (by simp only; omega) _).setCell (p := ⟨w.heap.size + 3, 0, none⟩) (by simp only; omega) _⟩
  | true =>
    have HK := Lib.hid hq
    have HTM : Hid (inB 0 1000000 t = false) := Lib.hid (by rw [hq] at hk; simpa using hk)
    clear hs hk hb0 hq
    go_enter_defers Tryz.func42, Tryz.ntmps42
    go_wp2_with fail
    refine (canLook_is HK.out (HR.out.below HB0.out) HS.out).mono ?_
    rintro e w1 ⟨rfl, hb1⟩
    have HB1 := Lib.hid (HB0.out.trans (hb1.mono HB0.out.size))
    have HG1 := Lib.hid ((hb1.block _ (lt_of_heap HG0.out)).trans HG0.out)
    have HN1 := Lib.hid ((hb1.block _ (lt_of_heap HN0.out)).trans HN0.out)
    go_wp2_with fail
    refine (isTime_any _ _).mono ?_
    rintro e w1b ⟨rfl, rfl⟩
    rw [HTM.out]
    have g0 := (cell_blk HG1.out 0).trans rfl
    have g1 := (cell_blk HG1.out 1).trans rfl
    have gf := frozen_blk HG1.out
    have n0 := (cell_blk HN1.out 0).trans rfl
    have nf := frozen_blk HN1.out
    have hg2 := set_two HG1.out (.slice none 0 0) (.int .i64 0)
    have hn2 := set_one ((Below.heap_setCell _ ⟨w.heap.size + 2, 1, none⟩ (.int .i64 0) (w.heap.size + 3) (by simp only; omega)).trans ((Below.heap_setCell _ ⟨w.heap.size + 2, 0, none⟩ (.slice none 0 0) (w.heap.size + 3) (by simp only; omega)).trans HN1.out)) (.int .i64 0)
    have hg3 := (Below.heap_setCell ((w1.setCell ⟨w.heap.size + 2, 0, none⟩ (.slice none 0 0)).setCell ⟨w.heap.size + 2, 1, none⟩ (.int .i64 0)) ⟨w.heap.size + 3, 0, none⟩ (.int .i64 0) (w.heap.size + 2) (by simp only; omega)).trans hg2
    have r0 := (cell_blk hg3 0).trans rfl
    have r1 := (cell_blk hg3 1).trans rfl
    have r2 := (cell_blk hn2 0).trans rfl
    clear hb1 hg2 hg3 hn2
    go_wp2
    exact ⟨.tuple #[.agg #[.slice none 0 0, .int .i64 0], .int .i64 0, .bool false], by simp [results, Tryz.results42, go_sem, r0, r1, r2], rfl, ((HB1.out.setCell (p := ⟨w.heap.size + 2, 0, none⟩) (by simp only; omega) _).setCell (p := ⟨w.heap.size + 2, 1, none⟩) (by simp only; omega) _).setCell (p := ⟨w.heap.size + 3, 0, none⟩) (by simp only; omega) _⟩
end Go.Proofs.YtjomkjnpflebaaaGreatDoor


/-
  impl.tryOn where the change tells a fault with any text ahead of its code: the file system anew.
  Conditions: at most 2^20 values and letters together; the variable errors.errorType as the program's text lays it.
-/
namespace Go.Proofs.YtjomkjnpflebaaaGreatDoor
open Go.ChangeShapes Go.WideShapes Go.ChangeAt Go.RowKit Go.Joins
set_option linter.unusedVariables false
set_option linter.unusedSimpArgs false

/-- The error tells this code. -/
def CodeSays (E : Value) (cd : Int) : Prop := ∀ W, ErrT W → Calls Tryz.prog 76 #[E] W fun e w' => e = .returned (.int .i64 cd) ∧ Below W.heap.size W w'
theorem says_V (q : ByteArray) (cd : Int) : CodeSays (errV q cd) cd := fun W h => codeOf_any q cd W h
theorem says_C (cd : Int) : CodeSays (errC cd) cd := fun W h => codeOfC_any cd W h


set_option maxRecDepth 100000 in
set_option maxHeartbeats 16000000 in
theorem tryOn_told (f : FsD) (cd : Int) (hz : cd ≠ 0) (v : Value) (u g t : Int) (j : FuncId) (cap : Array Value) (w : World) (hR : FsA w v f) (hs : szF f ≤ 1048576) (hE : ErrT w) (hk : askB4 f u g = true) (ht : inB 0 1000000 t = true)
    (hcf : ∀ args w, (callFunc j args).run Tryz.prog w = .ok (.enter j args) w)
    (hchg : ∀ (w1 : World) (d R : Nat) (nv : Value) (ps : List (Nod × Value)), w.heap.size ≤ R → R ≤ d → Below w.heap.size w w1 → w1.heap[d]? = some (.cells #[nv, .int .i64 f.room, .int .i64 u, .int .i64 g, .int .i64 t] 89) → ps.map Prod.fst = f.nodes → Own w1 R nv ps →
      Calls Tryz.prog j (#[.pointer (some ⟨d, 0, none⟩)] ++ cap) w1 fun e w' => ∃ E, e = .returned E ∧ CodeSays E cd ∧ Below R w1 w' ∧ ∃ nv2 ps2, w'.heap[d]? = some (.cells #[nv2, .int .i64 f.room, .int .i64 u, .int .i64 g, .int .i64 t] 89) ∧ Own w' R nv2 ps2) :
    Calls Tryz.prog 42 #[v, .agg #[.int .i64 u, .int .i64 g], .int .i64 t, .func (.func j) #[] cap] w fun e w' => ∃ nv ps, e = .returned (.tuple #[.agg #[nv, .int .i64 f.room], .int .i64 cd, .bool true]) ∧ ps.map Prod.fst = f.nodes ∧ Own w' w.heap.size nv ps ∧ Below w.heap.size w w' := by
  have hmf : ∀ (fn : Fn) (first cap : Array Value) (w : World), (Instr.makeFunc fn first cap).run Tryz.prog w = .ok (.func fn first cap) w := fun _ _ _ _ => rfl
  have HR := Lib.hid hR
  have HZ := Lib.hid hz
  obtain ⟨nv0, rfl, hN⟩ := hR
  obtain ⟨o, c, rfl, -, -⟩ := hN
  have HS := Lib.hid hs
  have HET := Lib.hid hE
  have HK := Lib.hid hk
  have HTM := Lib.hid ht
  have HCH := Lib.hid hchg
  have hb0 : Below w.heap.size w ((((w.alloc (.cells #[.slice o f.nodes.length c, .int .i64 f.room] 30)).alloc (.cells #[.int .i64 u, .int .i64 g] 34)).alloc (.cells #[.slice none 0 0, .int .i64 0] 30)).alloc (.cells #[.int .i64 0] 3)) := (((((Below.refl _ _).alloc (Nat.le_refl _) _).alloc (by simp) _).alloc (by simp; omega) _).alloc (by simp; omega) _)
  have HB0 := Lib.hid hb0
  have HF0 := Lib.hid (al4_0 w (.cells #[.slice o f.nodes.length c, .int .i64 f.room] 30) (.cells #[.int .i64 u, .int .i64 g] 34) (.cells #[.slice none 0 0, .int .i64 0] 30) (.cells #[.int .i64 0] 3))
  have HC0 := Lib.hid (al4_1 w (.cells #[.slice o f.nodes.length c, .int .i64 f.room] 30) (.cells #[.int .i64 u, .int .i64 g] 34) (.cells #[.slice none 0 0, .int .i64 0] 30) (.cells #[.int .i64 0] 3))
  have HG0 := Lib.hid (al4_2 w (.cells #[.slice o f.nodes.length c, .int .i64 f.room] 30) (.cells #[.int .i64 u, .int .i64 g] 34) (.cells #[.slice none 0 0, .int .i64 0] 30) (.cells #[.int .i64 0] 3))
  have HN0 := Lib.hid (al4_3 w (.cells #[.slice o f.nodes.length c, .int .i64 f.room] 30) (.cells #[.int .i64 u, .int .i64 g] 34) (.cells #[.slice none 0 0, .int .i64 0] 30) (.cells #[.int .i64 0] 3))
  clear hs hE hk ht hchg hb0 hz
  go_enter_defers Tryz.func42, Tryz.ntmps42
  go_wp2_with fail
  refine (canLook_is HK.out (HR.out.below HB0.out) HS.out).mono ?_
  rintro e w1 ⟨rfl, hb1⟩
  have HB1 := Lib.hid (HB0.out.trans (hb1.mono HB0.out.size))
  have HF1 := Lib.hid ((hb1.block _ (lt_of_heap HF0.out)).trans HF0.out)
  have HC1 := Lib.hid ((hb1.block _ (lt_of_heap HC0.out)).trans HC0.out)
  have HG1 := Lib.hid ((hb1.block _ (lt_of_heap HG0.out)).trans HG0.out)
  have HN1 := Lib.hid ((hb1.block _ (lt_of_heap HN0.out)).trans HN0.out)
  clear hb1
  go_wp2_with fail
  refine (isTime_any _ _).mono ?_
  rintro e w1b ⟨rfl, rfl⟩
  rw [HTM.out]
  have f10 : w1.cell? ⟨w.heap.size, 0, none⟩ = some (.slice o f.nodes.length c) := cell_blk HF1.out 0
  have f11 : w1.cell? ⟨w.heap.size, 1, none⟩ = some (.int .i64 f.room) := cell_blk HF1.out 1
  have c10 : w1.cell? ⟨w.heap.size + 1, 0, none⟩ = some (.int .i64 u) := cell_blk HC1.out 0
  have c11 : w1.cell? ⟨w.heap.size + 1, 1, none⟩ = some (.int .i64 g) := cell_blk HC1.out 1
  have hs4 : w.heap.size + 4 ≤ w1.heap.size := lt_of_heap HN1.out
  have f10z := fun oo => cell_more (o := oo) f10
  have f11z := fun oo => cell_more (o := oo) f11
  have c10z := fun oo => cell_more (o := oo) c10
  have c11z := fun oo => cell_more (o := oo) c11
  have HBX := Lib.hid HB1.out.drew
  have HBY := Lib.hid (HB1.out.alloc HB1.out.size (.cells #[.slice none 0 0, .int .i64 0, .int .i64 0, .int .i64 0, .int .i64 0] 89)).drew
  have HX : Hid (w1.heap.size ≤ w1.drew.heap.size ∧ ∀ i, i < w1.heap.size → w1.drew.heap[i]? = w1.heap[i]?) := Lib.hid ⟨Nat.le_refl _, fun _ _ => rfl⟩
  have HY : Hid (w1.heap.size ≤ (w1.alloc (.cells #[.slice none 0 0, .int .i64 0, .int .i64 0, .int .i64 0, .int .i64 0] 89)).drew.heap.size ∧ ∀ i, i < w1.heap.size → (w1.alloc (.cells #[.slice none 0 0, .int .i64 0, .int .i64 0, .int .i64 0, .int .i64 0] 89)).drew.heap[i]? = w1.heap[i]?) := Lib.hid ⟨by simp, fun i hi => Below.heap_alloc w1 _ i hi⟩
  have HYZ : Hid ((w1.alloc (.cells #[.slice none 0 0, .int .i64 0, .int .i64 0, .int .i64 0, .int .i64 0] 89)).drew.heap[w1.heap.size]? = some (.cells #[.slice none 0 0, .int .i64 0, .int .i64 0, .int .i64 0, .int .i64 0] 89)) := Lib.hid (heap_alloc_new w1 _)
  go_upto_region 3 with fail
  go_cut [11] from 23 to 27 (fun t11 wx => ∃ (d : Nat) (oo2 : Option Addr) (cc2 : Nat) (ps : List (Nod × Value)), t11 = .pointer (some ⟨d, 0, none⟩) ∧ w.heap.size + 4 ≤ d ∧ ps.map Prod.fst = f.nodes ∧ Own wx (w.heap.size + 4) (.slice oo2 ps.length cc2) ps ∧ wx.heap[d]? = some (.cells #[.slice oo2 ps.length cc2, .int .i64 f.room, .int .i64 u, .int .i64 g, .int .i64 t] 89) ∧ Below w.heap.size w wx ∧ (w1.heap.size ≤ wx.heap.size ∧ ∀ i, i < w1.heap.size → wx.heap[i]? = w1.heap[i]?))
  case first =>
    refine wp_region_noPanic ?_
    go_region_with
      (first
        | (go_at_call 74; (with_reducible refine (copyFs_any f _ _ (HR.out.below HBX.out) HS.out).mono ?_); rintro e w2 ⟨nv2, ps, rfl, hps, hO, hb2⟩; have HPS := Lib.hid hps; have HO2 := Lib.hid (hO.low (R := w.heap.size + 4) (Nat.le_trans hs4 HX.out.1)); obtain ⟨oo2, cc2, rfl, -⟩ := owns_form hO.row; have HB2 := Lib.hid (HBX.out.trans (hb2.mono HBX.out.size)); have HU2 : Hid (w1.heap.size ≤ w2.heap.size ∧ ∀ i, i < w1.heap.size → w2.heap[i]? = w1.heap[i]?) := Lib.hid ⟨Nat.le_trans HX.out.1 hb2.size, fun i hi => (hb2.block i (Nat.lt_of_lt_of_le hi HX.out.1)).trans (HX.out.2 i hi)⟩; have f20 : w2.cell? ⟨w.heap.size, 0, none⟩ = some (.slice o f.nodes.length c) := cell_blk ((HU2.out.2 _ (lt_of_heap HF1.out)).trans HF1.out) 0; have f21 : w2.cell? ⟨w.heap.size, 1, none⟩ = some (.int .i64 f.room) := cell_blk ((HU2.out.2 _ (lt_of_heap HF1.out)).trans HF1.out) 1; have c20 : w2.cell? ⟨w.heap.size + 1, 0, none⟩ = some (.int .i64 u) := cell_blk ((HU2.out.2 _ (lt_of_heap HC1.out)).trans HC1.out) 0; have c21 : w2.cell? ⟨w.heap.size + 1, 1, none⟩ = some (.int .i64 g) := cell_blk ((HU2.out.2 _ (lt_of_heap HC1.out)).trans HC1.out) 1; have f20z := fun oo => cell_more (o := oo) f20; have f21z := fun oo => cell_more (o := oo) f21; have c20z := fun oo => cell_more (o := oo) c20; have c21z := fun oo => cell_more (o := oo) c21; clear hps hO hb2)
        | (go_at_call 74; (with_reducible refine (copyFs_any f _ _ (HR.out.below HBY.out) HS.out).mono ?_); rintro e w2 ⟨nv2, ps, rfl, hps, hO, hb2⟩; have HPS := Lib.hid hps; have HO2 := Lib.hid (hO.low (R := w.heap.size + 4) (Nat.le_trans hs4 HY.out.1)); obtain ⟨oo2, cc2, rfl, -⟩ := owns_form hO.row; have HB2 := Lib.hid (HBY.out.trans (hb2.mono HBY.out.size)); have HU2 : Hid (w1.heap.size ≤ w2.heap.size ∧ ∀ i, i < w1.heap.size → w2.heap[i]? = w1.heap[i]?) := Lib.hid ⟨Nat.le_trans HY.out.1 hb2.size, fun i hi => (hb2.block i (Nat.lt_of_lt_of_le hi HY.out.1)).trans (HY.out.2 i hi)⟩; have HOB := Lib.hid (hO.low (R := w1.heap.size + 1) (by simp)); have HD2 := Lib.hid ((hb2.block _ (lt_of_heap HYZ.out)).trans HYZ.out); have y0 : w2.cell? ⟨w1.heap.size, 0, none⟩ = some (.slice none 0 0) := cell_blk HD2.out 0; have y1 : w2.cell? ⟨w1.heap.size, 1, none⟩ = some (.int .i64 0) := cell_blk HD2.out 1; have y2 : w2.cell? ⟨w1.heap.size, 2, none⟩ = some (.int .i64 0) := cell_blk HD2.out 2; have y3 : w2.cell? ⟨w1.heap.size, 3, none⟩ = some (.int .i64 0) := cell_blk HD2.out 3; have y4 : w2.cell? ⟨w1.heap.size, 4, none⟩ = some (.int .i64 0) := cell_blk HD2.out 4; have yf := frozen_blk HD2.out; have f20 : w2.cell? ⟨w.heap.size, 0, none⟩ = some (.slice o f.nodes.length c) := cell_blk ((HU2.out.2 _ (lt_of_heap HF1.out)).trans HF1.out) 0; have f21 : w2.cell? ⟨w.heap.size, 1, none⟩ = some (.int .i64 f.room) := cell_blk ((HU2.out.2 _ (lt_of_heap HF1.out)).trans HF1.out) 1; have c20 : w2.cell? ⟨w.heap.size + 1, 0, none⟩ = some (.int .i64 u) := cell_blk ((HU2.out.2 _ (lt_of_heap HC1.out)).trans HC1.out) 0; have c21 : w2.cell? ⟨w.heap.size + 1, 1, none⟩ = some (.int .i64 g) := cell_blk ((HU2.out.2 _ (lt_of_heap HC1.out)).trans HC1.out) 1; have f20z := fun oo => cell_more (o := oo) f20; have f21z := fun oo => cell_more (o := oo) f21; have c20z := fun oo => cell_more (o := oo) c20; have c21z := fun oo => cell_more (o := oo) c21; clear hps hO hb2))
    all_goals
      refine NoPanic.normal ?_
      go_wp2_with fail
      go_meet
      first
        | (have hx := HOB; exact ⟨w1.heap.size, oo2, cc2, ps, rfl, hs4, HPS.out, ((((((HOB.out.other (Nat.lt_succ_self _) _ _).other (Nat.lt_succ_self _) _ _).other (Nat.lt_succ_self _) _ _).other (Nat.lt_succ_self _) _ _).other (Nat.lt_succ_self _) _ _).low (Nat.le_succ_of_le hs4)), set_five HD2.out _ _ _ _ _, ((((HB2.out.setCell (p := ⟨w1.heap.size, 0, none⟩) HB1.out.size _).setCell (p := ⟨w1.heap.size, 1, none⟩) HB1.out.size _).setCell (p := ⟨w1.heap.size, 2, none⟩) HB1.out.size _).setCell (p := ⟨w1.heap.size, 3, none⟩) HB1.out.size _).setCell (p := ⟨w1.heap.size, 4, none⟩) HB1.out.size _, by simpa using HU2.out.1, fun i hi => (five_ne (Nat.ne_of_lt hi) _ _ _ _ _).trans (HU2.out.2 i hi)⟩)
        | exact ⟨w2.heap.size, oo2, cc2, ps, rfl, Nat.le_trans hs4 HU2.out.1, HPS.out, HO2.out.up fun i _ hi => Below.heap_alloc w2 _ i hi, heap_alloc_new w2 _, HB2.out.alloc HB2.out.size _, by simp only [World.size_alloc]; exact Nat.le_succ_of_le HU2.out.1, fun i hi => (Below.heap_alloc w2 _ i (Nat.lt_of_lt_of_le hi HU2.out.1)).trans (HU2.out.2 i hi)⟩
  case rest =>
    obtain ⟨d, oo2, cc2, ps, rfl, hd, hps, hO, hD, hB, hU⟩ := hcut
    have HU := Lib.hid hU
    have HB := Lib.hid hB
    clear f10z f11z c10z c11z HBX HBY HX HY HYZ f10 f11 c10 c11 hU
    go_wp2_with fail
    refine (HCH.out _ d (w.heap.size + 4) _ ps (by omega) hd hB hD hps hO).mono ?_
    rintro e w3 ⟨E, rfl, hCO, hb3, nv3, ps3, hD3, hO3⟩
    have HCOE : Hid (∀ W, ErrT W → Calls Tryz.prog 76 #[E] W fun e w' => e = .returned (.int .i64 cd) ∧ Below W.heap.size W w') := Lib.hid hCO
    clear hCO
    obtain ⟨oo3, cc3, rfl, -⟩ := owns_form hO3.row
    have HB3 : Hid (Below w.heap.size w w3) := Lib.hid (HB.out.trans (hb3.mono (by omega)))
    have HO3 := Lib.hid hO3
    have hu3 : ∀ i, i < w.heap.size + 4 → w3.heap[i]? = w1.heap[i]? := fun i hi => (hb3.block i hi).trans (HU.out.2 i (by omega))
    have HG3 : Hid (w3.heap[w.heap.size + 2]? = some (.cells #[.slice none 0 0, .int .i64 0] 30)) := Lib.hid ((hu3 _ (by omega)).trans HG1.out)
    have HN3 : Hid (w3.heap[w.heap.size + 3]? = some (.cells #[.int .i64 0] 3)) := Lib.hid ((hu3 _ (by omega)).trans HN1.out)
    have HF3 : Hid (w3.heap[w.heap.size]? = some (.cells #[.slice o f.nodes.length c, .int .i64 f.room] 30)) := Lib.hid ((hu3 _ (by omega)).trans HF1.out)
    have HD3 := Lib.hid hD3
    have x0 : w3.cell? ⟨d, 0, none⟩ = some (.slice oo3 ps3.length cc3) := cell_blk hD3 0
    have x1 : w3.cell? ⟨d, 1, none⟩ = some (.int .i64 f.room) := cell_blk hD3 1
    have g0 : w3.cell? ⟨w.heap.size + 2, 0, none⟩ = some (.slice none 0 0) := cell_blk HG3.out 0
    have g1 : w3.cell? ⟨w.heap.size + 2, 1, none⟩ = some (.int .i64 0) := cell_blk HG3.out 1
    have gf := frozen_blk HG3.out
    have n0 : w3.cell? ⟨w.heap.size + 3, 0, none⟩ = some (.int .i64 0) := cell_blk HN3.out 0
    have nf := frozen_blk HN3.out
    have hdl := lt_of_heap hD3
    clear hb3 hD3 hO3 hO hD hB hps hu3
    have HCO := HCOE
    have HBa := Lib.hid HB3.out.drew
    have HBb : Hid (Below w.heap.size w ((w3.setCell ⟨w.heap.size + 2, 0, none⟩ (.slice oo3 ps3.length cc3)).setCell ⟨w.heap.size + 2, 1, none⟩ (.int .i64 f.room)).drew) := Lib.hid ((HB3.out.setCell (p := ⟨w.heap.size + 2, 0, none⟩) (by simp only; omega) _).setCell (p := ⟨w.heap.size + 2, 1, none⟩) (by simp only; omega) _).drew
    have HEa := Lib.hid (HET.out.below HBa.out HET.out.1)
    have HEb := Lib.hid (HET.out.below HBb.out HET.out.1)
    have HUb : Hid (∀ i, w.heap.size + 4 ≤ i → i < w3.heap.size → ((w3.setCell ⟨w.heap.size + 2, 0, none⟩ (.slice oo3 ps3.length cc3)).setCell ⟨w.heap.size + 2, 1, none⟩ (.int .i64 f.room)).drew.heap[i]? = w3.heap[i]?) := Lib.hid (fun i h1 h2 => (Below.heap_setCell _ ⟨w.heap.size + 2, 1, none⟩ _ i (by simp only; omega)).trans (Below.heap_setCell _ ⟨w.heap.size + 2, 0, none⟩ _ i (by simp only; omega)))
    have HF3d : Hid (w3.drew.heap[w.heap.size]? = _) := Lib.hid HF3.out
    have HD3d : Hid (w3.drew.heap[d]? = _) := Lib.hid HD3.out
    have HG3d : Hid (w3.drew.heap[w.heap.size + 2]? = _) := Lib.hid HG3.out
    have HN3d : Hid (w3.drew.heap[w.heap.size + 3]? = _) := Lib.hid HN3.out
    have HG5 : Hid (((w3.setCell ⟨w.heap.size + 2, 0, none⟩ (.slice oo3 ps3.length cc3)).setCell ⟨w.heap.size + 2, 1, none⟩ (.int .i64 f.room)).drew.heap[w.heap.size + 2]? = some (.cells #[(.slice oo3 ps3.length cc3), .int .i64 f.room] 30)) := Lib.hid (set_two HG3.out _ _)
    have HF5 : Hid (((w3.setCell ⟨w.heap.size + 2, 0, none⟩ (.slice oo3 ps3.length cc3)).setCell ⟨w.heap.size + 2, 1, none⟩ (.int .i64 f.room)).drew.heap[w.heap.size]? = some (.cells #[.slice o f.nodes.length c, .int .i64 f.room] 30)) := Lib.hid ((Below.heap_setCell _ ⟨w.heap.size + 2, 1, none⟩ _ _ (by simp only; omega)).trans ((Below.heap_setCell _ ⟨w.heap.size + 2, 0, none⟩ _ _ (by simp only; omega)).trans HF3.out))
    have HN5 : Hid (((w3.setCell ⟨w.heap.size + 2, 0, none⟩ (.slice oo3 ps3.length cc3)).setCell ⟨w.heap.size + 2, 1, none⟩ (.int .i64 f.room)).drew.heap[w.heap.size + 3]? = some (.cells #[.int .i64 0] 3)) := Lib.hid ((Below.heap_setCell _ ⟨w.heap.size + 2, 1, none⟩ _ _ (by simp only; omega)).trans ((Below.heap_setCell _ ⟨w.heap.size + 2, 0, none⟩ _ _ (by simp only; omega)).trans HN3.out))
    go_upto_region 6 with fail
    go_cut [10] from 31 to 34 (fun t10 wx => t10 = .bool true ∧ wx.heap[w.heap.size + 2]? = some (.cells #[(.slice oo3 ps3.length cc3), .int .i64 f.room] 30) ∧ wx.heap[w.heap.size + 3]? = some (.cells #[.int .i64 cd] 3) ∧ wx.heap[w.heap.size]? = some (.cells #[.slice o f.nodes.length c, .int .i64 f.room] 30) ∧ Own wx (w.heap.size + 4) (.slice oo3 ps3.length cc3) ps3 ∧ Below w.heap.size w wx)
    case first =>
      refine wp_region_noPanic ?_
      go_region_with (first
        | (go_at_call 76; (with_reducible refine (HCO.out _ HEa.out).mono ?_); rintro e w4 ⟨rfl, hb4⟩; have HB4 := Lib.hid (HBa.out.trans (hb4.mono HBa.out.size)); have HO4 := Lib.hid ((HO3.out.up (w' := w3.drew) (fun _ _ _ => rfl)).below hb4); have HD4 := Lib.hid ((hb4.block _ (lt_of_heap HD3d.out)).trans HD3d.out); have HG4 := Lib.hid ((hb4.block _ (lt_of_heap HG3d.out)).trans HG3d.out); have HN4 := Lib.hid ((hb4.block _ (lt_of_heap HN3d.out)).trans HN3d.out); have HF4 := Lib.hid ((hb4.block _ (lt_of_heap HF3d.out)).trans HF3d.out); have g40 := cell_blk HG4.out 0; have g41 := cell_blk HG4.out 1; have g4f := frozen_blk HG4.out; have n40 := cell_blk HN4.out 0; have n4f := frozen_blk HN4.out; have d40 := cell_blk HD4.out 0; have d41 := cell_blk HD4.out 1; clear hb4)
        | (go_at_call 76; (with_reducible refine (HCO.out _ HEb.out).mono ?_); rintro e w4 ⟨rfl, hb4⟩; have HB4 := Lib.hid (HBb.out.trans (hb4.mono HBb.out.size)); have HO4 := Lib.hid ((HO3.out.up (w' := ((w3.setCell ⟨w.heap.size + 2, 0, none⟩ (.slice oo3 ps3.length cc3)).setCell ⟨w.heap.size + 2, 1, none⟩ (.int .i64 f.room)).drew) HUb.out).below hb4); have HG4 := Lib.hid ((hb4.block _ (lt_of_heap HG5.out)).trans HG5.out); have HN4 := Lib.hid ((hb4.block _ (lt_of_heap HN5.out)).trans HN5.out); have HF4 := Lib.hid ((hb4.block _ (lt_of_heap HF5.out)).trans HF5.out); have n40 := cell_blk HN4.out 0; have n4f := frozen_blk HN4.out; clear hb4))
      all_goals
        refine NoPanic.normal ?_
        go_wp2_with fail
        go_meet
        first
          | exact ⟨rfl, (Below.heap_setCell _ ⟨w.heap.size + 3, 0, none⟩ _ _ (by simp only; omega)).trans (set_two HG4.out _ _), set_one ((Below.heap_setCell _ ⟨w.heap.size + 2, 1, none⟩ _ _ (by simp only; omega)).trans ((Below.heap_setCell _ ⟨w.heap.size + 2, 0, none⟩ _ _ (by simp only; omega)).trans HN4.out)) _, (Below.heap_setCell _ ⟨w.heap.size + 3, 0, none⟩ _ _ (by simp only; omega)).trans ((Below.heap_setCell _ ⟨w.heap.size + 2, 1, none⟩ _ _ (by simp only; omega)).trans ((Below.heap_setCell _ ⟨w.heap.size + 2, 0, none⟩ _ _ (by simp only; omega)).trans HF4.out)), ((HO4.out.other (by omega) _ _).other (by omega) _ _).other (by omega) _ _, ((HB4.out.setCell (p := ⟨w.heap.size + 2, 0, none⟩) (by simp only; omega) _).setCell (p := ⟨w.heap.size + 2, 1, none⟩) (by simp only; omega) _).setCell (p := ⟨w.heap.size + 3, 0, none⟩) (by simp only; omega) _⟩
          | exact ⟨rfl, set_two ((Below.heap_setCell _ ⟨w.heap.size + 3, 0, none⟩ _ _ (by simp only; omega)).trans HG4.out) _ _, (Below.heap_setCell _ ⟨w.heap.size + 2, 1, none⟩ _ _ (by simp only; omega)).trans ((Below.heap_setCell _ ⟨w.heap.size + 2, 0, none⟩ _ _ (by simp only; omega)).trans (set_one HN4.out _)), (Below.heap_setCell _ ⟨w.heap.size + 2, 1, none⟩ _ _ (by simp only; omega)).trans ((Below.heap_setCell _ ⟨w.heap.size + 2, 0, none⟩ _ _ (by simp only; omega)).trans ((Below.heap_setCell _ ⟨w.heap.size + 3, 0, none⟩ _ _ (by simp only; omega)).trans HF4.out)), ((HO4.out.other (by omega) _ _).other (by omega) _ _).other (by omega) _ _, ((HB4.out.setCell (p := ⟨w.heap.size + 3, 0, none⟩) (by simp only; omega) _).setCell (p := ⟨w.heap.size + 2, 0, none⟩) (by simp only; omega) _).setCell (p := ⟨w.heap.size + 2, 1, none⟩) (by simp only; omega) _⟩
          | exact ⟨rfl, (Below.heap_setCell _ ⟨w.heap.size + 3, 0, none⟩ _ _ (by simp only; omega)).trans HG4.out, set_one HN4.out _, (Below.heap_setCell _ ⟨w.heap.size + 3, 0, none⟩ _ _ (by simp only; omega)).trans HF4.out, HO4.out.other (by omega) _ _, HB4.out.setCell (p := ⟨w.heap.size + 3, 0, none⟩) (by simp only; omega) _⟩
    case rest =>
      obtain ⟨rfl, hg9, hn9, hf9, hO9, hB9⟩ := hcut
      have r0 : wc.cell? ⟨w.heap.size + 2, 0, none⟩ = some (Value.slice oo3 ps3.length cc3) := cell_blk hg9 0
      have r1 : wc.cell? ⟨w.heap.size + 2, 1, none⟩ = some (Value.int .i64 f.room) := cell_blk hg9 1
      have r2 : wc.cell? ⟨w.heap.size + 3, 0, none⟩ = some (Value.int .i64 cd) := cell_blk hn9 0
      have HO9 := Lib.hid hO9
      have HB9 := Lib.hid hB9
      have HN9 := Lib.hid hn9
      have HG9 := Lib.hid hg9
      have HF9 := Lib.hid hf9
      clear hg9 hn9 hO9 hB9 hf9 x0 x1 g0 g1 gf n0 nf
      go_wp2
      refine leaves_cons (f := 75) (args := #[.pointer (some ⟨w.heap.size + 3, 0, none⟩), .pointer (some ⟨w.heap.size, 0, none⟩), .pointer (some ⟨w.heap.size + 2, 0, none⟩)]) (by simp) (by simp [go_sem]) ?_
      refine (undo_done (w.heap.size + 3) w.heap.size (w.heap.size + 2) cd f _ _ _ 0 .returning _ HZ.out HN9.out HF9.out HG9.out (HR.out.below HB9.out) HS.out).mono ?_
      rintro e u' w'' ⟨rfl, rfl, nv8, ps8, w8, hps8, hO8, hb8, rfl⟩
      have hl8 := HB9.out.size
      have hlc := lt_of_heap HN9.out
      have hg8 := set_two ((hb8.block _ (lt_of_heap HG9.out)).trans HG9.out) nv8 (.int .i64 f.room)
      have hn8 := (Below.heap_setCell (w8.setCell ⟨w.heap.size + 2, 0, none⟩ nv8) ⟨w.heap.size + 2, 1, none⟩ (.int .i64 f.room) (w.heap.size + 3) (by simp only; omega)).trans ((Below.heap_setCell w8 ⟨w.heap.size + 2, 0, none⟩ nv8 (w.heap.size + 3) (by simp only; omega)).trans ((hb8.block _ (lt_of_heap HN9.out)).trans HN9.out))
      have q0 := (cell_blk hg8 0).trans rfl
      have q1 := (cell_blk hg8 1).trans rfl
      have q2 := (cell_blk hn8 0).trans rfl
      refine ⟨.tuple #[.agg #[nv8, .int .i64 f.room], .int .i64 cd, .bool true], by simp [results, Tryz.results42, go_sem, q0, q1, q2], _, ps8, rfl, hps8, ((hO8.other (by omega) _ _).other (by omega) _ _).low (by omega), ((HB9.out.trans (hb8.mono HB9.out.size)).setCell (p := ⟨w.heap.size + 2, 0, none⟩) (by simp only; omega) _).setCell (p := ⟨w.heap.size + 2, 1, none⟩) (by simp only; omega) _⟩
end Go.Proofs.YtjomkjnpflebaaaGreatDoor
