/-
  Joined: PnSa PnSb ErrI DrfB RooS MadD NewT.
  Conditions: as each states.
-/
import Derived.Deep.MidRow
import Derived.StillTailTactics
import Derived.Laws.StructEq
import Derived.Deep.RegionHeld3
import Derived.Deep.CutRange
import Derived.Deep.CutBlock
import Derived.Deep.DeepCutAuto
import Derived.Test.YtknhacblialboaaGreatDoorLib3
import Derived.Test.YtknhacblialboaaGreatDoorLib11
import Derived.Test.YtknhacblialboaaGreatDoorLib13
import Derived.Test.YtknhacblialboaaGreatDoorLib15
import Derived.Test.YtknhacblialboaaGreatDoorLib18
import Derived.Test.YtknhacblialboaaGreatDoorLib19
import Derived.Test.YtknhacblialboaaGreatDoorLib21
import Derived.Test.YtknhacblialboaaGreatDoorLib22
namespace Go.Proofs.YtknhacblialboaaGreatDoor
open Go.ChangeShapes Go.WideShapes Go.ChangeAt Go.RowKit Go.Joins
set_option linter.unusedVariables false
set_option linter.unusedSimpArgs false
set_option maxHeartbeats 16000000
def Frm (w w' : World) (d : Nat) (nv : Value) : Prop := ∀ i, i < w.heap.size → i ≠ d → nv.ownBlock ≠ some i → w'.heap[i]? = w.heap[i]?
set_option maxRecDepth 100000 in
theorem putNode_set (f : FsD) (u g t kd md : Int) (x : ByteArray) (k : Nat) (hkl : k < f.nodes.length) (hpl : f.nodes.length ≤ 1048576)
   (d R : Nat) (nv : Value) (ps : List (Nod × Value)) (w : World) (hR : R ≤ w.heap.size) (hRd : R ≤ d) (hD : Drf w d R nv ps f u g t) :
   Calls Tryz.prog 110 #[.pointer (some ⟨d, 0, none⟩), .int .i64 k, .agg #[.int .i64 kd, .int .i64 md, .int .i64 u, .int .i64 g, .int .i64 t, .string x, .slice none 0 0]] w fun e w' => e = .returned (.tuple #[]) ∧ Below R w w' ∧ Frm w w' d nv ∧ ∃ nv2 ps2, w'.heap[d]? = some (.cells #[nv2, .int .i64 f.room, .int .i64 u, .int .i64 g, .int .i64 t] 75) ∧ ps2.map Prod.fst = (nodF f k (newN u g kd md t x.data.toList)).nodes ∧ Own w' R nv2 ps2 := by
 obtain ⟨oo, cc, rfl, -⟩ := aM9 hD.own.row
 have HD := qhZ hD
 have hlen : ps.length = f.nodes.length := hD.len
 have HLN := qhZ hlen
 have hpl8 : ps.length ≤ 1048576 := by omega
 obtain ⟨W0, hW0⟩ : ∃ W0, W0 = w.alloc (.cells #[.int .i64 kd, .int .i64 md, .int .i64 u, .int .i64 g, .int .i64 t, .string x, .slice none 0 0] 55) := ⟨_, rfl⟩
 have HK0 : Hid (Below w.heap.size w W0) := qhZ (by rw [hW0]; exact (Below.refl _ _).alloc (Nat.le_refl _) _)
 have KB0 : Hid (W0.heap[w.heap.size]? = some (.cells #[.int .i64 kd, .int .i64 md, .int .i64 u, .int .i64 g, .int .i64 t, .string x, .slice none 0 0] 55)) := qhZ (by rw [hW0]; exact heap_alloc_new w _)
 have KD0 := qhZ (aD9 HK0.out HD.out.box)
 have HO0 := qhZ (HD.out.own.below HK0.out)
 have HWX := qhZ hW0
 have hwl : w.heap.size < W0.heap.size := aB9 KB0.out
 have hkp : k < ps.length := by omega
 obtain ⟨G, cap, e0, hRG, hGl, hnc, hm, hc, hfr⟩ := HO0.out.at hkp
 simp only [Value.slice.injEq, true_and] at e0
 obtain ⟨rfl, rfl⟩ := e0
 have hGw : G < w.heap.size := HD.out.own.ltE.1 G rfl
 have hne : ((k : Int) == (ps.length : Int)) = false := beq_eq_false_iff_ne.2 (by omega)
 have HNE := qhZ hne
 have HDG : Hid (d ≠ G) := qhZ (by
   have := ne_some (own_not HD.out.own.row HD.out.box (by decide))
   intro e; exact this (by rw [e]; rfl))
 have hfe : ∀ j, W0.frozen? ⟨G, j, none⟩ = false := hfr
 have d0 : W0.cell? ⟨d, 0, none⟩ = some (.slice (some ⟨G, 0, none⟩) ps.length cc) := (aA9 KD0.out 0).trans rfl
 have n0 : W0.cell? ⟨w.heap.size, 0, none⟩ = some (.int .i64 kd) := (aA9 KB0.out 0).trans rfl
 have n1 : W0.cell? ⟨w.heap.size, 1, none⟩ = some (.int .i64 md) := (aA9 KB0.out 1).trans rfl
 have n2 : W0.cell? ⟨w.heap.size, 2, none⟩ = some (.int .i64 u) := (aA9 KB0.out 2).trans rfl
 have n3 : W0.cell? ⟨w.heap.size, 3, none⟩ = some (.int .i64 g) := (aA9 KB0.out 3).trans rfl
 have n4 : W0.cell? ⟨w.heap.size, 4, none⟩ = some (.int .i64 t) := (aA9 KB0.out 4).trans rfl
 have n5 : W0.cell? ⟨w.heap.size, 5, none⟩ = some (.string x) := (aA9 KB0.out 5).trans rfl
 have n6 : W0.cell? ⟨w.heap.size, 6, none⟩ = some (.slice none 0 0) := (aA9 KB0.out 6).trans rfl
 have q0 := (show W0.cell? _ = _ from hc.c0)
 have q1 := (show W0.cell? _ = _ from hc.c1)
 have q2 := (show W0.cell? _ = _ from hc.c2)
 have q3 := (show W0.cell? _ = _ from hc.c3)
 have q4 := (show W0.cell? _ = _ from hc.c4)
 have q5 := (show W0.cell? _ = _ from hc.c5)
 have q6 := (show W0.cell? _ = _ from hc.c6)
 have HOW : Hid (Own (((((((W0.drew.setCell ⟨G, k * 7, none⟩ (.int .i64 kd)).setCell ⟨G, k * 7 + 1, none⟩ (.int .i64 md)).setCell ⟨G, k * 7 + 2, none⟩ (.int .i64 u)).setCell ⟨G, k * 7 + 3, none⟩ (.int .i64 g)).setCell ⟨G, k * 7 + 4, none⟩ (.int .i64 t)).setCell ⟨G, k * 7 + 5, none⟩ (.string x)).setCell ⟨G, k * 7 + 6, none⟩ (.slice none 0 0)) R (.slice (some ⟨G, 0, none⟩) ps.length cc) (ps.set k (newN u g kd md t x.data.toList, .slice none 0 0))) := qhZ ((HO0.out.up (w' := W0.drew) (fun _ _ _ => rfl)).whole (i := k) hkp (newN u g kd md t x.data.toList) rfl)
 have KD9 : Hid ((((((((W0.drew.setCell ⟨G, k * 7, none⟩ (.int .i64 kd)).setCell ⟨G, k * 7 + 1, none⟩ (.int .i64 md)).setCell ⟨G, k * 7 + 2, none⟩ (.int .i64 u)).setCell ⟨G, k * 7 + 3, none⟩ (.int .i64 g)).setCell ⟨G, k * 7 + 4, none⟩ (.int .i64 t)).setCell ⟨G, k * 7 + 5, none⟩ (.string x)).setCell ⟨G, k * 7 + 6, none⟩ (.slice none 0 0)).heap[d]? = some (.cells #[.slice (some ⟨G, 0, none⟩) ps.length cc, .int .i64 f.room, .int .i64 u, .int .i64 g, .int .i64 t] 75)) := qhZ ((row_ne HDG.out _ _ _ _ _ _ _).trans KD0.out)
 have HFM : Hid (Frm w (((((((W0.drew.setCell ⟨G, k * 7, none⟩ (.int .i64 kd)).setCell ⟨G, k * 7 + 1, none⟩ (.int .i64 md)).setCell ⟨G, k * 7 + 2, none⟩ (.int .i64 u)).setCell ⟨G, k * 7 + 3, none⟩ (.int .i64 g)).setCell ⟨G, k * 7 + 4, none⟩ (.int .i64 t)).setCell ⟨G, k * 7 + 5, none⟩ (.string x)).setCell ⟨G, k * 7 + 6, none⟩ (.slice none 0 0)) d (.slice (some ⟨G, 0, none⟩) ps.length cc)) := qhZ (fun i hi h1 h2 => (row_ne (fun e => h2 (by rw [e]; rfl)) _ _ _ _ _ _ _).trans (HK0.out.block i hi))
 have HB9 : Hid (Below R w (((((((W0.drew.setCell ⟨G, k * 7, none⟩ (.int .i64 kd)).setCell ⟨G, k * 7 + 1, none⟩ (.int .i64 md)).setCell ⟨G, k * 7 + 2, none⟩ (.int .i64 u)).setCell ⟨G, k * 7 + 3, none⟩ (.int .i64 g)).setCell ⟨G, k * 7 + 4, none⟩ (.int .i64 t)).setCell ⟨G, k * 7 + 5, none⟩ (.string x)).setCell ⟨G, k * 7 + 6, none⟩ (.slice none 0 0))) := qhZ (bel_row ((HK0.out.mono hR).drew) hRG _ _ _ _ _ _ _)
 have HMP : Hid ((ps.set k (newN u g kd md t x.data.toList, Value.slice none 0 0)).map Prod.fst = (nodF f k (newN u g kd md t x.data.toList)).nodes) := qhZ (by rw [List.map_set, HD.out.map, nodF_set (by omega)])
 have HTH : Hid (W0.drew.there G (k * 7) 7) := qhZ (fun j hj => by
   refine ⟨?_, hfr _⟩
   match j, hj with
   | 0, _ => exact (show W0.drew.cell? ⟨G, k * 7, none⟩ = _ from hc.c0) ▸ rfl
   | 1, _ => exact (show W0.drew.cell? ⟨G, k * 7 + 1, none⟩ = _ from hc.c1) ▸ rfl
   | 2, _ => exact (show W0.drew.cell? ⟨G, k * 7 + 2, none⟩ = _ from hc.c2) ▸ rfl
   | 3, _ => exact (show W0.drew.cell? ⟨G, k * 7 + 3, none⟩ = _ from hc.c3) ▸ rfl
   | 4, _ => exact (show W0.drew.cell? ⟨G, k * 7 + 4, none⟩ = _ from hc.c4) ▸ rfl
   | 5, _ => exact (show W0.drew.cell? ⟨G, k * 7 + 5, none⟩ = _ from hc.c5) ▸ rfl
   | 6, _ => exact (show W0.drew.cell? ⟨G, k * 7 + 6, none⟩ = _ from hc.c6) ▸ rfl)
 have HI7 : Hid ((Tryz.prog.info? 55).map (·.size) = some 7) := qhZ (by
   obtain ⟨i8, hi8, hy0, hy1, hy2⟩ := node_infoN
   rw [hi8]; simp [hy1])
 have HONE : Hid ((#[.int .i64 kd, .int .i64 md, .int .i64 u, .int .i64 g, .int .i64 t, .string x, .slice none 0 0] : Array Value).all (·.oneCell') = true) := qhZ (by simp [Value.oneCell'])
 clear hD hW0 hlen hc hne hfr hfe q0 q1 q2 q3 q4 q5 q6
 go_enter Tryz.func110, Tryz.ntmps110
 go_upto_region 1 with fail
 rw [← HWX.out]
 go_upto_if 13 with fail
 refine wp_cond (t := ((k : Int) == (ps.length : Int))) rfl ?_
 rw [HNE.out]
 simp only [Bool.false_eq_true, if_false]
 go_upto_region 3 with fail
 go_still_tail 8, (by kernel_rfl)
 refine wpList_store_mid rfl 55 (.tmp 33) (.tmp 32) rfl G (k * 7) #[.int .i64 kd, .int .i64 md, .int .i64 u, .int .i64 g, .int .i64 t, .string x, .slice none 0 0] (by simp [Act.eval, Act.put]) (by simp [Act.eval, Act.put]) HTH.out HI7.out HONE.out ?_
 all_goals
   go_wp2
   first | go_end0 | (simp only [Exit.inBlock, Exit.then]; refine bodyPost_ret (results_none rfl _ _ _) rfl ?_) | refine bodyPost_ret (results_none rfl _ _ _) rfl ?_
   first
     | exact ⟨rfl, HB9.out, HFM.out, _, _, KD9.out, HMP.out, HOW.out⟩
     | exact ⟨rfl, HB9.out, HFM.out, _, KD9.out, _, HMP.out, HOW.out⟩
set_option maxRecDepth 100000 in
theorem putNode_app (f : FsD) (u g t kd md : Int) (x : ByteArray) (k : Nat) (hkl : k = f.nodes.length) (hpl : f.nodes.length ≤ 1048576)
   (d R : Nat) (nv : Value) (ps : List (Nod × Value)) (w : World) (hR : R ≤ w.heap.size) (hRd : R ≤ d) (hD : Drf w d R nv ps f u g t) :
   Calls Tryz.prog 110 #[.pointer (some ⟨d, 0, none⟩), .int .i64 k, .agg #[.int .i64 kd, .int .i64 md, .int .i64 u, .int .i64 g, .int .i64 t, .string x, .slice none 0 0]] w fun e w' => e = .returned (.tuple #[]) ∧ Below R w w' ∧ Frm w w' d nv ∧ ∃ nv2 ps2, w'.heap[d]? = some (.cells #[nv2, .int .i64 f.room, .int .i64 u, .int .i64 g, .int .i64 t] 75) ∧ ps2.map Prod.fst = (nodF f k (newN u g kd md t x.data.toList)).nodes ∧ Own w' R nv2 ps2 := by
 obtain ⟨oo, cc, rfl, -⟩ := aM9 hD.own.row
 have HD := qhZ hD
 have hlen : ps.length = f.nodes.length := hD.len
 have HLN := qhZ hlen
 have hpl8 : ps.length ≤ 1048576 := by omega
 obtain ⟨W0, hW0⟩ : ∃ W0, W0 = w.alloc (.cells #[.int .i64 kd, .int .i64 md, .int .i64 u, .int .i64 g, .int .i64 t, .string x, .slice none 0 0] 55) := ⟨_, rfl⟩
 have HK0 : Hid (Below w.heap.size w W0) := qhZ (by rw [hW0]; exact (Below.refl _ _).alloc (Nat.le_refl _) _)
 have KB0 : Hid (W0.heap[w.heap.size]? = some (.cells #[.int .i64 kd, .int .i64 md, .int .i64 u, .int .i64 g, .int .i64 t, .string x, .slice none 0 0] 55)) := qhZ (by rw [hW0]; exact heap_alloc_new w _)
 have KD0 := qhZ (aD9 HK0.out HD.out.box)
 have HO0 := qhZ (HD.out.own.below HK0.out)
 have HWX := qhZ hW0
 have hwl : w.heap.size < W0.heap.size := aB9 KB0.out
 have HKN := qhZ hkl
 have hne : ((k : Int) == (ps.length : Int)) = true := by rw [hkl, hlen]; simp
 have HNE := qhZ hne
 obtain ⟨i8, hi8, hy0, hy1, hy2⟩ := node_infoN
 have hs0 : R ≤ W0.heap.size := Nat.le_trans hR HK0.out.size
 have HRW : Hid ((W0.drew.alloc (.cells #[.int .i64 kd, .int .i64 md, .int .i64 u, .int .i64 g, .int .i64 t, .string x, .slice none 0 0] 55)).ownsRow R 55 7 (.slice oo ps.length cc) ps.length (nodsV ps)) := qhZ (World.ownsRow.alloc (w := W0.drew) HO0.out.row _)
 have HNEW := qhZ (cells_new W0.drew [.int .i64 kd, .int .i64 md, .int .i64 u, .int .i64 g, .int .i64 t, .string x, .slice none 0 0] 55)
 have HDL : Hid (some d ≠ (Value.slice oo ps.length cc).ownBlock) := qhZ (ne_some (own_not HO0.out.row KD0.out (by decide)))
 have HRL : Hid (∀ b, (Value.slice oo ps.length cc).ownBlock = some b → R ≤ b) := qhZ (fun b h => (World.ownsRow.lt HO0.out.row b h).1)
 have HOA : Hid (Own (W0.drew.alloc (.cells #[.int .i64 kd, .int .i64 md, .int .i64 u, .int .i64 g, .int .i64 t, .string x, .slice none 0 0] 55)) R (.slice oo ps.length cc) ps) := qhZ ((HO0.out.up (w' := W0.drew) (fun _ _ _ => rfl)).below ((Below.refl _ W0.drew).alloc (Nat.le_refl _) _))
 have HBA : Hid (Below R w (W0.drew.alloc (.cells #[.int .i64 kd, .int .i64 md, .int .i64 u, .int .i64 g, .int .i64 t, .string x, .slice none 0 0] 55))) := qhZ (((HK0.out.mono hR).drew).alloc hs0 _)
 have KDA : Hid ((W0.drew.alloc (.cells #[.int .i64 kd, .int .i64 md, .int .i64 u, .int .i64 g, .int .i64 t, .string x, .slice none 0 0] 55)).heap[d]? = some (.cells #[.slice oo ps.length cc, .int .i64 f.room, .int .i64 u, .int .i64 g, .int .i64 t] 75)) := qhZ ((Below.heap_alloc W0.drew _ _ (aB9 KD0.out)).trans KD0.out)
 have hdl : d < W0.heap.size := aB9 KD0.out
 have hxx : bs x.data.toList = x := rfl
 have d0 : W0.cell? ⟨d, 0, none⟩ = some (.slice oo ps.length cc) := (aA9 KD0.out 0).trans rfl
 have n0 : W0.cell? ⟨w.heap.size, 0, none⟩ = some (.int .i64 kd) := (aA9 KB0.out 0).trans rfl
 have n1 : W0.cell? ⟨w.heap.size, 1, none⟩ = some (.int .i64 md) := (aA9 KB0.out 1).trans rfl
 have n2 : W0.cell? ⟨w.heap.size, 2, none⟩ = some (.int .i64 u) := (aA9 KB0.out 2).trans rfl
 have n3 : W0.cell? ⟨w.heap.size, 3, none⟩ = some (.int .i64 g) := (aA9 KB0.out 3).trans rfl
 have n4 : W0.cell? ⟨w.heap.size, 4, none⟩ = some (.int .i64 t) := (aA9 KB0.out 4).trans rfl
 have n5 : W0.cell? ⟨w.heap.size, 5, none⟩ = some (.string x) := (aA9 KB0.out 5).trans rfl
 have n6 : W0.cell? ⟨w.heap.size, 6, none⟩ = some (.slice none 0 0) := (aA9 KB0.out 6).trans rfl
 have d0z : W0.drew.cell? ⟨d, 0, none⟩ = some (.slice oo ps.length cc) := (aA9 KD0.out 0).trans rfl
 have n0z : W0.drew.cell? ⟨w.heap.size, 0, none⟩ = some (.int .i64 kd) := (aA9 KB0.out 0).trans rfl
 have n1z : W0.drew.cell? ⟨w.heap.size, 1, none⟩ = some (.int .i64 md) := (aA9 KB0.out 1).trans rfl
 have n2z : W0.drew.cell? ⟨w.heap.size, 2, none⟩ = some (.int .i64 u) := (aA9 KB0.out 2).trans rfl
 have n3z : W0.drew.cell? ⟨w.heap.size, 3, none⟩ = some (.int .i64 g) := (aA9 KB0.out 3).trans rfl
 have n4z : W0.drew.cell? ⟨w.heap.size, 4, none⟩ = some (.int .i64 t) := (aA9 KB0.out 4).trans rfl
 have n5z : W0.drew.cell? ⟨w.heap.size, 5, none⟩ = some (.string x) := (aA9 KB0.out 5).trans rfl
 have n6z : W0.drew.cell? ⟨w.heap.size, 6, none⟩ = some (.slice none 0 0) := (aA9 KB0.out 6).trans rfl
 clear hD hW0 hlen hne hkl hxx
 go_enter Tryz.func110, Tryz.ntmps110
 go_upto_region 1 with fail
 rw [← HWX.out]
 go_upto_if 13 with fail
 refine wp_cond (t := ((k : Int) == (ps.length : Int))) rfl ?_
 rw [HNE.out]
 simp only [if_true]
 go_wp2
 go_region_law (first
   | (refine aN9 _ rfl (.tmp 19) (.tmp 21) 28 rfl R 55 i8 (.agg #[.int .i64 0, .int .i64 0, .int .i64 0, .int .i64 0, .int .i64 0, .string ⟨#[]⟩, .slice none 0 0]) 7 80 Tryz.underlying28 hi8 hy0 hy1 hy2 rfl (by decide) (.slice oo ps.length cc) ps.length (nodsV ps) (by simp [Act.eval, Act.put]) HRW.out ⟨W0.heap.size, 0, none⟩ 1 1 [.int .i64 kd, .int .i64 md, .int .i64 u, .int .i64 g, .int .i64 t, .string x, .slice none 0 0] (by simp [Act.eval, Act.put]) rfl HNEW.out (by simp [Value.oneCell']) (by unfold maxLen; omega) (by omega) (by simp; omega) ?_; intro ooA capA wA hownA hgrowA hooA; have HGA := qhZ hgrowA; have HXA := qhZ hownA; have KDz : Hid (wA.heap[d]? = some (.cells #[.slice oo ps.length cc, .int .i64 f.room, .int .i64 u, .int .i64 g, .int .i64 t] 75)) := qhZ ((hgrowA.block d (by simp; omega) HDL.out).trans KDA.out); have a0 : wA.cell? ⟨d, 0, none⟩ = some (.slice oo ps.length cc) := (aA9 KDz.out 0).trans rfl; have af := aE9 KDz.out; clear hownA hgrowA hooA))
 all_goals
   have HOz : Hid (Own wA R (.slice ooA (ps.length + 1) capA) (ps ++ [(newN u g kd md t x.data.toList, .slice none 0 0)])) := qhZ (HOA.out.snoc HXA.out HGA.out (World.ownsRow_nil _ _ _ _) (dist_snoc HOA.out.dist rfl))
   have HOW : Hid (Own (wA.setCell ⟨d, 0, none⟩ (.slice ooA (ps.length + 1) capA)) R (.slice ooA (ps.length + 1) capA) (ps ++ [(newN u g kd md t x.data.toList, .slice none 0 0)])) := qhZ (HOz.out.aside KDz.out (by decide) (by decide) 0 _)
   have KD9 : Hid ((wA.setCell ⟨d, 0, none⟩ (.slice ooA (ps.length + 1) capA)).heap[d]? = some (.cells #[.slice ooA (ps.length + 1) capA, .int .i64 f.room, .int .i64 u, .int .i64 g, .int .i64 t] 75)) := qhZ (heap_setCell_same wA d 0 _ 75 _ KDz.out)
   have HFM : Hid (Frm w (wA.setCell ⟨d, 0, none⟩ (.slice ooA (ps.length + 1) capA)) d (.slice oo ps.length cc)) := qhZ (fun i hi h1 h2 => (Below.heap_setCell wA ⟨d, 0, none⟩ _ i h1).trans ((HGA.out.block i (by have := HK0.out.size; simp; omega) (fun e => h2 e.symm)).trans ((Below.heap_alloc W0.drew _ i (by have := HK0.out.size; show i < W0.heap.size; omega)).trans (HK0.out.block i hi))))
   have HB9 : Hid (Below R w (wA.setCell ⟨d, 0, none⟩ (.slice ooA (ps.length + 1) capA))) := qhZ ((HBA.out.trans (bel_grown HGA.out (by simp; omega) HRL.out)).setCell (p := ⟨d, 0, none⟩) hRd _)
   have HMP : Hid ((ps ++ [(newN u g kd md t x.data.toList, Value.slice none 0 0)]).map Prod.fst = (nodF f k (newN u g kd md t x.data.toList)).nodes) := qhZ (by rw [List.map_append, HD.out.map, HKN.out, nodF_app]; rfl)
   go_wp2
   first | go_end0 | (simp only [Exit.inBlock, Exit.then]; refine bodyPost_ret (results_none rfl _ _ _) rfl ?_) | refine bodyPost_ret (results_none rfl _ _ _) rfl ?_
   first
     | exact ⟨rfl, HB9.out, HFM.out, _, _, KD9.out, HMP.out, HOW.out⟩
     | exact ⟨rfl, HB9.out, HFM.out, _, KD9.out, _, HMP.out, HOW.out⟩
end Go.Proofs.YtknhacblialboaaGreatDoor
namespace Go.Proofs.YtknhacblialboaaGreatDoor
open Go.ChangeShapes Go.WideShapes Go.ChangeAt Go.RowKit Go.Joins Go.Extern.Stop Go.Stop Go.Extern
set_option linter.unusedVariables false
set_option linter.unusedSimpArgs false
set_option maxHeartbeats 16000000
set_option maxRecDepth 100000
theorem ec_mComp (h : Value) (w : World) : (Go.method 368 206 (.agg #[h]) "Comparable").run Tryz.prog w = .ok (214, .agg #[h]) w := by kernel_rfl
theorem ec_noIs (v : Value) (xT : TypeId) (w : World) : (Instr.typeAssert (.iface 105 v) xT 228 true).run Tryz.prog w = .ok (.tuple #[.nilIface, .bool false]) w :=
 run_typeAssert_lacksB Tryz.underlying228 (by kernel_rfl) (by kernel_rfl) v xT w
theorem ec_noUn (v : Value) (xT : TypeId) (w : World) : (Instr.typeAssert (.iface 105 v) xT 213 true).run Tryz.prog w = .ok (.tuple #[.nilIface, .bool false]) w :=
 run_typeAssert_lacksB Tryz.underlying213 (by kernel_rfl) (by kernel_rfl) v xT w
theorem ec_noUn2 (v : Value) (xT : TypeId) (w : World) : (Instr.typeAssert (.iface 105 v) xT 214 true).run Tryz.prog w = .ok (.tuple #[.nilIface, .bool false]) w :=
 run_typeAssert_lacksB Tryz.underlying214 (by kernel_rfl) (by kernel_rfl) v xT w
theorem ec_compE (w : World) : (ReflectliteType.method (fun t => do Rtype.noPackHeld "Comparable" t; pure (.bool (← typeInfo t).comparable)) #[.agg #[.pointer (some ⟨2, 105, none⟩)]]).run Tryz.prog w = .ok (.bool true) w := by kernel_rfl
theorem ec_compF (w : World) : (ReflectliteType.method (fun t => do Rtype.noPackHeld "Comparable" t; (fun a : TypeInfo => Value.bool a.comparable) <$> typeInfo t) #[.agg #[.pointer (some ⟨2, 105, none⟩)]]).run Tryz.prog w = .ok (.bool true) w := by kernel_rfl
theorem eql_code (c d : Int) (w : World) : (binOp .eql 66 (.iface 105 (.agg #[.int .i64 c])) (.iface 105 (.agg #[.int .i64 d]))).run Tryz.prog w = .ok (.bool (c == d)) w := by
 have u3 := Tryz.underlying3
 have a3 := Tryz.isAgg3
 have z3 := Tryz.sizeOf3
 have hS : Tryz.prog.underlying 105 = some (.struct (Tryz.prog.fieldsOf 105)) := by kernel_rfl
 have hp : Tryz.prog.stoodInHeld 105 = false := by kernel_rfl
 have hc : (Tryz.prog.info? 105).map (·.comparable) = some true := by kernel_rfl
 have h : (Op.equalIn 9999 105 (.agg #[.int .i64 c]) (.agg #[.int .i64 d])).run Tryz.prog w = .ok (c == d) w := by
   rw [show (9999 : Nat) = 9998 + 1 from rfl, run_equalIn_agg w 9998 105 _ _ hS hp]
   simp only [Program.fieldsOf, Tryz.underlying105]
   go_simp
   by_cases h1 : c = d <;> simp [h1]
 cases hi : Tryz.prog.info? 105 with
 | none => simp [hi] at hc
 | some i =>
   have hcc : i.comparable = true := by simpa [hi] using hc
   have h2 : (Op.equalIn 10000 66 (.iface 105 (.agg #[.int .i64 c])) (.iface 105 (.agg #[.int .i64 d]))).run Tryz.prog w = .ok (c == d) w := by
     rw [show (10000 : Nat) = 9999 + 1 from rfl, Op.equalIn]
     simp [run_underlying Tryz.underlying66, typeInfo, hi, hcc, h]
   simp only [binOp]
   simp [Op.equal, Op.maxDepth, h2]
theorem is_none (w : World) : Calls Tryz.prog 121 #[.nilIface, codeV 2] w fun e w' => e = .returned (.bool false) ∧ w = w' := by
 have en : ∀ (v : Value) (w : World), (binOp .eql 66 .nilIface (.iface 105 v)).run Tryz.prog w = .ok (.bool false) w := fun v w => by kernel_rfl
 unfold codeV
 go_enter Tryz.func121, Tryz.ntmps121
 go_wp2
 go_ret
 exact ⟨rfl, rfl⟩
theorem isIn_same (c : Int) (hc2 : (c == 2) = true) (w : World) : Calls Tryz.prog 155 #[codeV c, codeV 2, .bool true] w fun e w' => e = .returned (.bool true) ∧ Below w.heap.size w w' := by
 have eq := eql_code
 unfold codeV
 go_enter Tryz.func155, Tryz.ntmps155
 go_wp2
 refine wp_loop_rounds 1 ?_
 rw [rounds_succ]
 go_wp2
 refine bodyPost_ret (v := .bool true) (by simp [results, Tryz.results155, go_sem]) rfl ?_
 exact ⟨rfl, Below.refl _ _⟩
theorem isIn_else (c : Int) (hc : c ≠ 2) (w : World) : Calls Tryz.prog 155 #[codeV c, codeV 2, .bool true] w fun e w' => e = .returned (.bool false) ∧ Below w.heap.size w w' := by
 have n1 := ec_noIs
 have n2 := ec_noUn
 have n3 := ec_noUn2
 have hc2 : (c == 2) = false := by simpa using hc
 have eq := eql_code
 unfold codeV
 go_enter Tryz.func155, Tryz.ntmps155
 go_wp2
 refine wp_loop_rounds 1 ?_
 rw [rounds_succ]
 go_wp2
 go_ret
 exact ⟨rfl, Below.refl _ _⟩
theorem is_code (c : Int) (w : World) : Calls Tryz.prog 121 #[codeV c, codeV 2] w fun e w' => e = .returned (.bool (c == 2)) ∧ Below w.heap.size w w' := by
 have hI : ∀ w, Calls Tryz.prog 155 #[codeV c, codeV 2, .bool true] w fun e w' => e = .returned (.bool (c == 2)) ∧ Below w.heap.size w w' := fun w => by
   by_cases h : c = 2
   · subst h; exact isIn_same 2 rfl w
   · have : (c == 2) = false := by simpa using h
     rw [this]; exact isIn_else c h w
 have HI := qhZ hI
 clear hI
 obtain ⟨b, hb⟩ : ∃ b, b = (c == 2) := ⟨_, rfl⟩
 rw [← hb] at HI ⊢
 clear hb
 have h10 := @run_callFunc_extern Tryz.prog 154 _ ReflectliteType.typeOf Tryz.func154 (by kernel_rfl) (by kernel_rfl) (by kernel_rfl) (by kernel_rfl)
 have h11 := @run_callFunc_extern Tryz.prog 214 _ (ReflectliteType.method (fun t => do Rtype.noPackHeld "Comparable" t; pure (.bool (← typeInfo t).comparable))) Tryz.func214 (by kernel_rfl) (by kernel_rfl) (by kernel_rfl) (by kernel_rfl)
 have tE := ec_typeOfE
 have mC := ec_mComp
 have cE := ec_compE
 have cF := ec_compF
 unfold codeV at HI ⊢
 go_enter Tryz.func121, Tryz.ntmps121
 go_wp2_with (go_at_call 155; refine (HI.out _).mono ?_)
 rintro e w1 ⟨rfl, hb1⟩
 go_wp2
 go_ret
 exact ⟨rfl, hb1⟩
end Go.Proofs.YtknhacblialboaaGreatDoor
namespace Go.Proofs.YtknhacblialboaaGreatDoor
open Go.ChangeShapes Go.WideShapes Go.ChangeAt Go.RowKit Go.Joins
set_option linter.unusedVariables false
set_option linter.unusedSimpArgs false
set_option maxHeartbeats 16000000
set_option maxRecDepth 100000 in
theorem freeSpot_bad (f : FsD) (u g t : Int) (s : ByteArray) (cd : Int) (nd : Nat) (nm : List UInt8) (hfp : fp0 f.nodes u g s.data.toList = (cd, nd, nm)) (hc : cd ≠ 0) (hs : szF f ≤ 1048576) (hk : bC9 f u g = true) (hss : s.size ≤ 1048576)
   (d R : Nat) (nv : Value) (ps : List (Nod × Value)) (w : World) (hD : Drf w d R nv ps f u g t) :
   Calls Tryz.prog 84 #[.pointer (some ⟨d, 0, none⟩), .string s] w fun e w' => ∃ q, e = .returned (.tuple #[.agg #[.int .i64 0, .string ⟨#[]⟩], errV q cd]) ∧ Below w.heap.size w w' := by
 have HD := qhZ hD
 have HFD := qhZ hfp
 have HS := qhZ hs
 have HK := qhZ hk
 have HSS := qhZ hss
 have HC := qhZ hc
 have HB0 : Hid (Below w.heap.size w (w.alloc (.cells #[.int .i64 0, .string ⟨#[]⟩] 77))) := qhZ ((Below.refl _ _).alloc (Nat.le_refl _) _)
 have KB0 := qhZ (heap_alloc_new w (.cells #[.int .i64 0, .string ⟨#[]⟩] 77))
 clear hD hfp hs hk hss hc
 go_enter Tryz.func84, Tryz.ntmps84
 go_wp2_with fail
 refine (spotAt_is f u g t s cd nd nm HFD.out HS.out HK.out HSS.out d R nv ps _ (HD.out.below HB0.out)).mono ?_
 rintro e w1 ⟨q, rfl, hb1⟩
 have HE := qhZ (errV_not q HC.out)
 rw [HE.out]
 have HB1 := qhZ (HB0.out.trans (hb1.mono HB0.out.size))
 have KZ1 := qhZ (aD9 hb1 KB0.out)
 obtain ⟨xn, hxn⟩ : ∃ xn, xn = bs nm := ⟨_, rfl⟩
 rw [← hxn]
 clear hb1 hxn
 have HB2 := qhZ (HB1.out.alloc HB1.out.size (.cells #[.int .i64 nd, .string xn] 77))
 have KZ2 := qhZ ((Below.heap_alloc w1 (.cells #[.int .i64 nd, .string xn] 77) _ (aB9 KZ1.out)).trans KZ1.out)
 have z0 := (aA9 KZ2.out 0).trans rfl
 have z1 := (aA9 KZ2.out 1).trans rfl
 have zf := aE9 KZ2.out
 go_wp2
 have hq := bG9 KZ2.out (.int .i64 0) (.string ⟨#[]⟩)
 have t0 := (aA9 hq 0).trans rfl
 have t1 := (aA9 hq 1).trans rfl
 refine bodyPost_ret (v := .tuple #[.agg #[.int .i64 0, .string ⟨#[]⟩], .iface 120 (.agg #[.string q, .iface 105 (.agg #[.int .i64 cd])])]) (by simp [results, Tryz.results84, go_sem, t0, t1]) rfl ?_
 exact ⟨q, by rw [HE.out], aP9 HB2.out (Nat.le_refl _)⟩
set_option maxRecDepth 100000 in
theorem freeSpot_there (f : FsD) (u g t : Int) (s : ByteArray) (up : Nat) (nm : List UInt8) (hfp : fp0 f.nodes u g s.data.toList = (0, up, nm)) (hup : up < f.nodes.length) (hb : isE (aC9 f.nodes up).list nm = true) (hr : Rise (aC9 f.nodes up).list) (hs : szF f ≤ 1048576) (hk : bC9 f u g = true) (hss : s.size ≤ 1048576)
   (d R : Nat) (nv : Value) (ps : List (Nod × Value)) (w : World) (hD : Drf w d R nv ps f u g t) :
   Calls Tryz.prog 84 #[.pointer (some ⟨d, 0, none⟩), .string s] w fun e w' => e = .returned (.tuple #[.agg #[.int .i64 0, .string ⟨#[]⟩], codeV 6]) ∧ Below w.heap.size w w' := by
 have HD := qhZ hD
 have HFD := qhZ hfp
 have HS := qhZ hs
 have HK := qhZ hk
 have HSS := qhZ hss
 have HI := qhZ hb
 have HRI := qhZ hr
 have HB0 : Hid (Below w.heap.size w (w.alloc (.cells #[.int .i64 0, .string ⟨#[]⟩] 77))) := qhZ ((Below.refl _ _).alloc (Nat.le_refl _) _)
 have KB0 := qhZ (heap_alloc_new w (.cells #[.int .i64 0, .string ⟨#[]⟩] 77))
 obtain ⟨xn, hxn⟩ : ∃ xn, xn = bs nm := ⟨_, rfl⟩
 have HSP := qhZ (fun W (h : Drf W d R nv ps f u g t) => spotAt_is f u g t s 0 up nm HFD.out HS.out HK.out HSS.out d R nv ps W h)
 have HNO := qhZ (fun W (h : Drf W d R nv ps f u g t) => nodeOf_is f u g t up nm true _ hup HI.out rfl HS.out HRI.out d R nv ps W h)
 rw [← hxn] at HSP HNO
 obtain ⟨y, hy⟩ : ∃ y, y = nbN (aC9 f.nodes up).list nm := ⟨_, rfl⟩
 rw [← hy] at HNO
 clear hD hfp hs hk hss hb hr hxn hy
 go_enter Tryz.func84, Tryz.ntmps84
 go_wp2_with fail
 refine (HSP.out _ (HD.out.below HB0.out)).mono ?_
 rintro e w1 ⟨q, rfl, hb1⟩
 rw [errV_nil]
 have HB1 := qhZ (HB0.out.trans (hb1.mono HB0.out.size))
 have KZ1 := qhZ (aD9 hb1 KB0.out)
 clear hb1
 have HB2 := qhZ (HB1.out.alloc HB1.out.size (.cells #[.int .i64 up, .string xn] 77))
 have KZ2 := qhZ ((Below.heap_alloc w1 (.cells #[.int .i64 up, .string xn] 77) _ (aB9 KZ1.out)).trans KZ1.out)
 go_wp2_with fail
 refine (HNO.out _ (HD.out.below HB2.out)).mono ?_
 rintro e w3 ⟨rfl, hb3⟩
 have HB3 := qhZ (HB2.out.trans (hb3.mono HB2.out.size))
 have KZ3 := qhZ (aD9 hb3 KZ2.out)
 clear hb3
 simp only [if_true]
 have z0 := (aA9 KZ3.out 0).trans rfl
 have z1 := (aA9 KZ3.out 1).trans rfl
 have zf := aE9 KZ3.out
 go_wp2_with (go_at_call 121; refine (is_none _).mono ?_; rintro e w' ⟨rfl, rfl⟩)
 have hq := bG9 KZ3.out (.int .i64 0) (.string ⟨#[]⟩)
 have t0 := (aA9 hq 0).trans rfl
 have t1 := (aA9 hq 1).trans rfl
 refine bodyPost_ret (v := .tuple #[.agg #[.int .i64 0, .string ⟨#[]⟩], codeV 6]) (by simp [results, codeV, Tryz.results84, go_sem, t0, t1]) rfl ?_
 exact ⟨rfl, aP9 HB3.out (Nat.le_refl _)⟩
set_option maxRecDepth 100000 in
theorem freeSpot_ask (f : FsD) (u g t : Int) (s : ByteArray) (up : Nat) (nm : List UInt8) (E : Value) (hfp : fp0 f.nodes u g s.data.toList = (0, up, nm)) (hup : up < f.nodes.length) (hb : isE (aC9 f.nodes up).list nm = false) (hr : Rise (aC9 f.nodes up).list) (hE : errC (dirC (aC9 f.nodes up) u g 3) = E) (hs : szF f ≤ 1048576) (hk : bC9 f u g = true) (hss : s.size ≤ 1048576)
   (d R : Nat) (nv : Value) (ps : List (Nod × Value)) (w : World) (hD : Drf w d R nv ps f u g t) :
   Calls Tryz.prog 84 #[.pointer (some ⟨d, 0, none⟩), .string s] w fun e w' => e = .returned (.tuple #[.agg #[.int .i64 up, .string (bs nm)], E]) ∧ Below w.heap.size w w' := by
 have HD := qhZ hD
 have HFD := qhZ hfp
 have HS := qhZ hs
 have HK := qhZ hk
 have HSS := qhZ hss
 have HI := qhZ hb
 have HRI := qhZ hr
 have HEE := qhZ hE
 have HB0 : Hid (Below w.heap.size w (w.alloc (.cells #[.int .i64 0, .string ⟨#[]⟩] 77))) := qhZ ((Below.refl _ _).alloc (Nat.le_refl _) _)
 have KB0 := qhZ (heap_alloc_new w (.cells #[.int .i64 0, .string ⟨#[]⟩] 77))
 obtain ⟨xn, hxn⟩ : ∃ xn, xn = bs nm := ⟨_, rfl⟩
 have HSP := qhZ (fun W (h : Drf W d R nv ps f u g t) => spotAt_is f u g t s 0 up nm HFD.out HS.out HK.out HSS.out d R nv ps W h)
 have HNO := qhZ (fun W (h : Drf W d R nv ps f u g t) => nodeOf_is f u g t up nm false _ hup HI.out rfl HS.out HRI.out d R nv ps W h)
 have HCK := qhZ (fun W (h : Drf W d R nv ps f u g t) => checkChange_is f u g t up nm E hup HEE.out HS.out HK.out d R nv ps W h)
 rw [← hxn] at HSP HNO HCK ⊢
 clear hD hfp hs hk hss hb hr hxn hE
 go_enter Tryz.func84, Tryz.ntmps84
 go_wp2_with fail
 refine (HSP.out _ (HD.out.below HB0.out)).mono ?_
 rintro e w1 ⟨q, rfl, hb1⟩
 rw [errV_nil]
 have HB1 := qhZ (HB0.out.trans (hb1.mono HB0.out.size))
 have KZ1 := qhZ (aD9 hb1 KB0.out)
 clear hb1
 have HB2 := qhZ (HB1.out.alloc HB1.out.size (.cells #[.int .i64 up, .string xn] 77))
 have KZ2 := qhZ ((Below.heap_alloc w1 (.cells #[.int .i64 up, .string xn] 77) _ (aB9 KZ1.out)).trans KZ1.out)
 have KO2 := qhZ (heap_alloc_new w1 (.cells #[.int .i64 up, .string xn] 77))
 go_wp2_with fail
 refine (HNO.out _ (HD.out.below HB2.out)).mono ?_
 rintro e w3 ⟨rfl, hb3⟩
 have HB3 := qhZ (HB2.out.trans (hb3.mono HB2.out.size))
 have KZ3 := qhZ (aD9 hb3 KZ2.out)
 have KO3 := qhZ (aD9 hb3 KO2.out)
 clear hb3
 simp only [Bool.false_eq_true, if_false]
 go_wp2_with (go_at_call 121; refine (is_code 2 _).mono ?_)
 rintro e w4 ⟨rfl, hb4⟩
 have HB4 := qhZ (HB3.out.trans (hb4.mono HB3.out.size))
 have KZ4 := qhZ (aD9 hb4 KZ3.out)
 have KO4 := qhZ (aD9 hb4 KO3.out)
 clear hb4
 have KT : Hid (∀ W : World, W.heap[w1.heap.size]? = some (.cells #[.int .i64 up, .string xn] 77) → (fun w' => w'.cell? ⟨w1.heap.size, 0, none⟩ = some (.int .i64 up) ∧ w'.cell? ⟨w1.heap.size, 1, none⟩ = some (.string xn)) W) := qhZ (fun W h => ⟨(aA9 h 0).trans rfl, (aA9 h 1).trans rfl⟩)
 have hne1 : w.heap.size < w1.heap.size := aB9 KZ1.out
 have HQ0 : Hid (Below w4.heap.size w4 w4) := qhZ (Below.refl _ _)
 have KS : Hid (∀ W, Below w4.heap.size w4 W → (fun w' => w'.cell? ⟨w1.heap.size, 0, none⟩ = some (.int .i64 up) ∧ w'.cell? ⟨w1.heap.size, 1, none⟩ = some (.string xn)) W) := qhZ (fun W h => ⟨(aA9 (aD9 h KO4.out) 0).trans rfl, (aA9 (aD9 h KO4.out) 1).trans rfl⟩)
 go_wp2
 go_region_held3 (fun w' => w'.cell? ⟨w1.heap.size, 0, none⟩ = some (.int .i64 up) ∧ w'.cell? ⟨w1.heap.size, 1, none⟩ = some (.string xn)) (first | exact KS.out _ (by (first | (with_reducible exact HQ0.out) | (with_reducible exact aJ9 HQ0.out) | (with_reducible exact HQa.out) | (with_reducible exact aJ9 HQa.out))) | exact KT.out _ ((Below.heap_setCell _ ⟨w.heap.size, 1, none⟩ _ _ (by simp only; omega)).trans ((Below.heap_setCell _ ⟨w.heap.size, 0, none⟩ _ _ (by simp only; omega)).trans (aD9 HQa.out KO4.out))))
   (first | (go_at_call 91; (with_reducible refine (HCK.out _ (HD.out.below (by (first | (with_reducible exact HB4.out) | (with_reducible exact aJ9 HB4.out))))).mono ?_); rintro e wa ⟨rfl, hba⟩; have HQa := qhZ (aZ9 (w := w4) (by (first | (with_reducible exact HQ0.out) | (with_reducible exact aJ9 HQ0.out))) hba).2; have KZa := qhZ (aD9 HQa.out KZ4.out); have z0 := (aA9 KZa.out 0).trans rfl; have z1 := (aA9 KZa.out 1).trans rfl; have zf := aE9 KZa.out; clear hba))
 all_goals
   go_wp2
   have hq := bG9 KZa.out (.int .i64 up) (.string xn)
   have t0 := (aA9 hq 0).trans rfl
   have t1 := (aA9 hq 1).trans rfl
   refine bodyPost_ret (v := .tuple #[.agg #[.int .i64 up, .string xn], E]) (by simp [results, Tryz.results84, go_sem, t0, t1]) rfl ?_
   exact ⟨rfl, aP9 (HB4.out.trans (HQa.out.mono HB4.out.size)) (Nat.le_refl _)⟩
end Go.Proofs.YtknhacblialboaaGreatDoor
namespace Go.Proofs.YtknhacblialboaaGreatDoor
open Go.ChangeShapes Go.WideShapes Go.ChangeAt Go.RowKit Go.Joins Go.Shelf
set_option linter.unusedVariables false
set_option linter.unusedSimpArgs false
set_option maxHeartbeats 16000000
theorem bytesOf_big (ns : List Nod) (v : Value) (w : World) (hR : NodsA w v ns) (hT : sumD ns ≤ 1073741824) (hl : ns.length ≤ 1048576) : Calls Tryz.prog 134 #[v] w fun e w' => e = .returned (.int .i64 (sumD ns : Nat)) ∧ w = w' := by
 obtain ⟨o, c, rfl, hm, hH⟩ := hR
 have HH := qhZ hH
 clear hH
 unfold maxLen at hm
 go_enter Tryz.func134, Tryz.ntmps134
 go_wp2
 go_loop [3, 7] (fun t i => ∃ k : Nat, k ≤ ns.length ∧ i = .int .i64 k ∧ t = .int .i64 (sumD (ns.take k) : Nat)) (fun _ i => ns.length - (intOf i).toNat)
 case atStart => exact ⟨0, Nat.zero_le _, rfl, rfl⟩
 case round =>
   obtain ⟨k, hk, rfl, rfl⟩ := hrel
   by_cases hlt : k < ns.length
   · obtain ⟨g, off, lv, rfl, hg, hc, he, hml⟩ := HH.out k hlt
     have HS := qhZ (sumD_take hlt)
     have hle := sumD_pre ns (k + 1)
     have d5 := hc.c5
     have HZ : Hid ((bs ns[k].data).size = ns[k].data.length) := qhZ (bs_size _)
     obtain ⟨x, hxx⟩ : ∃ x, x = bs ns[k].data := ⟨_, rfl⟩
     rw [← hxx] at d5 HZ
     have hx : sumD (ns.take k) + x.size ≤ 1073741824 := by rw [HZ.out, ← HS.out]; omega
     clear hc he hml hxx hle
     go_wp2
     go_round
     case rel => exact ⟨k + 1, hlt, by go_num, by rw [HS.out, ← HZ.out]; go_num⟩
     case measure => simp [intOf]; omega
   · have HT : Hid (ns.take k = ns) := qhZ (List.take_of_length_le (by omega))
     go_wp2
     go_ret
     exact ⟨ret_int (by rw [HT.out]), rfl⟩
theorem bytesOf_is {ns : List Nod} {v : Value} {w : World} {n : Nat} (h : sumD ns = n) (hR : NodsA w v ns) (hT : n ≤ 1073741824) (hl : ns.length ≤ 1048576) : Calls Tryz.prog 134 #[v] w fun e w' => e = .returned (.int .i64 (n : Int)) ∧ Below w.heap.size w w' := by
 subst h
 refine (bytesOf_big ns v w hR hT hl).mono ?_
 rintro e w' ⟨rfl, rfl⟩
 exact ⟨rfl, Below.refl _ _⟩
set_option maxRecDepth 100000 in
theorem checkRoom_any (ns : List Nod) (o : Option Addr) (n0 c0 : Nat) (room : Int) (x2 x3 x4 : Value) (d : Nat) (w : World) (hD : w.heap[d]? = some (.cells #[.slice o n0 c0, .int .i64 room, x2, x3, x4] 75)) (hN : NodsA w (.slice o n0 c0) ns) (hT : sumD ns ≤ 1073741824) (hl : ns.length ≤ 1048576) :
   Calls Tryz.prog 111 #[.pointer (some ⟨d, 0, none⟩)] w fun e w' => e = .returned (errC (if room < (sumD ns : Int) then 8 else 0)) ∧ Below w.heap.size w w' := by
 have HD := qhZ hD
 have HN := qhZ hN
 have HL := qhZ hl
 obtain ⟨SS, hSS⟩ : ∃ SS, sumD ns = SS := ⟨_, rfl⟩
 have HSS := qhZ hSS
 rw [hSS] at hT ⊢
 have HT := qhZ hT
 have HK0 : Hid (Below w.heap.size w w) := qhZ (Below.refl _ _)
 have KS : Hid (∀ W, Below w.heap.size w W → (fun w' => w'.cell? ⟨d, 0, none⟩ = some (.slice o n0 c0) ∧ w'.cell? ⟨d, 1, none⟩ = some (.int .i64 room)) W) := qhZ (fun W h => ⟨(aA9 (aD9 h HD.out) 0).trans rfl, (aA9 (aD9 h HD.out) 1).trans rfl⟩)
 clear hD hN hl hSS
 by_cases hr : room < (SS : Int)
 · have HV : Hid (errC (if room < (SS : Int) then 8 else 0) = errC 8) := qhZ (by rw [if_pos hr])
   go_enter Tryz.func111, Tryz.ntmps111
   go_wp2
   go_region_held3 (fun w' => w'.cell? ⟨d, 0, none⟩ = some (.slice o n0 c0) ∧ w'.cell? ⟨d, 1, none⟩ = some (.int .i64 room)) (first | exact KS.out _ (by (first | (with_reducible exact HK0.out) | (with_reducible exact aJ9 HK0.out) | (with_reducible exact HKa.out) | (with_reducible exact aJ9 HKa.out))))
     (first | (go_at_call 134; (with_reducible refine (bytesOf_is HSS.out (HN.out.below (by (first | (with_reducible exact HK0.out) | (with_reducible exact aJ9 HK0.out)))) HT.out HL.out).mono ?_); rintro e wa ⟨rfl, hba⟩; have HKa := qhZ (aZ9 (w := w) (by (first | (with_reducible exact HK0.out) | (with_reducible exact aJ9 HK0.out))) hba).2; clear hba))
   go_wp2
   go_ret
   exact ⟨rfl, HKa.out⟩
 · have HV : Hid (errC (if room < (SS : Int) then 8 else 0) = .nilIface) := qhZ (by rw [if_neg hr]; rfl)
   go_enter Tryz.func111, Tryz.ntmps111
   go_wp2
   go_region_held3 (fun w' => w'.cell? ⟨d, 0, none⟩ = some (.slice o n0 c0) ∧ w'.cell? ⟨d, 1, none⟩ = some (.int .i64 room)) (first | exact KS.out _ (by (first | (with_reducible exact HK0.out) | (with_reducible exact aJ9 HK0.out) | (with_reducible exact HKa.out) | (with_reducible exact aJ9 HKa.out))))
     (first | (go_at_call 134; (with_reducible refine (bytesOf_is HSS.out (HN.out.below (by (first | (with_reducible exact HK0.out) | (with_reducible exact aJ9 HK0.out)))) HT.out HL.out).mono ?_); rintro e wa ⟨rfl, hba⟩; have HKa := qhZ (aZ9 (w := w) (by (first | (with_reducible exact HK0.out) | (with_reducible exact aJ9 HK0.out))) hba).2; clear hba))
   go_wp2
   go_ret
   exact ⟨rfl, HKa.out⟩
theorem sumD_set (ns : List Nod) (i : Nat) (q : Nod) (h : i < ns.length) : (sumD (ns.set i q) : Int) = (sumD ns : Int) - ((aC9 ns i).data.length : Int) + (q.data.length : Int) := by
 rw [show aC9 ns i = ns[i] from aR9 h]
 unfold sumD
 induction ns generalizing i with
 | nil => simp at h
 | cons a r ih =>
   cases i with
   | zero => simp; omega
   | succ k =>
     have := ih k (by simpa using h)
     simp only [List.set_cons_succ, List.map_cons, List.sum_cons, List.getElem_cons_succ]
     omega
end Go.Proofs.YtknhacblialboaaGreatDoor
namespace Go.Proofs.YtknhacblialboaaGreatDoor
open Go.ChangeShapes Go.WideShapes Go.ChangeAt Go.RowKit Go.Joins
set_option linter.unusedVariables false
set_option linter.unusedSimpArgs false
set_option maxHeartbeats 16000000
theorem sumD_app (ns : List Nod) (q : Nod) : sumD (ns ++ [q]) = sumD ns + q.data.length := by unfold sumD; simp
theorem sumD_put {F : FsD} {up : Nat} {nm : List UInt8} {y t : Int} (h : up < F.nodes.length) : sumD (putFs F up nm y t).nodes = sumD F.nodes := by
 have h1 := sumD_set F.nodes up (putN nm y t (aC9 F.nodes up)) h
 have h2 : (putN nm y t (aC9 F.nodes up)).data = (aC9 F.nodes up).data := rfl
 rw [h2] at h1
 show sumD (F.nodes.set up (putN nm y t (aC9 F.nodes up))) = _
 omega
theorem free_data {f : FsD} (hg : goodF f = true) {k : Nat} (hl : k < f.nodes.length) (hz : (aC9 f.nodes k).kind = 0) : (aC9 f.nodes k).data = [] := by
 have h := good_nods hg (aC9 f.nodes k) (by rw [show aC9 f.nodes k = f.nodes[k] from aR9 hl]; exact List.getElem_mem hl)
 rw [nodOkI_free hz] at h
 simp only [Bool.and_eq_true] at h
 exact List.isEmpty_iff.1 h.2.1
theorem sumD_new {f : FsD} (hg : goodF f = true) {k : Nat} (hk : (k : Int) = bE9 f.nodes) (q : Nod) : sumD (nodF f k q).nodes = sumD f.nodes + q.data.length := by
 have h0 : 0 ≤ bE9 f.nodes := by omega
 have hle := (free_lt h0).1
 have hkt : (bE9 f.nodes).toNat = k := by omega
 rw [hkt] at hle
 by_cases hkl : k = f.nodes.length
 · rw [hkl, nodF_app]; exact sumD_app _ _
 · have hlt : k < f.nodes.length := by omega
   have hz := free_kind h0 (by rw [hkt]; exact hlt)
   rw [hkt] at hz
   rw [nodF_set hkl]
   have h1 := sumD_set f.nodes k q hlt
   rw [free_data hg hlt hz] at h1
   simp only [List.length_nil] at h1
   show sumD (f.nodes.set k q) = _
   omega
theorem new_pre {u g md t : Int} (hc : credB u g = true) : inB 0 99 u = true ∧ inB 0 99 g = true := by unfold credB at hc; simpa using hc
theorem new_dir {u g md t : Int} (c : Int) (hm : inB 0 511 md = true) (hc : credB u g = true) (ht : inB 0 1000000 t = true) : bP9 c (newN u g 2 md t []) = true := by
 obtain ⟨h1, h2⟩ := new_pre (md := md) (t := t) hc
 have h3 : entsOkI c [] = true := rfl
 unfold bP9 newN
 simp [hm, h1, h2, ht, h3]
theorem new_file {u g md t : Int} (c : Int) (x : List UInt8) (hm : inB 0 511 md = true) (hc : credB u g = true) (ht : inB 0 1000000 t = true) : bP9 c (newN u g 1 md t x) = decide (x.length ≤ 60) := by
 obtain ⟨h1, h2⟩ := new_pre (md := md) (t := t) hc
 unfold bP9 newN
 simp [hm, h1, h2, ht]
theorem new_link {u g md t : Int} (c : Int) (x : List UInt8) (hm : inB 0 511 md = true) (hc : credB u g = true) (ht : inB 0 1000000 t = true) : bP9 c (newN u g 3 md t x) = goodB x := by
 obtain ⟨h1, h2⟩ := new_pre (md := md) (t := t) hc
 unfold bP9 newN
 simp [hm, h1, h2, ht]
set_option maxRecDepth 100000 in
theorem l5New_S (f : FsD) (v : Value) (u g : Int) (p : ByteArray) (kd md t : Int) (x : ByteArray) (w : World) (hR : FsA w v f) (hs : szF f ≤ 1048576) (hk : bC9 f u g = true) (hsp : p.size ≤ 1048576) (hsx : x.size ≤ 60) (up : Nat) (nm : List UInt8) (hfp : fp0 f.nodes u g p.data.toList = (0, up, nm)) (hup : up < f.nodes.length) (hkd2 : (aC9 f.nodes up).kind = 2) (hat : atE (aC9 f.nodes up).list nm = -1) (hmo : inB 0 511 (aC9 f.nodes up).mode = true) (hmb : mayB u g (aC9 f.nodes up).mode (aC9 f.nodes up).uid (aC9 f.nodes up).gid 3 = true) (hfn : 0 ≤ bE9 f.nodes) (hro : (sumD f.nodes : Int) + (x.size : Int) ≤ f.room) (hri : Rise (aC9 f.nodes up).list) (hie : isE (aC9 f.nodes up).list nm = false) (hnf : aV9 f.nodes) (hnl : nm.length ≤ 8) (k : Nat) (hkf : (k : Int) = bE9 f.nodes) (hkl : k < f.nodes.length) (hukne : up ≠ k) :
   Calls Tryz.prog 36 #[v, .agg #[.int .i64 u, .int .i64 g], .string p, .agg #[.int .i64 kd, .int .i64 md, .int .i64 0, .int .i64 0, .int .i64 t, .string x, .slice none 0 0]] w fun e w' => ∃ v', e = .returned (.tuple #[v', .int .i64 0]) ∧ FsA w' v' (putFs (nodF f k (newN u g kd md t x.data.toList)) up nm k t) ∧ Below w.heap.size w w' := by
 have HMO := qhZ hmo
 have HMB := qhZ hmb
 clear hmo hmb
 have HRI := qhZ hri
 have HIE := qhZ hie
 have HNF := qhZ hnf
 clear hri hie hnf
 have HR := qhZ hR
 obtain ⟨nv, rfl, hN⟩ := hR
 obtain ⟨o, c, rfl, hm, hH⟩ := hN
 have hpos : 0 < f.nodes.length := by have := lkFind_lt (look_of (bN9 hk) hs).1 u g [] false; omega
 obtain ⟨g0, f0, lv0, rfl, -⟩ := hH 0 hpos
 have HH := qhZ hH
 have HS := qhZ hs
 have HK := qhZ hk
 have HSP := qhZ hsp
 have hl : f.nodes.length ≤ 1048576 := (aG9 hs).1
 have HB0 : Hid (Below w.heap.size w ((((w.alloc (.cells #[.slice (some ⟨g0, f0, none⟩) f.nodes.length c, .int .i64 f.room] 30)).alloc (.cells #[.int .i64 u, .int .i64 g] 34)).alloc (.cells #[.int .i64 kd, .int .i64 md, .int .i64 0, .int .i64 0, .int .i64 t, .string x, .slice none 0 0] 55)).alloc (.cells #[.slice none 0 0, .int .i64 0] 30))) := qhZ (((((Below.refl _ _).alloc (Nat.le_refl _) _).alloc (by simp) _).alloc (by simp; omega) _).alloc (by simp; omega) _)
 have KA0 := qhZ (m4_0 w (.cells #[.slice (some ⟨g0, f0, none⟩) f.nodes.length c, .int .i64 f.room] 30) (.cells #[.int .i64 u, .int .i64 g] 34) (.cells #[.int .i64 kd, .int .i64 md, .int .i64 0, .int .i64 0, .int .i64 t, .string x, .slice none 0 0] 55) (.cells #[.slice none 0 0, .int .i64 0] 30))
 have KB0 := qhZ (m4_1 w (.cells #[.slice (some ⟨g0, f0, none⟩) f.nodes.length c, .int .i64 f.room] 30) (.cells #[.int .i64 u, .int .i64 g] 34) (.cells #[.int .i64 kd, .int .i64 md, .int .i64 0, .int .i64 0, .int .i64 t, .string x, .slice none 0 0] 55) (.cells #[.slice none 0 0, .int .i64 0] 30))
 have KN0 := qhZ (m4_2 w (.cells #[.slice (some ⟨g0, f0, none⟩) f.nodes.length c, .int .i64 f.room] 30) (.cells #[.int .i64 u, .int .i64 g] 34) (.cells #[.int .i64 kd, .int .i64 md, .int .i64 0, .int .i64 0, .int .i64 t, .string x, .slice none 0 0] 55) (.cells #[.slice none 0 0, .int .i64 0] 30))
 have KZ0 := qhZ (m4_3 w (.cells #[.slice (some ⟨g0, f0, none⟩) f.nodes.length c, .int .i64 f.room] 30) (.cells #[.int .i64 u, .int .i64 g] 34) (.cells #[.int .i64 kd, .int .i64 md, .int .i64 0, .int .i64 0, .int .i64 t, .string x, .slice none 0 0] 55) (.cells #[.slice none 0 0, .int .i64 0] 30))
 obtain ⟨fa, hfa⟩ : ∃ fa, bE9 f.nodes = fa := ⟨_, rfl⟩
 have HFA := qhZ hfa
 have HFP := qhZ hfp
 clear hH hs hk hsp hm hfp
 rw [hfa] at hfn hkf
 subst hkf
 obtain ⟨g4, f4, lv4, e4, hcc4, hee4⟩ := bL9 (c := c) HH.out hup (Below.refl w.heap.size w)
 have d6w := hcc4.c6
 simp only [Option.some.injEq, Addr.mk.injEq, and_true] at e4
 obtain ⟨rfl, rfl⟩ := e4
 obtain ⟨oe, ce, rfl, hle, -⟩ := id hee4
 have HEE := qhZ hee4
 have hg0 : g0 < w.heap.size := by obtain ⟨a1, a2, a3, a4, a5, -⟩ := HH.out up hup; simp only [Option.some.injEq, Addr.mk.injEq, and_true] at a4; rw [a4.1]; exact a5
 have HLL : Hid ((aC9 f.nodes up).list.length ≤ 1048576) := qhZ ((aG9 HS.out).2 (aC9 f.nodes up) (by rw [show aC9 f.nodes up = f.nodes[up] from aR9 hup]; exact List.getElem_mem hup)).1
 obtain ⟨xn, hxn⟩ : ∃ xn, xn = bs nm := ⟨_, rfl⟩
 have hxl : xn.data.toList = nm := by rw [hxn]; exact aY9 _
 have HAT : Hid (atE (aC9 f.nodes up).list xn.data.toList = -1) := qhZ (by rw [hxl]; exact hat)
 have HXN := qhZ hxn
 clear hcc4 hee4 hxl hat hfa
 go_enter Tryz.func36, Tryz.ntmps36
 go_wp2_with fail
 refine (l4Place_is HFP.out (HR.out.below HB0.out) HS.out HK.out HSP.out).mono ?_
 rintro e w1 ⟨rfl, hb1⟩
 rw [← hxn]
 clear hxn
 have HB1 := qhZ (HB0.out.trans (hb1.mono HB0.out.size))
 have KA1 := qhZ (aD9 hb1 KA0.out)
 have KB1 := qhZ (aD9 hb1 KB0.out)
 have KN1 := qhZ (aD9 hb1 KN0.out)
 have KZ1 := qhZ (aD9 hb1 KZ0.out)
 clear hb1
 have KA1c0 : w1.cell? ⟨w.heap.size, 0, none⟩ = some (.slice (some ⟨g0, f0, none⟩) f.nodes.length c) := aA9 KA1.out 0
 have KA1c1 : w1.cell? ⟨w.heap.size, 1, none⟩ = some (.int .i64 f.room) := aA9 KA1.out 1
 go_wp2_with fail
 refine (freeAt_is HFA.out (HR.out.below HB1.out) hl).mono ?_
 rintro e w2 ⟨rfl, hb2⟩
 have HB2 := qhZ (HB1.out.trans (hb2.mono HB1.out.size))
 have KA2 := qhZ (aD9 hb2 KA1.out)
 have KB2 := qhZ (aD9 hb2 KB1.out)
 have KN2 := qhZ (aD9 hb2 KN1.out)
 have KZ2 := qhZ (aD9 hb2 KZ1.out)
 clear hb2
 clear KA1c0 KA1c1
 have KA2c0 : w2.cell? ⟨w.heap.size, 0, none⟩ = some (.slice (some ⟨g0, f0, none⟩) f.nodes.length c) := aA9 KA2.out 0
 have KA2c1 : w2.cell? ⟨w.heap.size, 1, none⟩ = some (.int .i64 f.room) := aA9 KA2.out 1
 have d6 := (HB2.out.cell (p := ⟨g0, f0 + up * 7 + 6, none⟩) hg0).trans d6w
 go_wp2_with fail
 refine (l3At_isA HAT.out (HEE.out.below HB2.out) HLL.out).mono ?_
 rintro e w3 ⟨rfl, hb3⟩
 have HB3 := qhZ (HB2.out.trans (hb3.mono HB2.out.size))
 have KA3 := qhZ (aD9 hb3 KA2.out)
 have KB3 := qhZ (aD9 hb3 KB2.out)
 have KN3 := qhZ (aD9 hb3 KN2.out)
 have KZ3 := qhZ (aD9 hb3 KZ2.out)
 clear hb3
 clear KA2c0 KA2c1
 clear d6 d6w
 have KA3c0 : w3.cell? ⟨w.heap.size, 0, none⟩ = some (.slice (some ⟨g0, f0, none⟩) f.nodes.length c) := aA9 KA3.out 0
 have KA3c1 : w3.cell? ⟨w.heap.size, 1, none⟩ = some (.int .i64 f.room) := aA9 KA3.out 1
 have KB3c0 : w3.cell? ⟨w.heap.size + 1, 0, none⟩ = some (.int .i64 u) := aA9 KB3.out 0
 have KB3c1 : w3.cell? ⟨w.heap.size + 1, 1, none⟩ = some (.int .i64 g) := aA9 KB3.out 1
 go_wp2_with fail
 refine (l5Change_is HMB.out (HR.out.below HB3.out) hup HMO.out hl).mono ?_
 rintro e w4 ⟨rfl, hb4⟩
 have HB4 := qhZ (HB3.out.trans (hb4.mono HB3.out.size))
 have KA4 := qhZ (aD9 hb4 KA3.out)
 have KB4 := qhZ (aD9 hb4 KB3.out)
 have KN4 := qhZ (aD9 hb4 KN3.out)
 have KZ4 := qhZ (aD9 hb4 KZ3.out)
 clear hb4
 clear KA3c0 KA3c1 KB3c0 KB3c1
 have hnn : ¬ ((k : Int) < 0) := by omega
 have HFR4 := qhZ (HR.out.below HB4.out)
 obtain ⟨SS, hSS⟩ : ∃ SS, sumD f.nodes = SS := ⟨_, rfl⟩
 have HSU := qhZ hSS
 have hS8 : SS ≤ 1048576 := by have := sumD_le f.nodes; have := HS.out; unfold szF at this; omega
 have HBY : Hid (∀ W, Below w4.heap.size w4 W → Calls Tryz.prog 66 #[.agg #[.slice (some ⟨g0, f0, none⟩) f.nodes.length c, .int .i64 f.room]] W fun e w' => e = .returned (.int .i64 (SS : Int)) ∧ Below W.heap.size W w') := qhZ (fun W h => bytes_is HSU.out (HFR4.out.below h) HS.out)
 have hw1 : IntKind.i64.wrap ((SS : Int) + (x.size : Int)) = (SS : Int) + (x.size : Int) := IntWalk.i64_in _ (by omega)
 rw [hSS] at hro
 have hro' : ¬ (f.room < (SS : Int) + (x.size : Int)) := by omega
 clear hSS
 have KA4c0 : w4.cell? ⟨w.heap.size, 0, none⟩ = some (.slice (some ⟨g0, f0, none⟩) f.nodes.length c) := aA9 KA4.out 0
 have KA4c1 : w4.cell? ⟨w.heap.size, 1, none⟩ = some (.int .i64 f.room) := aA9 KA4.out 1
 have KN4c5 : w4.cell? ⟨w.heap.size + 2, 5, none⟩ = some (.string x) := aA9 KN4.out 5
 have v0 := fun d os => cell_regrown (w := w4) KA4c0 d os
 have v1 := fun d os => cell_regrown (w := w4) KA4c1 d os
 have v2 := fun d os => cell_regrown (w := w4) KN4c5 d os
 go_wp2
 refine wp_region_quiet_below (by kernel_rfl) (by kernel_rfl) ?_
 repeat (first | go_big_quiet_step ((go_at_call 66; exact Calls.regrown_of (HBY.out _ (below_regrown _ _ _)))) | quiet_step ((go_at_call 66; exact Calls.regrown_of (HBY.out _ (below_regrown _ _ _)))))
 refine wpQuiet_nil ?_
 intro w5 hwq
 have HQ5 : Hid (Below w4.heap.size w4 w5) := qhZ (by obtain ⟨pp, rfl⟩ := hwq; exact below_regrown _ _ _)
 clear hwq v0 v1 v2 KN4c5
 clear KA4c0 KA4c1
 have HB5 := qhZ (HB4.out.trans (HQ5.out.mono HB4.out.size))
 have KA5 := qhZ (aD9 HQ5.out KA4.out)
 have KB5 := qhZ (aD9 HQ5.out KB4.out)
 have KN5 := qhZ (aD9 HQ5.out KN4.out)
 have KZ5 := qhZ (aD9 HQ5.out KZ4.out)
 have KA5c0 : w5.cell? ⟨w.heap.size, 0, none⟩ = some (.slice (some ⟨g0, f0, none⟩) f.nodes.length c) := aA9 KA5.out 0
 have KA5c1 : w5.cell? ⟨w.heap.size, 1, none⟩ = some (.int .i64 f.room) := aA9 KA5.out 1
 have KB5c0 : w5.cell? ⟨w.heap.size + 1, 0, none⟩ = some (.int .i64 u) := aA9 KB5.out 0
 have KB5c1 : w5.cell? ⟨w.heap.size + 1, 1, none⟩ = some (.int .i64 g) := aA9 KB5.out 1
 have KN5c2 : w5.cell? ⟨w.heap.size + 2, 2, none⟩ = some (.int .i64 0) := aA9 KN5.out 2
 have KN5c3 : w5.cell? ⟨w.heap.size + 2, 3, none⟩ = some (.int .i64 0) := aA9 KN5.out 3
 have KN5f := aE9 KN5.out
 have KNs : Hid (((w5.setCell ⟨w.heap.size + 2, 2, none⟩ (.int .i64 u)).setCell ⟨w.heap.size + 2, 3, none⟩ (.int .i64 g)).heap[w.heap.size + 2]? = some (.cells #[.int .i64 kd, .int .i64 md, .int .i64 u, .int .i64 g, .int .i64 t, .string x, .slice none 0 0] 55)) := qhZ (heap_setCell_same _ (w.heap.size + 2) 3 _ 55 (.int .i64 g) (heap_setCell_same w5 (w.heap.size + 2) 2 _ 55 (.int .i64 u) KN5.out))
 have KAs : Hid (((w5.setCell ⟨w.heap.size + 2, 2, none⟩ (.int .i64 u)).setCell ⟨w.heap.size + 2, 3, none⟩ (.int .i64 g)).heap[w.heap.size]? = some (.cells #[.slice (some ⟨g0, f0, none⟩) f.nodes.length c, .int .i64 f.room] 30)) := qhZ ((Below.heap_setCell _ ⟨w.heap.size + 2, 3, none⟩ _ _ (by simp)).trans ((Below.heap_setCell _ ⟨w.heap.size + 2, 2, none⟩ _ _ (by simp)).trans KA5.out))
 have KBs : Hid (((w5.setCell ⟨w.heap.size + 2, 2, none⟩ (.int .i64 u)).setCell ⟨w.heap.size + 2, 3, none⟩ (.int .i64 g)).heap[w.heap.size + 1]? = some (.cells #[.int .i64 u, .int .i64 g] 34)) := qhZ ((Below.heap_setCell _ ⟨w.heap.size + 2, 3, none⟩ _ _ (by simp)).trans ((Below.heap_setCell _ ⟨w.heap.size + 2, 2, none⟩ _ _ (by simp)).trans KB5.out))
 have KZs : Hid (((w5.setCell ⟨w.heap.size + 2, 2, none⟩ (.int .i64 u)).setCell ⟨w.heap.size + 2, 3, none⟩ (.int .i64 g)).heap[w.heap.size + 3]? = some (.cells #[.slice none 0 0, .int .i64 0] 30)) := qhZ ((Below.heap_setCell _ ⟨w.heap.size + 2, 3, none⟩ _ _ (by simp)).trans ((Below.heap_setCell _ ⟨w.heap.size + 2, 2, none⟩ _ _ (by simp)).trans KZ5.out))
 have HBs : Hid (Below w.heap.size w ((w5.setCell ⟨w.heap.size + 2, 2, none⟩ (.int .i64 u)).setCell ⟨w.heap.size + 2, 3, none⟩ (.int .i64 g))) := qhZ ((HB5.out.setCell (p := ⟨w.heap.size + 2, 2, none⟩) (by simp) _).setCell (p := ⟨w.heap.size + 2, 3, none⟩) (by simp) _)
 have KSc0 : (w5.setCell ⟨w.heap.size + 2, 2, none⟩ (.int .i64 u)).cell? ⟨w.heap.size + 1, 1, none⟩ = some (.int .i64 g) := aA9 ((Below.heap_setCell _ ⟨w.heap.size + 2, 2, none⟩ _ _ (by simp)).trans KB5.out) 1
 have KSc1 : ((w5.setCell ⟨w.heap.size + 2, 2, none⟩ (.int .i64 u)).setCell ⟨w.heap.size + 2, 3, none⟩ (.int .i64 g)).cell? ⟨w.heap.size, 0, none⟩ = some (.slice (some ⟨g0, f0, none⟩) f.nodes.length c) := aA9 KAs.out 0
 have KSc2 : ((w5.setCell ⟨w.heap.size + 2, 2, none⟩ (.int .i64 u)).setCell ⟨w.heap.size + 2, 3, none⟩ (.int .i64 g)).cell? ⟨w.heap.size, 1, none⟩ = some (.int .i64 f.room) := aA9 KAs.out 1
 go_wp2_with fail
 refine (l3Own_any f _ _ (HR.out.below HBs.out) HS.out).mono ?_
 rintro e w6 ⟨nv6, ps6, rfl, hp6, hO6, hb6⟩
 obtain ⟨oo6, cc6, rfl, -⟩ := aM9 hO6.row
 have hlen6 : ps6.length = f.nodes.length := by rw [← hp6]; simp
 have HLN := qhZ hlen6
 have hpl8 : ps6.length ≤ 1048576 := by omega
 have HP6 := qhZ hp6
 have HB6 := qhZ (HBs.out.trans (hb6.mono HBs.out.size))
 have KN6 := qhZ (aD9 hb6 KNs.out)
 have KZ6 := qhZ (aD9 hb6 KZs.out)
 have hsz3 : w.heap.size + 3 < w5.heap.size := aB9 KZ5.out
 have hsz6 : w.heap.size + 3 < w6.heap.size := aB9 KZ6.out
 have HO6 := qhZ (hO6.low (R := w.heap.size + 4) (by simp; omega))
 have hlt6 : ∀ b, (Value.slice oo6 ps6.length cc6).ownBlock = some b → b < w6.heap.size := HO6.out.ltE.1
 have HB7 := qhZ (HB6.out.alloc HB6.out.size (.cells #[.slice oo6 ps6.length cc6, .int .i64 f.room] 30))
 have KO7 := qhZ (heap_alloc_new w6 (.cells #[.slice oo6 ps6.length cc6, .int .i64 f.room] 30))
 have HO7 := qhZ (HO6.out.below ((Below.refl _ w6).alloc (Nat.le_refl _) (.cells #[.slice oo6 ps6.length cc6, .int .i64 f.room] 30)))
 have KN7 := qhZ ((Below.heap_alloc w6 (.cells #[.slice oo6 ps6.length cc6, .int .i64 f.room] 30) _ (aB9 KN6.out)).trans KN6.out)
 have KZ7 := qhZ ((Below.heap_alloc w6 (.cells #[.slice oo6 ps6.length cc6, .int .i64 f.room] 30) _ (aB9 KZ6.out)).trans KZ6.out)
 have ko0 : (w6.alloc (.cells #[.slice oo6 ps6.length cc6, .int .i64 f.room] 30)).cell? ⟨w6.heap.size, 0, none⟩ = some (.slice oo6 ps6.length cc6) := aA9 KO7.out 0
 clear hp6 hO6 hb6 hlen6 KN5c2 KN5c3 KN5f KSc0 KSc1 KSc2
 go_upto_if 75 with fail
 obtain ⟨W7, hW7⟩ : ∃ W7, W7 = w6.alloc (.cells #[.slice oo6 ps6.length cc6, .int .i64 f.room] 30) := ⟨_, rfl⟩
 have hs7 : W7.heap.size = w6.heap.size + 1 := by rw [hW7, World.size_alloc]
 rw [← hW7] at HB7 KO7 HO7 KN7 KZ7 ko0 ⊢
 have HS7 := qhZ hs7
 clear hW7 hs7
 have hkl6 : k < ps6.length := by have := HLN.out; omega
 have hkle : k ≤ f.nodes.length := Nat.le_of_lt hkl
 obtain ⟨g9, cap9, e9, hRg, hgl, hn9, hm9, hc9, hfr9⟩ := HO7.out.at (i := k) hkl6
 simp only [Value.slice.injEq, true_and] at e9
 obtain ⟨rfl, rfl⟩ := e9
 have hg6 : g9 < w6.heap.size := hlt6 g9 rfl
 have q0 := hc9.c0
 have q1 := hc9.c1
 have q2 := hc9.c2
 have q3 := hc9.c3
 have q4 := hc9.c4
 have q5 := hc9.c5
 have q6 := hc9.c6
 have n0 : W7.cell? ⟨w.heap.size + 2, 0, none⟩ = some (.int .i64 kd) := aA9 KN7.out 0
 have n1 : W7.cell? ⟨w.heap.size + 2, 1, none⟩ = some (.int .i64 md) := aA9 KN7.out 1
 have n2 : W7.cell? ⟨w.heap.size + 2, 2, none⟩ = some (.int .i64 u) := aA9 KN7.out 2
 have n3 : W7.cell? ⟨w.heap.size + 2, 3, none⟩ = some (.int .i64 g) := aA9 KN7.out 3
 have n4 : W7.cell? ⟨w.heap.size + 2, 4, none⟩ = some (.int .i64 t) := aA9 KN7.out 4
 have n5 : W7.cell? ⟨w.heap.size + 2, 5, none⟩ = some (.string x) := aA9 KN7.out 5
 have n6 : W7.cell? ⟨w.heap.size + 2, 6, none⟩ = some (.slice none 0 0) := aA9 KN7.out 6
 have hnlk : ((k : Int) == (ps6.length : Int)) = false := beq_eq_false_iff_ne.2 (by omega)
 have hge9 : w.heap.size + 4 ≤ g9 := hRg
 have HOW0 : Hid (Own (((((((W7.setCell ⟨g9, k * 7, none⟩ (.int .i64 kd)).setCell ⟨g9, k * 7 + 1, none⟩ (.int .i64 md)).setCell ⟨g9, k * 7 + 2, none⟩ (.int .i64 u)).setCell ⟨g9, k * 7 + 3, none⟩ (.int .i64 g)).setCell ⟨g9, k * 7 + 4, none⟩ (.int .i64 t)).setCell ⟨g9, k * 7 + 5, none⟩ (.string x)).setCell ⟨g9, k * 7 + 6, none⟩ (.slice none 0 0)) (w.heap.size + 4) (.slice (some ⟨g9, 0, none⟩) ps6.length cc6) (ps6.set k (newN u g kd md t x.data.toList, .slice none 0 0))) := qhZ (HO7.out.whole (i := k) hkl6 (newN u g kd md t x.data.toList) rfl)
 have KO9 : Hid ((((((((W7.setCell ⟨g9, k * 7, none⟩ (.int .i64 kd)).setCell ⟨g9, k * 7 + 1, none⟩ (.int .i64 md)).setCell ⟨g9, k * 7 + 2, none⟩ (.int .i64 u)).setCell ⟨g9, k * 7 + 3, none⟩ (.int .i64 g)).setCell ⟨g9, k * 7 + 4, none⟩ (.int .i64 t)).setCell ⟨g9, k * 7 + 5, none⟩ (.string x)).setCell ⟨g9, k * 7 + 6, none⟩ (.slice none 0 0)).heap[w6.heap.size]? = some (.cells #[.slice (some ⟨g9, 0, none⟩) ps6.length cc6, .int .i64 f.room] 30)) := qhZ ((row_ne (by omega) _ _ _ _ _ _ _).trans KO7.out)
 have KN9 : Hid ((((((((W7.setCell ⟨g9, k * 7, none⟩ (.int .i64 kd)).setCell ⟨g9, k * 7 + 1, none⟩ (.int .i64 md)).setCell ⟨g9, k * 7 + 2, none⟩ (.int .i64 u)).setCell ⟨g9, k * 7 + 3, none⟩ (.int .i64 g)).setCell ⟨g9, k * 7 + 4, none⟩ (.int .i64 t)).setCell ⟨g9, k * 7 + 5, none⟩ (.string x)).setCell ⟨g9, k * 7 + 6, none⟩ (.slice none 0 0)).heap[w.heap.size + 2]? = some (.cells #[.int .i64 kd, .int .i64 md, .int .i64 u, .int .i64 g, .int .i64 t, .string x, .slice none 0 0] 55)) := qhZ ((row_ne (by omega) _ _ _ _ _ _ _).trans KN7.out)
 have KZ9 : Hid ((((((((W7.setCell ⟨g9, k * 7, none⟩ (.int .i64 kd)).setCell ⟨g9, k * 7 + 1, none⟩ (.int .i64 md)).setCell ⟨g9, k * 7 + 2, none⟩ (.int .i64 u)).setCell ⟨g9, k * 7 + 3, none⟩ (.int .i64 g)).setCell ⟨g9, k * 7 + 4, none⟩ (.int .i64 t)).setCell ⟨g9, k * 7 + 5, none⟩ (.string x)).setCell ⟨g9, k * 7 + 6, none⟩ (.slice none 0 0)).heap[w.heap.size + 3]? = some (.cells #[.slice none 0 0, .int .i64 0] 30)) := qhZ ((row_ne (by omega) _ _ _ _ _ _ _).trans KZ7.out)
 have HB9 : Hid (Below w.heap.size w (((((((W7.setCell ⟨g9, k * 7, none⟩ (.int .i64 kd)).setCell ⟨g9, k * 7 + 1, none⟩ (.int .i64 md)).setCell ⟨g9, k * 7 + 2, none⟩ (.int .i64 u)).setCell ⟨g9, k * 7 + 3, none⟩ (.int .i64 g)).setCell ⟨g9, k * 7 + 4, none⟩ (.int .i64 t)).setCell ⟨g9, k * 7 + 5, none⟩ (.string x)).setCell ⟨g9, k * 7 + 6, none⟩ (.slice none 0 0))) := qhZ (bel_row HB7.out (by omega) _ _ _ _ _ _ _)
 clear hc9 hlt6 hle
 have HNLK := qhZ hnlk
 clear hnlk
 refine wp_cond (t := ((k : Int) == (ps6.length : Int))) rfl ?_
 rw [HNLK.out]
 simp only [Bool.false_eq_true, if_false]
 go_upto_region 17 with fail
 obtain ⟨W9, hW9⟩ : ∃ W9, W9 = (((((((W7.setCell ⟨g9, k * 7, none⟩ (.int .i64 kd)).setCell ⟨g9, k * 7 + 1, none⟩ (.int .i64 md)).setCell ⟨g9, k * 7 + 2, none⟩ (.int .i64 u)).setCell ⟨g9, k * 7 + 3, none⟩ (.int .i64 g)).setCell ⟨g9, k * 7 + 4, none⟩ (.int .i64 t)).setCell ⟨g9, k * 7 + 5, none⟩ (.string x)).setCell ⟨g9, k * 7 + 6, none⟩ (.slice none 0 0)) := ⟨_, rfl⟩
 rw [← hW9] at HOW0 KO9 KN9 KZ9 HB9 ⊢
 clear hW9 q0 q1 q2 q3 q4 q5 q6 n0 n1 n2 n3 n4 n5 n6 ko0
 obtain ⟨qs, hqs⟩ : ∃ qs, qs = ps6.set k (newN u g kd md t x.data.toList, .slice none 0 0) := ⟨_, rfl⟩
 have hql : qs.length = ps6.length := by rw [hqs]; simp
 have hqe : qs.map Prod.fst = (nodF f k (newN u g kd md t x.data.toList)).nodes := by rw [hqs, List.map_set, HP6.out, nodF_set (by omega)]
 have HMQ := qhZ hqe
 have HOW : Hid (Own W9 (w.heap.size + 4) (.slice (some ⟨g9, 0, none⟩) qs.length cc6) qs) := qhZ (by rw [hql, hqs]; exact HOW0.out)
 have KOs : Hid (W9.heap[w6.heap.size]? = some (.cells #[.slice (some ⟨g9, 0, none⟩) qs.length cc6, .int .i64 f.room] 30)) := qhZ (by rw [hql]; exact KO9.out)
 have hlen : (Value.int .i64 (ps6.length : Nat)) = Value.int .i64 (qs.length : Nat) := by rw [hql]
 have hq8 : qs.length ≤ 1048577 := by omega
 clear hqe hqs hql hlen
 obtain ⟨F9, hF9⟩ : ∃ F9 : FsD, F9 = nodF f k (newN u g kd md t x.data.toList) := ⟨_, rfl⟩
 have HF9 := qhZ hF9
 have hM9 : (qs.map Prod.fst) = F9.nodes := by rw [hF9]; exact HMQ.out
 have HFA9 : Hid (FsA W9 (.agg #[.slice (some ⟨g9, 0, none⟩) qs.length cc6, .int .i64 f.room]) F9) := qhZ (by
   have h := HOW.out.read f.room (by rw [hM9, hF9]; exact nodF_fit HNF.out (by show x.data.toList.length ≤ maxLen; rw [aW9]; unfold maxLen; omega) rfl)
   rw [hM9] at h
   have e9 : F9.room = f.room := by rw [hF9]; rfl
   rw [show F9 = ⟨F9.nodes, f.room⟩ from by rw [← e9]]
   exact h)
 have HZ9 : Hid (szF F9 ≤ 2097152) := qhZ (by
   rw [HF9.out]
   have h1 := nodF_sz (f := f) (k := k) (n := newN u g kd md t x.data.toList) hkle
   have h2 : szN (newN u g kd md t x.data.toList) = x.size := by unfold szN newN; simp [lensE, aW9]
   have h3 := HS.out
   omega)
 have HPU : Hid (∀ W, FsA W (.agg #[.slice (some ⟨g9, 0, none⟩) qs.length cc6, .int .i64 f.room]) F9 → Calls Tryz.prog 67 #[.agg #[.slice (some ⟨g9, 0, none⟩) qs.length cc6, .int .i64 f.room], .int .i64 up, .string xn, .int .i64 k, .int .i64 t] W fun e w' => ∃ nv ps, e = .returned (.agg #[nv, .int .i64 f.room]) ∧ ps.map Prod.fst = (putFs F9 up nm k t).nodes ∧ Own w' W.heap.size nv ps ∧ Below W.heap.size W w') := qhZ (fun W h => by
   have hq := l5Put_big F9 _ up nm k t W h HZ9.out
     (by rw [HF9.out, nodF_at hup hukne]; exact HLL.out) (by rw [HF9.out]; exact Nat.lt_of_lt_of_le hup nodF_len.1) (by rw [HF9.out, nodF_at hup hukne]; exact HRI.out) (by rw [HF9.out, nodF_at hup hukne]; exact HIE.out)
   rw [HXN.out]
   have e9 : F9.room = f.room := by rw [HF9.out]; rfl
   rw [e9] at hq
   exact hq)
 have jo0 : W9.cell? ⟨w6.heap.size, 0, none⟩ = some (.slice (some ⟨g9, 0, none⟩) qs.length cc6) := aA9 KOs.out 0
 have jo1 : W9.cell? ⟨w6.heap.size, 1, none⟩ = some (.int .i64 f.room) := aA9 KOs.out 1
 have jn4 : W9.cell? ⟨w.heap.size + 2, 4, none⟩ = some (.int .i64 t) := aA9 KN9.out 4
 clear hF9 hM9
 go_wp2_with fail
 refine (HPU.out _ HFA9.out).mono ?_
 rintro e wz ⟨nvz, psz, rfl, hpz, hOz, hbz⟩
 obtain ⟨ooz, ccz, rfl, -⟩ := aM9 hOz.row
 have HBz := qhZ (HB9.out.trans (hbz.mono HB9.out.size))
 have KZz := qhZ (aD9 hbz KZ9.out)
 have HPz := qhZ hpz
 have HOz := qhZ hOz
 have hw9 : w.heap.size + 3 < W9.heap.size := aB9 KZ9.out
 have z0 : wz.cell? ⟨w.heap.size + 3, 0, none⟩ = some (.slice none 0 0) := aA9 KZz.out 0
 have z1 : wz.cell? ⟨w.heap.size + 3, 1, none⟩ = some (.int .i64 0) := aA9 KZz.out 1
 have zf := aE9 KZz.out
 clear hpz hOz hbz jo0 jo1 jn4
 go_wp2
 have hq := bG9 KZz.out (.slice ooz psz.length ccz) (.int .i64 f.room)
 have t0 := (aA9 hq 0).trans rfl
 have t1 := (aA9 hq 1).trans rfl
 refine bodyPost_ret (v := .tuple #[.agg #[.slice ooz psz.length ccz, .int .i64 f.room], .int .i64 0]) (by simp [results, Tryz.results36, go_sem, t0, t1]) rfl ?_
 have hB9 := aP9 (G := w.heap.size + 3) (x := (.slice ooz psz.length ccz)) (y := .int .i64 f.room) HBz.out (by omega)
 have hA9 := ((HOz.out.besides (b := w.heap.size + 3) hw9 0 (.slice ooz psz.length ccz)).besides (b := w.heap.size + 3) hw9 1 (.int .i64 f.room)).read f.room (by rw [HPz.out, HF9.out]; exact putFs_fit (Nat.lt_of_lt_of_le hup nodF_len.1) (nodF_fit HNF.out (by show x.data.toList.length ≤ maxLen; rw [aW9]; unfold maxLen; omega) rfl) (by unfold maxLen; omega))
 rw [HPz.out, HF9.out] at hA9
 first
   | exact ⟨_, rfl, hA9, hB9⟩
   | exact ⟨rfl, hA9, hB9⟩
end Go.Proofs.YtknhacblialboaaGreatDoor
