/-
  Joined: TryC TabH.
  Conditions: as each states.
-/
import Derived.Deep.DeepHandedRow
import Derived.LaidLaws
import Derived.LaidHandle
import Derived.Test.YtknhacblialboaaGreatDoorCards
import Derived.Test.YtknhacblialboaaGreatDoorTie
import Derived.Test.YtknhacblialboaaGreatDoorLib3
import Derived.Test.YtknhacblialboaaGreatDoorLib15
namespace Go.Proofs.YtknhacblialboaaGreatDoor
open Go.ChangeShapes Go.WideShapes Go.ChangeAt Go.RowKit Go.Joins
set_option linter.unusedVariables false
set_option linter.unusedSimpArgs false
set_option maxHeartbeats 16000000
theorem tryOn_no (f : FsD) (v : Value) (u g t : Int) (j : FuncId) (cap : Array Value) (w : World) (hR : FsA w v f) (hs : szF f ≤ 1048576) (hk : (bC9 f u g && inB 0 1000000 t) = false) :
   Calls Tryz.prog 45 #[v, .agg #[.int .i64 u, .int .i64 g], .int .i64 t, .func (.func j) #[] cap] w fun e w' => e = .returned (.tuple #[.agg #[.slice none 0 0, .int .i64 0], .int .i64 0, .bool false]) ∧ Below w.heap.size w w' := by
 have HR := qhZ hR
 obtain ⟨nv0, rfl, hN⟩ := hR
 obtain ⟨o, c, rfl, -, -⟩ := hN
 have HS := qhZ hs
 have hb0 : Below w.heap.size w ((((w.alloc (.cells #[.slice o f.nodes.length c, .int .i64 f.room] 30)).alloc (.cells #[.int .i64 u, .int .i64 g] 34)).alloc (.cells #[.slice none 0 0, .int .i64 0] 30)).alloc (.cells #[.int .i64 0] 3)) := (((((Below.refl _ _).alloc (Nat.le_refl _) _).alloc (by simp) _).alloc (by simp; omega) _).alloc (by simp; omega) _)
 have HB0 := qhZ hb0
 have HG0 := qhZ (al4_2 w (.cells #[.slice o f.nodes.length c, .int .i64 f.room] 30) (.cells #[.int .i64 u, .int .i64 g] 34) (.cells #[.slice none 0 0, .int .i64 0] 30) (.cells #[.int .i64 0] 3))
 have HN0 := qhZ (al4_3 w (.cells #[.slice o f.nodes.length c, .int .i64 f.room] 30) (.cells #[.int .i64 u, .int .i64 g] 34) (.cells #[.slice none 0 0, .int .i64 0] 30) (.cells #[.int .i64 0] 3))
 cases hq : bC9 f u g with
 | false =>
   have HK := qhZ hq
   clear hs hk hb0 hq
   go_enter_defers Tryz.func45, Tryz.ntmps45
   go_wp2_with fail
   refine (canLook_is HK.out (HR.out.below HB0.out) HS.out).mono ?_
   rintro e w1 ⟨rfl, hb1⟩
   have HB1 := qhZ (HB0.out.trans (hb1.mono HB0.out.size))
   have HG1 := qhZ ((hb1.block _ (aB9 HG0.out)).trans HG0.out)
   have HN1 := qhZ ((hb1.block _ (aB9 HN0.out)).trans HN0.out)
   have g0 := (aA9 HG1.out 0).trans rfl
   have g1 := (aA9 HG1.out 1).trans rfl
   have gf := aE9 HG1.out
   have n0 := (aA9 HN1.out 0).trans rfl
   have nf := aE9 HN1.out
   have hg2 := set_two HG1.out (.slice none 0 0) (.int .i64 0)
   have hn2 := set_one ((Below.heap_setCell _ ⟨w.heap.size + 2, 1, none⟩ (.int .i64 0) (w.heap.size + 3) (by simp only; omega)).trans ((Below.heap_setCell _ ⟨w.heap.size + 2, 0, none⟩ (.slice none 0 0) (w.heap.size + 3) (by simp only; omega)).trans HN1.out)) (.int .i64 0)
   have hg3 := (Below.heap_setCell ((w1.setCell ⟨w.heap.size + 2, 0, none⟩ (.slice none 0 0)).setCell ⟨w.heap.size + 2, 1, none⟩ (.int .i64 0)) ⟨w.heap.size + 3, 0, none⟩ (.int .i64 0) (w.heap.size + 2) (by simp only; omega)).trans hg2
   have r0 := (aA9 hg3 0).trans rfl
   have r1 := (aA9 hg3 1).trans rfl
   have r2 := (aA9 hn2 0).trans rfl
   clear hb1 hg2 hg3 hn2
   go_wp2
   exact ⟨.tuple #[.agg #[.slice none 0 0, .int .i64 0], .int .i64 0, .bool false], by simp [results, Tryz.results45, go_sem, r0, r1, r2], rfl, ((HB1.out.setCell (p := ⟨w.heap.size + 2, 0, none⟩) (by simp only; omega) _).setCell (p := ⟨w.heap.size + 2, 1, none⟩) (by simp only; omega) _).setCell (p := ⟨w.heap.size + 3, 0, none⟩) (by simp only; omega) _⟩
 | true =>
   have HK := qhZ hq
   have HTM : Hid (inB 0 1000000 t = false) := qhZ (by rw [hq] at hk; simpa using hk)
   clear hs hk hb0 hq
   go_enter_defers Tryz.func45, Tryz.ntmps45
   go_wp2_with fail
   refine (canLook_is HK.out (HR.out.below HB0.out) HS.out).mono ?_
   rintro e w1 ⟨rfl, hb1⟩
   have HB1 := qhZ (HB0.out.trans (hb1.mono HB0.out.size))
   have HG1 := qhZ ((hb1.block _ (aB9 HG0.out)).trans HG0.out)
   have HN1 := qhZ ((hb1.block _ (aB9 HN0.out)).trans HN0.out)
   go_wp2_with fail
   refine (isTime_any _ _).mono ?_
   rintro e w1b ⟨rfl, rfl⟩
   rw [HTM.out]
   have g0 := (aA9 HG1.out 0).trans rfl
   have g1 := (aA9 HG1.out 1).trans rfl
   have gf := aE9 HG1.out
   have n0 := (aA9 HN1.out 0).trans rfl
   have nf := aE9 HN1.out
   have hg2 := set_two HG1.out (.slice none 0 0) (.int .i64 0)
   have hn2 := set_one ((Below.heap_setCell _ ⟨w.heap.size + 2, 1, none⟩ (.int .i64 0) (w.heap.size + 3) (by simp only; omega)).trans ((Below.heap_setCell _ ⟨w.heap.size + 2, 0, none⟩ (.slice none 0 0) (w.heap.size + 3) (by simp only; omega)).trans HN1.out)) (.int .i64 0)
   have hg3 := (Below.heap_setCell ((w1.setCell ⟨w.heap.size + 2, 0, none⟩ (.slice none 0 0)).setCell ⟨w.heap.size + 2, 1, none⟩ (.int .i64 0)) ⟨w.heap.size + 3, 0, none⟩ (.int .i64 0) (w.heap.size + 2) (by simp only; omega)).trans hg2
   have r0 := (aA9 hg3 0).trans rfl
   have r1 := (aA9 hg3 1).trans rfl
   have r2 := (aA9 hn2 0).trans rfl
   clear hb1 hg2 hg3 hn2
   go_wp2
   exact ⟨.tuple #[.agg #[.slice none 0 0, .int .i64 0], .int .i64 0, .bool false], by simp [results, Tryz.results45, go_sem, r0, r1, r2], rfl, ((HB1.out.setCell (p := ⟨w.heap.size + 2, 0, none⟩) (by simp only; omega) _).setCell (p := ⟨w.heap.size + 2, 1, none⟩) (by simp only; omega) _).setCell (p := ⟨w.heap.size + 3, 0, none⟩) (by simp only; omega) _⟩
theorem own : ownKnob Tryz.prog.godebug = none := by kernel_rfl
theorem laidOut : laidOutB Tryz.prog = true := by kernel_rfl
theorem gErr : Tryz.prog.globalNamed "errors.errorType" = some 0 := by kernel_rfl
theorem rtErr : (Tryz.prog.cutTypes.find? (·.1 == "internal/reflectlite.rtype")).map (·.2) = some 206 := by kernel_rfl
theorem oneErr : ((List.range Tryz.prog.types.size).filter fun t => Tryz.prog.rowNamed t [101, 114, 114, 111, 114]) = [66] := by kernel_rfl
theorem hdErr : typeHandle Tryz.prog 66 = .pointer (some ⟨2, 66, none⟩) := by kernel_rfl
theorem errT_of {W : World} (h : laidMetH Tryz.prog [("errors.errorType", Rows.laid_errors_errorType)] W) : ErrT W := by
 have h' : laidMet Tryz.prog [] W ∧ handlesMet Tryz.prog [("errors.errorType", Rows.laid_errors_errorType)] W := h
 obtain ⟨name, u, ty, e1, e2, e3, e4, e5⟩ := h'.2 _ (List.mem_singleton.2 rfl)
 have en : name = [101, 114, 114, 111, 114] := (Option.some.inj e1).symm
 subst en
 obtain rfl := Option.some.inj (rtErr.symm.trans e2)
 have hm : ty ∈ (List.range Tryz.prog.types.size).filter fun t => Tryz.prog.rowNamed t [101, 114, 114, 111, 114] := List.mem_filter.2 ⟨List.mem_range.2 e3, e4⟩
 rw [oneErr] at hm
 obtain rfl := List.mem_singleton.1 hm
 rw [hdErr] at e5
 have hc : W.cell? ⟨0, 0, none⟩ = some (.iface 206 (.agg #[.pointer (some ⟨2, 66, none⟩)])) := by simpa using World.var?_cell gErr e5 0
 refine ⟨?_, hc⟩
 rcases Nat.lt_or_ge 0 W.heap.size with hz | hz
 · exact hz
 · have hn : W.heap[0]? = none := Array.getElem?_eq_none hz
   simp [World.cell?, hn] at hc
noncomputable def laidWorld (os : Os) : World :=
 { World.holding Tryz.prog os ⟨#[], #[], []⟩ with heap := (World.holding Tryz.prog os ⟨#[], #[], []⟩).heap.modify 0 fun
     | .cells _ t frozen => .cells #[.iface 206 (.agg #[.pointer (some ⟨2, 66, none⟩)])] t frozen
     | o => o }
end Go.Proofs.YtknhacblialboaaGreatDoor
