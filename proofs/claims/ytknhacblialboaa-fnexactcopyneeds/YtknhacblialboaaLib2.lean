/-
  Joined: FsV IterC ListC ListD FsX IntC FsY.
  Conditions: as each states.
-/
import Derived.Laws.Cover1
import Derived.RangeFuncNested
import Derived.RangeFuncBound
import Derived.RangeFuncCalls
import Derived.RangeFuncLeaves
import Derived.Shelf.Abstract
import Derived.Shelf.RegionOpen
import Derived.WalkKit
import Derived.OwnWalkIn
import Derived.TacticsInMore
import Derived.LoopNIn
import Derived.LoopIn
import Derived.Maps.AppendAt
import Derived.Laws.AppendOwnNone
import Derived.Test.YtknhacblialboaaLib1

/-
  The model's l3Entries: a directory's list is in order, its names and nodes are good.
  Conditions: at most 2^20 values and letters together.
-/
namespace Go.Proofs.Ytknhacblialboaa
open Go.ChangeShapes Go.WideShapes Go.ChangeAt Go.RowKit Go.Joins
set_option linter.unusedVariables false

def kindAt (ns : List Nod) (i : Int) : Int := (ns.getD i.toNat ⟨0, 0, 0, 0, 0, [], []⟩).kind
def entOk (ns : List Nod) (es : List Ent) (k : Nat) : Bool :=
  nameB (es.getD k ⟨[], 0⟩).name && (k == 0 || Op.bytesLess (es.getD (k - 1) ⟨[], 0⟩).name (es.getD k ⟨[], 0⟩).name) && inB 1 ((ns.length : Int) - 1) (es.getD k ⟨[], 0⟩).node && !(kindAt ns (es.getD k ⟨[], 0⟩).node == 0)
def entsOk (ns : List Nod) (es : List Ent) : Bool := (List.range es.length).all (entOk ns es)

theorem bsl (l : List UInt8) : (bs l).toList = l := by rw [ByteArray.toList_eq]; simp [bs]
theorem entsOk_no {ns : List Nod} {es : List Ent} {k : Nat} (hk : k < es.length) (h : entOk ns es k = false) : entsOk ns es = false := by
  unfold entsOk
  rw [List.all_eq_false]
  exact ⟨k, List.mem_range.2 hk, by rw [h]; simp⟩
theorem entsOk_yes {ns : List Nod} {es : List Ent} (h : ∀ k, k < es.length → entOk ns es k = true) : entsOk ns es = true := by
  unfold entsOk
  rw [List.all_eq_true]
  exact fun k hk => h k (List.mem_range.1 hk)

theorem l1In_is {n lo hi : Int} {b : Bool} (h : inB lo hi n = b) (w : World) : Calls Try.prog 75 #[.int .i64 n, .int .i64 lo, .int .i64 hi] w fun e w' => e = .returned (.bool b) ∧ Below w.heap.size w w' :=
  (l1In_any n lo hi w).mono fun e w' ⟨h1, h2⟩ => ⟨by rw [h1, h], by rw [← h2]; exact Below.refl _ _⟩
theorem l2Name_is {l : List UInt8} {b : Bool} (h : nameB l = b) (hl : l.length ≤ maxLen) (s : ByteArray) (hs : s = bs l) (w : World) : Calls Try.prog 125 #[.string s] w fun e w' => e = .returned (.bool b) ∧ Below w.heap.size w w' :=
  (l2Name_any s w (by rw [hs, bs_size]; exact hl)).mono fun e w' ⟨h1, h2⟩ => ⟨by rw [h1, hs, ← h]; simp [bs], by rw [← h2]; exact Below.refl _ _⟩

set_option maxHeartbeats 4000000 in
theorem l3Entries_any (f : FsD) (es : List Ent) (v lv : Value) (w : World) (hR : FsA w v f) (hE0 : EntsA w lv es) (hs : f.nodes.length ≤ 1048576) (hs2 : es.length ≤ 1048576) : Calls Try.prog 95 #[v, lv] w fun e w' => e = .returned (.bool (entsOk f.nodes es)) ∧ Below w.heap.size w w' := by
  obtain ⟨nv, rfl, hN⟩ := hR
  obtain ⟨o, c, rfl, hm, hH⟩ := hN
  have HH := Lib.hid hH
  obtain ⟨o2, c2, rfl, -, hE⟩ := hE0
  have HE := Lib.hid hE
  clear hH hE
  unfold maxLen at hm
  have hbw : Below w.heap.size w (w.alloc (.cells #[.slice o f.nodes.length c, .int .i64 f.room] 31)) := (Below.refl _ _).alloc (Nat.le_refl _) _
  have hk0 := heap_alloc_new w (.cells #[.slice o f.nodes.length c, .int .i64 f.room] 31)
  go_enter Try.func95, Try.ntmps95
  go_wp2
  go_loopw [9] (fun i wr => ∃ k : Nat, k ≤ es.length ∧ i = .int .i64 k ∧ Below w.heap.size w wr ∧ wr.heap[w.heap.size]? = some (.cells #[.slice o f.nodes.length c, .int .i64 f.room] 31) ∧ ∀ j, j < k → entOk f.nodes es j = true) (fun i _ => es.length - (intOf i).toNat)
  case atStart => exact ⟨0, Nat.zero_le _, rfl, hbw, hk0, fun j h => absurd h (Nat.not_lt_zero _)⟩
  case round =>
    obtain ⟨k, hk, rfl, hB, hb, hj⟩ := hrel
    have HJ := Lib.hid hj
    clear hj hbw hk0
    by_cases hlt : k < es.length
    · obtain ⟨g2, f2, rfl, q2, x2, y2, hn⟩ := HE.out k hlt
      have HK : Hid (es.getD k ⟨[], 0⟩ = es[k]) := Lib.hid (by simp [List.getD, hlt])
      have a1 := (hB.cell (p := ⟨g2, f2 + k * 2, none⟩) q2).trans x2
      have a2 := (hB.cell (p := ⟨g2, f2 + k * 2 + 1, none⟩) q2).trans y2
      obtain ⟨z, hzz⟩ : ∃ z, z = es[k] := ⟨_, rfl⟩
      rw [← hzz] at a1 a2 HK hn
      obtain ⟨y, hyy⟩ : ∃ y, y = bs z.name := ⟨_, rfl⟩
      have HY := Lib.hid hyy
      rw [← hyy] at a1
      obtain ⟨r, hr⟩ : ∃ r, r = z.node := ⟨_, rfl⟩
      have HR := Lib.hid hr
      rw [← hr] at a2
      have HNL := Lib.hid hn
      have HB1 : Hid (∀ oo, Below w.heap.size w (wr.alloc oo)) := Lib.hid (fun oo => hB.alloc hB.size oo)
      have HW : Hid (∀ oo, (wr.alloc oo).heap[w.heap.size]? = some (.cells #[.slice o f.nodes.length c, .int .i64 f.room] 31)) := Lib.hid (fun oo => (Below.heap_alloc _ _ _ (lt_of_heap hb)).trans hb)
      have e0 := cell_blk (heap_alloc_new wr (.cells #[.string y, .int .i64 r] 93)) 0
      have e1 := cell_blk (heap_alloc_new wr (.cells #[.string y, .int .i64 r] 93)) 1
      have s0 := cell_blk (HW.out (.cells #[.string y, .int .i64 r] 93)) 0
      clear x2 y2 hzz hyy hr hn
      go_wp2
      have HB2 := Lib.hid (HB1.out (.cells #[.string y, .int .i64 r] 93))
      have HW2 := Lib.hid (HW.out (.cells #[.string y, .int .i64 r] 93))
      obtain ⟨W2, hW2⟩ : ∃ W2, wr.alloc (.cells #[.string y, .int .i64 r] 93) = W2 := ⟨_, rfl⟩
      rw [hW2] at e0 e1 s0 HB2 HW2 ⊢
      have e0' := e0.trans rfl
      have e1' := e1.trans rfl
      have s0' := s0.trans rfl
      clear hW2 HW HB1 e0 e1 s0
      have z0 := fun d os => cell_regrown (w := W2) e0' d os
      have z1 := fun d os => cell_regrown (w := W2) e1' d os
      have z2 := fun d os => cell_regrown (w := W2) s0' d os
      by_cases hna : nameB z.name = true
      · have HA := Lib.hid hna
        clear hna
        rcases Nat.eq_zero_or_pos k with rfl | hpos
        · skip
          by_cases hc : inB 1 ((f.nodes.length : Int) - 1) r = true
          · have HC := Lib.hid hc
            obtain ⟨r1, r2⟩ := inB_t hc
            obtain ⟨m, rfl⟩ : ∃ m : Nat, r = m := ⟨r.toNat, by omega⟩
            have hml : m < f.nodes.length := by omega
            obtain ⟨g, off, nl, rfl, hg, hcc, -, -⟩ := HH.out m hml
            have d0 := (HB2.out.cell (p := ⟨g, off + m * 7, none⟩) hg).trans hcc.c0
            obtain ⟨kd, hkd⟩ : ∃ kd, kd = f.nodes[m].kind := ⟨_, rfl⟩
            rw [← hkd] at d0
            have HKD : Hid (kindAt f.nodes (m : Int) = kd) := Lib.hid (by rw [hkd]; simp [kindAt, List.getD, hml])
            have z3 := fun d os => cell_regrown (w := W2) d0 d os
            clear hcc hkd hc
            by_cases hz : kd = 0
            · have HF : Hid (entsOk f.nodes es = false) := Lib.hid (entsOk_no hlt (by unfold entOk; rw [HK.out, HA.out, ← HR.out, HKD.out, hz]; simp))
              subst hz
              refine wp_region_quiet_below (by kernel_rfl) (by kernel_rfl) ?_
              repeat (first | go_big_quiet_step ((first | (go_at_call 125; exact Calls.regrown_of (l2Name_is HA.out HNL.out _ HY.out _)) | (go_at_call 75; exact Calls.regrown_of (l1In_is HC.out _)))) | quiet_step ((first | (go_at_call 125; exact Calls.regrown_of (l2Name_is HA.out HNL.out _ HY.out _)) | (go_at_call 75; exact Calls.regrown_of (l1In_is HC.out _)))))
              refine wpQuiet_nil ?_
              intro w5 hwq
              have hb5 : Below W2.heap.size W2 w5 := by
                obtain ⟨pp, rfl⟩ := hwq
                exact below_regrown _ _ _
              have HB5 := Lib.hid (HB2.out.trans (hb5.mono HB2.out.size))
              have HW5 := Lib.hid ((hb5.block w.heap.size (lt_of_heap HW2.out)).trans HW2.out)
              clear hwq hb5
              go_wp2
              go_ret
              exact ⟨ret_bool HF.out.symm, HB5.out⟩
            · have HO : Hid (entOk f.nodes es (0) = true) := Lib.hid (by unfold entOk; rw [HK.out, HA.out, ← HR.out, HKD.out, HC.out]; simp [hz])
              have HJ2 : Hid (∀ i, i < 0 + 1 → entOk f.nodes es i = true) := Lib.hid (by
                intro i h
                rcases Nat.lt_succ_iff_lt_or_eq.1 h with h1 | rfl
                · exact HJ.out i h1
                · exact HO.out)
              refine wp_region_quiet_below (by kernel_rfl) (by kernel_rfl) ?_
              repeat (first | go_big_quiet_step ((first | (go_at_call 125; exact Calls.regrown_of (l2Name_is HA.out HNL.out _ HY.out _)) | (go_at_call 75; exact Calls.regrown_of (l1In_is HC.out _)))) | quiet_step ((first | (go_at_call 125; exact Calls.regrown_of (l2Name_is HA.out HNL.out _ HY.out _)) | (go_at_call 75; exact Calls.regrown_of (l1In_is HC.out _)))))
              refine wpQuiet_nil ?_
              intro w5 hwq
              have hb5 : Below W2.heap.size W2 w5 := by
                obtain ⟨pp, rfl⟩ := hwq
                exact below_regrown _ _ _
              have HB5 := Lib.hid (HB2.out.trans (hb5.mono HB2.out.size))
              have HW5 := Lib.hid ((hb5.block w.heap.size (lt_of_heap HW2.out)).trans HW2.out)
              clear hwq hb5
              go_wp2
              go_roundw
              case rel => exact ⟨_, hlt, by go_num, HB5.out, HW5.out, HJ2.out⟩
              case measure => simp [intOf]; omega
          · have HC : Hid (inB 1 ((f.nodes.length : Int) - 1) r = false) := Lib.hid (by simpa using hc)
            have HF : Hid (entsOk f.nodes es = false) := Lib.hid (entsOk_no hlt (by unfold entOk; rw [HK.out, HA.out, ← HR.out, HC.out]; simp))
            clear hc
            refine wp_region_quiet_below (by kernel_rfl) (by kernel_rfl) ?_
            repeat (first | go_big_quiet_step ((first | (go_at_call 125; exact Calls.regrown_of (l2Name_is HA.out HNL.out _ HY.out _)) | (go_at_call 75; exact Calls.regrown_of (l1In_is HC.out _)))) | quiet_step ((first | (go_at_call 125; exact Calls.regrown_of (l2Name_is HA.out HNL.out _ HY.out _)) | (go_at_call 75; exact Calls.regrown_of (l1In_is HC.out _)))))
            refine wpQuiet_nil ?_
            intro w5 hwq
            have hb5 : Below W2.heap.size W2 w5 := by
              obtain ⟨pp, rfl⟩ := hwq
              exact below_regrown _ _ _
            have HB5 := Lib.hid (HB2.out.trans (hb5.mono HB2.out.size))
            have HW5 := Lib.hid ((hb5.block w.heap.size (lt_of_heap HW2.out)).trans HW2.out)
            clear hwq hb5
            go_wp2
            go_ret
            exact ⟨ret_bool HF.out.symm, HB5.out⟩
        · obtain ⟨j, rfl⟩ : ∃ j, k = j + 1 := ⟨k - 1, by omega⟩
          obtain ⟨g3, f3, e3, -, x3, -, -⟩ := HE.out j (by omega)
          obtain ⟨rfl, rfl⟩ : g2 = g3 ∧ f2 = f3 := by simpa using e3
          have p0 := (HB2.out.cell (p := ⟨g2, f2 + j * 2, none⟩) q2).trans x3
          obtain ⟨x, hx⟩ : ∃ x, x = bs es[j].name := ⟨_, rfl⟩
          rw [← hx] at p0
          have z4 := fun d os => cell_regrown (w := W2) p0 d os
          have HLT : Hid (Op.bytesLess (es.getD (j + 1 - 1) ⟨[], 0⟩).name z.name = Op.bytesLess x.toList y.toList) := Lib.hid (by
            have h1 : es.getD (j + 1 - 1) ⟨[], 0⟩ = es[j] := by simp [List.getD, show j < es.length by omega]
            rw [h1, hx, HY.out, bsl, bsl])
          clear x3 hx e3
          by_cases hl : Op.bytesLess x.toList y.toList = true
          · have HL : Hid (Op.bytesLess (es.getD (j + 1 - 1) ⟨[], 0⟩).name z.name = true) := Lib.hid (HLT.out.trans hl)
            by_cases hc : inB 1 ((f.nodes.length : Int) - 1) r = true
            · have HC := Lib.hid hc
              obtain ⟨r1, r2⟩ := inB_t hc
              obtain ⟨m, rfl⟩ : ∃ m : Nat, r = m := ⟨r.toNat, by omega⟩
              have hml : m < f.nodes.length := by omega
              obtain ⟨g, off, nl, rfl, hg, hcc, -, -⟩ := HH.out m hml
              have d0 := (HB2.out.cell (p := ⟨g, off + m * 7, none⟩) hg).trans hcc.c0
              obtain ⟨kd, hkd⟩ : ∃ kd, kd = f.nodes[m].kind := ⟨_, rfl⟩
              rw [← hkd] at d0
              have HKD : Hid (kindAt f.nodes (m : Int) = kd) := Lib.hid (by rw [hkd]; simp [kindAt, List.getD, hml])
              have z3 := fun d os => cell_regrown (w := W2) d0 d os
              clear hcc hkd hc
              by_cases hz : kd = 0
              · have HF : Hid (entsOk f.nodes es = false) := Lib.hid (entsOk_no hlt (by unfold entOk; rw [HK.out, HA.out, ← HR.out, HL.out, HKD.out, hz]; simp))
                subst hz
                refine wp_region_quiet_below (by kernel_rfl) (by kernel_rfl) ?_
                repeat (first | go_big_quiet_step ((first | (go_at_call 125; exact Calls.regrown_of (l2Name_is HA.out HNL.out _ HY.out _)) | (go_at_call 75; exact Calls.regrown_of (l1In_is HC.out _)))) | quiet_step ((first | (go_at_call 125; exact Calls.regrown_of (l2Name_is HA.out HNL.out _ HY.out _)) | (go_at_call 75; exact Calls.regrown_of (l1In_is HC.out _)))))
                refine wpQuiet_nil ?_
                intro w5 hwq
                have hb5 : Below W2.heap.size W2 w5 := by
                  obtain ⟨pp, rfl⟩ := hwq
                  exact below_regrown _ _ _
                have HB5 := Lib.hid (HB2.out.trans (hb5.mono HB2.out.size))
                have HW5 := Lib.hid ((hb5.block w.heap.size (lt_of_heap HW2.out)).trans HW2.out)
                clear hwq hb5
                go_wp2
                go_ret
                exact ⟨ret_bool HF.out.symm, HB5.out⟩
              · have HO : Hid (entOk f.nodes es (j + 1) = true) := Lib.hid (by unfold entOk; rw [HK.out, HA.out, ← HR.out, HL.out, HKD.out, HC.out]; simp [hz])
                have HJ2 : Hid (∀ i, i < j + 1 + 1 → entOk f.nodes es i = true) := Lib.hid (by
                  intro i h
                  rcases Nat.lt_succ_iff_lt_or_eq.1 h with h1 | rfl
                  · exact HJ.out i h1
                  · exact HO.out)
                refine wp_region_quiet_below (by kernel_rfl) (by kernel_rfl) ?_
                repeat (first | go_big_quiet_step ((first | (go_at_call 125; exact Calls.regrown_of (l2Name_is HA.out HNL.out _ HY.out _)) | (go_at_call 75; exact Calls.regrown_of (l1In_is HC.out _)))) | quiet_step ((first | (go_at_call 125; exact Calls.regrown_of (l2Name_is HA.out HNL.out _ HY.out _)) | (go_at_call 75; exact Calls.regrown_of (l1In_is HC.out _)))))
                refine wpQuiet_nil ?_
                intro w5 hwq
                have hb5 : Below W2.heap.size W2 w5 := by
                  obtain ⟨pp, rfl⟩ := hwq
                  exact below_regrown _ _ _
                have HB5 := Lib.hid (HB2.out.trans (hb5.mono HB2.out.size))
                have HW5 := Lib.hid ((hb5.block w.heap.size (lt_of_heap HW2.out)).trans HW2.out)
                clear hwq hb5
                go_wp2
                go_roundw
                case rel => exact ⟨_, hlt, by go_num, HB5.out, HW5.out, HJ2.out⟩
                case measure => simp [intOf]; omega
            · have HC : Hid (inB 1 ((f.nodes.length : Int) - 1) r = false) := Lib.hid (by simpa using hc)
              have HF : Hid (entsOk f.nodes es = false) := Lib.hid (entsOk_no hlt (by unfold entOk; rw [HK.out, HA.out, ← HR.out, HL.out, HC.out]; simp))
              clear hc
              refine wp_region_quiet_below (by kernel_rfl) (by kernel_rfl) ?_
              repeat (first | go_big_quiet_step ((first | (go_at_call 125; exact Calls.regrown_of (l2Name_is HA.out HNL.out _ HY.out _)) | (go_at_call 75; exact Calls.regrown_of (l1In_is HC.out _)))) | quiet_step ((first | (go_at_call 125; exact Calls.regrown_of (l2Name_is HA.out HNL.out _ HY.out _)) | (go_at_call 75; exact Calls.regrown_of (l1In_is HC.out _)))))
              refine wpQuiet_nil ?_
              intro w5 hwq
              have hb5 : Below W2.heap.size W2 w5 := by
                obtain ⟨pp, rfl⟩ := hwq
                exact below_regrown _ _ _
              have HB5 := Lib.hid (HB2.out.trans (hb5.mono HB2.out.size))
              have HW5 := Lib.hid ((hb5.block w.heap.size (lt_of_heap HW2.out)).trans HW2.out)
              clear hwq hb5
              go_wp2
              go_ret
              exact ⟨ret_bool HF.out.symm, HB5.out⟩
          · have hl2 : Op.bytesLess x.toList y.toList = false := by simpa using hl
            have HF : Hid (entsOk f.nodes es = false) := Lib.hid (entsOk_no hlt (by unfold entOk; rw [HK.out, HLT.out, hl2]; simp))
            clear hl
            refine wp_region_quiet_below (by kernel_rfl) (by kernel_rfl) ?_
            repeat (first | go_big_quiet_step ((go_at_call 125; exact Calls.regrown_of (l2Name_is HA.out HNL.out _ HY.out _))) | quiet_step ((go_at_call 125; exact Calls.regrown_of (l2Name_is HA.out HNL.out _ HY.out _))))
            refine wpQuiet_nil ?_
            intro w5 hwq
            have hb5 : Below W2.heap.size W2 w5 := by
              obtain ⟨pp, rfl⟩ := hwq
              exact below_regrown _ _ _
            have HB5 := Lib.hid (HB2.out.trans (hb5.mono HB2.out.size))
            have HW5 := Lib.hid ((hb5.block w.heap.size (lt_of_heap HW2.out)).trans HW2.out)
            clear hwq hb5
            go_wp2
            go_ret
            exact ⟨ret_bool HF.out.symm, HB5.out⟩
      · have HA : Hid (nameB z.name = false) := Lib.hid (by simpa using hna)
        have HF : Hid (entsOk f.nodes es = false) := Lib.hid (entsOk_no hlt (by unfold entOk; rw [HK.out, HA.out]; simp))
        clear hna
        refine wp_region_quiet_below (by kernel_rfl) (by kernel_rfl) ?_
        repeat (first | go_big_quiet_step ((go_at_call 125; exact Calls.regrown_of (l2Name_is HA.out HNL.out _ HY.out _))) | quiet_step ((go_at_call 125; exact Calls.regrown_of (l2Name_is HA.out HNL.out _ HY.out _))))
        refine wpQuiet_nil ?_
        intro w5 hwq
        have hb5 : Below W2.heap.size W2 w5 := by
          obtain ⟨pp, rfl⟩ := hwq
          exact below_regrown _ _ _
        have HB5 := Lib.hid (HB2.out.trans (hb5.mono HB2.out.size))
        have HW5 := Lib.hid ((hb5.block w.heap.size (lt_of_heap HW2.out)).trans HW2.out)
        clear hwq hb5
        go_wp2
        go_ret
        exact ⟨ret_bool HF.out.symm, HB5.out⟩
    · go_wp2
      go_ret
      exact ⟨ret_bool (entsOk_yes fun j h => HJ.out j (by omega)).symm, hB⟩
end Go.Proofs.Ytknhacblialboaa


/-
  The iterator impl.partsIn: it gives the parts of a text between slashes, in order, to whatever loop body keeps the text's own box and all iterators.
  Conditions: a text's length is a length.
-/
namespace Go.Proofs.Ytknhacblialboaa
open Go.RowKit Go.Shelf
set_option linter.unusedVariables false
attribute [local go_sem] Oper.semAt_some

/-- What a round keeps: the iterators, and the text in box b. -/
def KpB (b : Nat) (W W' : World) : Prop := KeepsWalks W W' ∧ W'.cell? ⟨b, 0, none⟩ = W.cell? ⟨b, 0, none⟩
theorem kpB_t {b : Nat} {X Y Z : World} (h : KpB b X Y) (k : KpB b Y Z) : KpB b X Z := ⟨h.1.trans k.1, k.2.trans h.2⟩
theorem kpB_b {b : Nat} {w : World} (hb : b < w.heap.size) (W : World) (l : Nat) (o o' : Obj) (hl : w.heap.size ≤ l) (h : W.heap[l]? = some o) (_ : o.isCells = false) (hw : o.isWalk = false) : KpB b W (W.putObj l o') :=
  ⟨KeepsWalks.putObj _ h hw, World.cell?_of_block (World.putObj_heap_other (show b ≠ l by omega))⟩
theorem kpB_below {b n₀ : Nat} {W W' : World} (h : KeepsOthers W W') (hb : Below n₀ W W') (hn : b < n₀) : KpB b W W' := ⟨h.walks, hb.cell (p := ⟨b, 0, none⟩) hn⟩
theorem others_below {W W' : World} (hb : Below W.heap.size W W') : KeepsOthers W W' := ⟨hb.size, fun k o hk _ => (hb.block k (Array.getElem?_eq_some_iff.1 hk).1).trans hk⟩

theorem sp_prefix (a b : List UInt8) : (sp a).1 <+: (sp (a ++ b)).1 := by
  induction b generalizing a with
  | nil => simp
  | cons c b ih =>
    have e : a ++ c :: b = (a ++ [c]) ++ b := by simp
    rw [e]
    refine List.IsPrefix.trans ?_ (ih (a ++ [c]))
    rw [sp_snoc, spStep]
    split
    · exact ⟨[(sp a).2], rfl⟩
    · exact List.prefix_refl _
theorem full_prefix {a b : List (List UInt8)} (h : a <+: b) : full a <+: full b := by
  obtain ⟨t, rfl⟩ := h
  exact ⟨full t, (full_app a t).symm⟩
theorem done_prefix (l : List UInt8) (k : Nat) : full (sp (l.take k)).1 <+: parts l := by
  have h := sp_prefix (l.take k) (l.drop k)
  rw [List.take_append_drop] at h
  refine (full_prefix h).trans ?_
  exact full_prefix ⟨[(sp l).2], rfl⟩
theorem len_of_prefix {a b : List (List UInt8)} {x : List UInt8} (h : a ++ [x] <+: b) : a.length < b.length := by
  have := h.length_le; simp at this; omega
theorem map_prefix {a b : List (List UInt8)} (h : a <+: b) : a.map bs <+: b.map bs := by
  obtain ⟨t, rfl⟩ := h
  exact ⟨t.map bs, by simp⟩

/-- How far a text has been cut, at a place between two runes. -/
structure Cut (s : ByteArray) (pos frm : Nat) : Prop where
  le : frm ≤ pos
  top : pos ≤ s.size
  cur : (sp (s.data.toList.take pos)).2 = (s.data.toList.take pos).drop frm

/-- What has been given till then. -/
def given (s : ByteArray) (pos : Nat) : List (List UInt8) := full (sp (s.data.toList.take pos)).1

theorem Cut.start (s : ByteArray) : Cut s 0 0 := ⟨Nat.le_refl _, Nat.zero_le _, by simp [sp]⟩
theorem given_start (s : ByteArray) : given s 0 = [] := by simp [given, sp, full]
theorem Cut.rune {s : ByteArray} {pos frm : Nat} (h : Cut s pos frm) (hp : pos < s.size) (hn : (Utf8.decode s pos).1 ≠ 47) : Cut s (pos + (Utf8.decode s pos).2) frm ∧ given s (pos + (Utf8.decode s pos).2) = given s pos := by
  obtain ⟨hle, h1, _⟩ := decode_bytes s pos hp
  have e := sp_rune s pos hp hn
  refine ⟨⟨by have := h.le; omega, hle, ?_⟩, by unfold given; rw [e]⟩
  rw [e]
  simp only
  rw [h.cur]
  have hl := len_size s
  have e1 := (List.take_append_drop pos (s.data.toList.take (pos + (Utf8.decode s pos).2))).symm
  rw [List.take_take, Nat.min_eq_left (by omega)] at e1
  conv => rhs; rw [e1]
  rw [List.drop_append_of_le_length (by rw [List.length_take]; have := h.le; omega)]
theorem Cut.slash {s : ByteArray} {pos frm : Nat} (h : Cut s pos frm) (hp : pos < s.size) (h47 : (s[pos]'hp) = 47) :
    Cut s (pos + 1) (pos + 1) ∧ sp (s.data.toList.take (pos + 1)) = ((sp (s.data.toList.take pos)).1 ++ [(s.data.toList.take pos).drop frm], []) := by
  have e : sp (s.data.toList.take (pos + 1)) = ((sp (s.data.toList.take pos)).1 ++ [(s.data.toList.take pos).drop frm], []) := by
    rw [take_snoc' s pos hp, sp_snoc, spStep, if_pos h47, h.cur]
  refine ⟨⟨Nat.le_refl _, hp, ?_⟩, e⟩
  rw [e]
  exact (List.drop_eq_nil_of_le (by rw [List.length_take]; omega)).symm
theorem Cut.gives {s : ByteArray} {pos frm : Nat} (h : Cut s pos frm) (hp : pos < s.size) (h47 : (s[pos]'hp) = 47) (hlt : frm < pos) : given s (pos + 1) = given s pos ++ [(s.data.toList.take pos).drop frm] := by
  unfold given
  rw [(h.slash hp h47).2, full_app]
  have : (s.data.toList.take pos).drop frm ≠ [] := by
    intro e
    have := congrArg List.length e
    have hl := len_size s
    simp only [List.length_drop, List.length_take, List.length_nil, hl] at this
    omega
  simp [full, this]
theorem Cut.skips {s : ByteArray} {pos frm : Nat} (h : Cut s pos frm) (hp : pos < s.size) (h47 : (s[pos]'hp) = 47) (hlt : ¬ frm < pos) : given s (pos + 1) = given s pos := by
  unfold given
  rw [(h.slash hp h47).2, full_app]
  have : (s.data.toList.take pos).drop frm = [] := List.drop_eq_nil_of_le (by rw [List.length_take]; have := h.le; omega)
  simp [full, this]
theorem Cut.last {s : ByteArray} {frm : Nat} (h : Cut s s.size frm) (hlt : frm < s.size) : parts s.data.toList = given s s.size ++ [(s.data.toList.take s.size).drop frm] := by
  have hl := len_size s
  have c := h.cur
  have ht : s.data.toList.take s.size = s.data.toList := List.take_of_length_le (by omega)
  unfold parts given
  rw [full_app]
  rw [ht] at c ⊢
  rw [c]
  have : s.data.toList.drop frm ≠ [] := by
    intro e
    have := congrArg List.length e
    simp only [List.length_drop, List.length_nil, hl] at this
    omega
  simp [full, this]
theorem Cut.ended {s : ByteArray} {frm : Nat} (h : Cut s s.size frm) (hlt : ¬ frm < s.size) : parts s.data.toList = given s s.size := by
  have hl := len_size s
  have c := h.cur
  have ht : s.data.toList.take s.size = s.data.toList := List.take_of_length_le (by omega)
  unfold parts given
  rw [full_app]
  rw [ht] at c ⊢
  rw [c, List.drop_eq_nil_of_le (by omega)]
  simp [full]
theorem given_prefix (s : ByteArray) (pos : Nat) : given s pos <+: parts s.data.toList := done_prefix _ _

theorem slash_byte {s : ByteArray} {pos : Nat} (hp : pos < s.size) (h : (Utf8.decode s pos).1 = 47) : (s[pos]'hp) = 47 ∧ (Utf8.decode s pos).2 = 1 := by
  obtain ⟨h1, h2⟩ := decode_low s pos hp (by omega)
  exact ⟨UInt8.toNat_inj.1 (by rw [h1, h]; rfl), h2⟩

theorem abides_next {J : List ByteArray → World → Prop} {B I : Nat} (h : AbidesFrom B J) {pre : List ByteArray} {W : World} (hj : J pre W) {s : ByteArray} {pos : Nat} (hI : W.heap[I]? = some (.stringIter s pos)) (hB : B ≤ I) (pos' : Nat) : J pre (W.iterAt I s pos') :=
  h pre W _ (some I) hj ⟨rfl, rfl, rfl, by rw [Lib.iterAt_size]; exact Nat.le_refl _, fun k _ hk => Lib.iterAt_other W I k s pos' (fun e => hk (by rw [e]))⟩ (fun r e => by cases e; exact ⟨hB, _, hI, rfl⟩)
theorem cell_iterAt {W : World} {I : Nat} {s : ByteArray} {pos : Nat} {b : Nat} {v : Value} (hI : W.heap[I]? = some (.stringIter s pos)) (h : W.cell? ⟨b, 0, none⟩ = some v) (pos' : Nat) : (W.iterAt I s pos').cell? ⟨b, 0, none⟩ = some v := by
  have hne : b ≠ I := by
    intro e
    subst e
    simp [World.cell?, hI] at h
  exact (World.cell?_of_block (a := ⟨b, 0, none⟩) (Lib.iterAt_other W I b s pos' hne)).trans h

end Go.Proofs.Ytknhacblialboaa


/-
  Lists of texts in memory: one that the call itself has built by append, and one that can be read; contracts of spec.l1Split (at slashes), spec.l2Parts.
  Conditions: a text of at most 2^30 bytes.
-/
namespace Go.Proofs.Ytknhacblialboaa
open Go.ChangeShapes Go.WideShapes Go.ChangeAt Go.RowKit Go.Joins
set_option linter.unusedVariables false

theorem strInfo : (Try.prog.info? 9).map (fun i => (i.zero, i.size, i.bytes)) = some (some (.string ⟨#[]⟩), 1, 16) := by kernel_rfl

def strs (ps : List (List UInt8)) : List Value := ps.map fun p => .string (bs p)
/-- The value is a list of texts that the call has built, in blocks from B on. -/
def Lst (w : World) (B : Nat) (v : Value) (ps : List (List UInt8)) : Prop := w.ownsRow B 9 1 v ps.length (strs ps)
/-- The value reads as a list of texts. -/
def Rd (w : World) (v : Value) (ps : List (List UInt8)) : Prop :=
  ∃ o c, v = .slice o ps.length c ∧ ps.length ≤ c ∧ c ≤ maxLen ∧ ∀ i (h : i < ps.length), ∃ g off, o = some ⟨g, off, none⟩ ∧ g < w.heap.size ∧ w.cell? ⟨g, off + i, none⟩ = some (.string (bs ps[i]))

theorem Lst.nil (w : World) (B : Nat) : Lst w B (.slice none 0 0) [] := World.ownsRow_nil _ _ _ _
theorem Lst.alloc {w : World} {B : Nat} {v : Value} {ps : List (List UInt8)} (h : Lst w B v ps) (o : Obj) : w.alloc o |>.ownsRow B 9 1 v ps.length (strs ps) := World.ownsRow.alloc h o
theorem Lst.snoc {w : World} {B : Nat} {v : Value} {ps : List (List UInt8)} {p : List UInt8} {x : ByteArray} (hx : x = bs p) (h : w.ownsRow B 9 1 v (ps.length + 1) (strs ps ++ [.string x])) : Lst w B v (ps ++ [p]) := by
  subst hx
  unfold Lst
  simpa [strs] using h
theorem Lst.read {w : World} {B : Nat} {v : Value} {ps : List (List UInt8)} (h : Lst w B v ps) : Rd w v ps := by
  rcases h with ⟨hl, ⟨rfl, h0⟩ | ⟨g, cap, cur, rfl, hB, hg, hn, hm, hs, ht⟩⟩
  · have : ps = [] := List.eq_nil_of_length_eq_zero h0
    subst this
    exact ⟨none, 0, rfl, Nat.le_refl _, Nat.zero_le _, fun i hi => absurd hi (by simp)⟩
  · refine ⟨_, _, rfl, hn, hm, fun i hi => ⟨g, 0, rfl, (Array.getElem?_eq_some_iff.1 hg).1, ?_⟩⟩
    have h1 : cur[i]? = some (.string (bs ps[i])) := by
      rw [← Array.getElem?_toList]
      have h2 : (cur.toList.take (ps.length * 1))[i]? = some (.string (bs ps[i])) := by
        rw [ht]; simp [strs, hi]
      rw [List.getElem?_take] at h2
      rw [if_pos (by omega)] at h2
      exact h2
    simp [World.cell?, hg, h1]
theorem Rd.below {w w' : World} {v : Value} {ps : List (List UInt8)} (h : Rd w v ps) (hb : Below w.heap.size w w') : Rd w' v ps := by
  obtain ⟨o, c, rfl, h1, h2, h3⟩ := h
  refine ⟨o, c, rfl, h1, h2, fun i hi => ?_⟩
  obtain ⟨g, off, e, hg, hc⟩ := h3 i hi
  exact ⟨g, off, e, Nat.lt_of_lt_of_le hg hb.size, (hb.cell (p := ⟨g, off + i, none⟩) hg).trans hc⟩
theorem Rd.nil (w : World) : Rd w (.slice none 0 0) [] := ⟨none, 0, rfl, Nat.le_refl _, Nat.zero_le _, fun i hi => absurd hi (by simp)⟩

theorem lst_mono {w : World} {A B : Nat} {v : Value} {ps : List (List UInt8)} (h : Lst w B v ps) (hAB : A ≤ B) : Lst w A v ps := by
  rcases h with ⟨hl, hn | ⟨g, cap, cur, e, hB, rest⟩⟩
  · exact ⟨hl, .inl hn⟩
  · exact ⟨hl, .inr ⟨g, cap, cur, e, Nat.le_trans hAB hB, rest⟩⟩

/-- What stands behind an append onto such a list. -/
theorem below_app {w wr w1 : World} {B : Nat} {v : Value} {n : Nat} {xs : List Value} {tmp : Obj} (hb : Below B w wr) (hB : B ≤ wr.heap.size) (hown : wr.ownsRow B 9 1 v n xs) (hg : (wr.alloc tmp).grownBy w1 v.ownBlock) : Below B w w1 := by
  refine (hb.alloc hB tmp).grown hg (by simp; omega) fun j ej => ?_
  rcases hown.2 with ⟨rfl, _⟩ | ⟨g, cap, cur, rfl, hgb, _, _⟩
  · simp [Value.ownBlock] at ej
  · obtain rfl : g = j := by simpa [Value.ownBlock] using ej
    exact hgb

theorem sp_one_le (l : List UInt8) : (sp l).1.length ≤ l.length := by have := sp_le l; omega

theorem not47 {c : UInt8} (h : c ≠ 47) : (c.toNat : Int) ≠ 47 := by
  intro e
  refine h (UInt8.toNat_inj.1 ?_)
  show c.toNat = 47
  omega

set_option maxHeartbeats 1000000 in
theorem l1Split_any (s : ByteArray) (w : World) (hs : s.size ≤ 1073741824) : Calls Try.prog 97 #[.string s, .int .u8 47] w fun e w' => ∃ v, e = .returned v ∧ Lst w' w.heap.size v ((sp s.data.toList).1 ++ [(sp s.data.toList).2]) ∧ Below w.heap.size w w' := by
  obtain ⟨i0, hi, hz0, hz1, hz2⟩ := info_parts strInfo
  go_enter Try.func97, Try.ntmps97
  go_wp2
  go_loopw [5, 6, 7] (fun v f i wr => ∃ k frm : Nat, i = .int .i64 k ∧ f = .int .i64 frm ∧ Cut s k frm ∧ Lst wr w.heap.size v (sp (s.data.toList.take k)).1 ∧ Below w.heap.size w wr) (fun _ _ i _ => s.size - (intOf i).toNat)
  case atStart => exact ⟨0, 0, rfl, rfl, Cut.start s, Lst.nil _ _, Below.refl _ _⟩
  case round =>
    obtain ⟨k, frm, rfl, rfl, hC, hL, hB⟩ := hrel
    have HC := Lib.hid hC
    have hle := hC.le
    have htop := hC.top
    have hlen : (sp (s.data.toList.take k)).1.length ≤ k := Nat.le_trans (sp_one_le _) (List.length_take_le _ _)
    clear hC
    by_cases hlt : k < s.size
    · by_cases h47 : (s[k]'hlt) = 47
      · have hb : ((s[k]'hlt).toNat : Int) = 47 := by rw [h47]; rfl
        have HB := Lib.hid h47
        clear h47
        go_wp2_with (at_builtin; refine wpList_append_own _ rfl _ _ 57 rfl w.heap.size 9 i0 (.string ⟨#[]⟩) 1 16 Try.underlying57 hi hz0 hz1 hz2 rfl (by decide) _ _ _ rfl (hL.alloc _) ⟨wr.heap.size, 0, none⟩ 1 1 [.string (s.extract frm k)] rfl rfl (cell_one_new _ _ _) (by simp [Value.oneCell']) (by unfold maxLen; omega) (by omega) (by have := hB.size; simp; omega) ?_)
        intro v' w1 hown' hgrow _
        have hb1 := below_app hB hB.size hL hgrow
        have HL := Lib.hid (Lst.snoc (bs_ext s frm k) hown')
        clear hown' hgrow hL
        go_wp2
        go_roundw
        case rel => exact ⟨k + 1, k + 1, by go_num, by go_num, (HC.out.slash hlt HB.out).1, by rw [(HC.out.slash hlt HB.out).2]; exact HL.out, hb1⟩
        case measure => simp [intOf]; omega
      · have hb : ((s[k]'hlt).toNat : Int) ≠ 47 := not47 h47
        have hb' : (((s[k]'hlt).toNat : Int) == 47) = false := by simpa using hb
        have HB := Lib.hid h47
        clear h47 hb
        go_wp2
        go_roundw
        case rel =>
          have e1 := sp_snoc (s.data.toList.take k) (s[k]'hlt)
          rw [← take_snoc' s k hlt, spStep, if_neg HB.out] at e1
          refine ⟨k + 1, frm, by go_num, rfl, ⟨by omega, hlt, ?_⟩, by rw [e1]; exact hL, hB⟩
          rw [e1, HC.out.cur, take_snoc' s k hlt]
          have := len_size s
          rw [List.drop_append_of_le_length (by rw [List.length_take]; omega)]
        case measure => simp [intOf]; omega
    · obtain rfl : k = s.size := by omega
      go_wp2_with (at_builtin; refine wpList_append_own _ rfl _ _ 57 rfl w.heap.size 9 i0 (.string ⟨#[]⟩) 1 16 Try.underlying57 hi hz0 hz1 hz2 rfl (by decide) _ _ _ rfl (hL.alloc _) ⟨wr.heap.size, 0, none⟩ 1 1 [.string (s.extract frm s.size)] rfl rfl (cell_one_new _ _ _) (by simp [Value.oneCell']) (by unfold maxLen; omega) (by omega) (by have := hB.size; simp; omega) ?_)
      intro v' w1 hown' hgrow _
      have hb1 := below_app hB hB.size hL hgrow
      have HL := Lib.hid (Lst.snoc (bs_ext s frm s.size) hown')
      clear hown' hgrow hL
      go_wp2
      go_ret
      refine ⟨_, rfl, ?_, hb1⟩
      have h1 := HL.out
      have c := HC.out.cur
      rw [← c] at h1
      rwa [List.take_of_length_le (by rw [len_size]; omega)] at h1
end Go.Proofs.Ytknhacblialboaa


/-
  Contracts of spec.l2Parts, spec.l2Path, spec.GoodPath.
  Conditions: a text of at most 2^30 bytes.
-/
namespace Go.Proofs.Ytknhacblialboaa
open Go.ChangeShapes Go.WideShapes Go.ChangeAt Go.RowKit Go.Joins
set_option linter.unusedVariables false

theorem full_take_yes {qs : List (List UInt8)} {k : Nat} (h : k < qs.length) (hn : qs[k] ≠ []) : full (qs.take (k + 1)) = full (qs.take k) ++ [qs[k]] := by
  rw [List.take_succ_eq_append_getElem h, full_app]; simp [full, hn]
theorem full_take_no {qs : List (List UInt8)} {k : Nat} (h : k < qs.length) (hn : qs[k] = []) : full (qs.take (k + 1)) = full (qs.take k) := by
  rw [List.take_succ_eq_append_getElem h, full_app]; simp [full, hn]
theorem full_le (qs : List (List UInt8)) : (full qs).length ≤ qs.length := List.length_filter_le _ _
theorem text_ne {p : List UInt8} (h : p ≠ []) : ((bs p).toList.isEmpty) = false ∧ (!(bs p).toList.isEmpty) = true ∧ (bs p).toList ≠ [] := by
  rw [ByteArray.toList_eq, bs_list]
  refine ⟨?_, ?_, h⟩ <;> cases p <;> simp_all
theorem split_len (l : List UInt8) : ((sp l).1 ++ [(sp l).2]).length ≤ l.length + 1 := by have := sp_one_le l; simp; omega

set_option maxHeartbeats 1000000 in
theorem l2Parts_any (s : ByteArray) (w : World) (hs : s.size ≤ 1073741824) : Calls Try.prog 78 #[.string s] w fun e w' => ∃ v, e = .returned v ∧ Lst w' w.heap.size v (parts s.data.toList) ∧ Below w.heap.size w w' := by
  obtain ⟨i0, hi, hz0, hz1, hz2⟩ := info_parts strInfo
  have hql := split_len s.data.toList
  rw [len_size] at hql
  have HQ : Hid (parts s.data.toList = full ((sp s.data.toList).1 ++ [(sp s.data.toList).2])) := Lib.hid rfl
  go_enter Try.func78, Try.ntmps78
  go_wp2_with fail
  refine (l1Split_any s _ hs).mono ?_
  rintro e w1 ⟨v, rfl, hL, hb1⟩
  obtain ⟨qs, hqs⟩ : ∃ qs, qs = (sp s.data.toList).1 ++ [(sp s.data.toList).2] := ⟨_, rfl⟩
  rw [← hqs] at hL hql
  have HQ2 := Lib.hid (HQ.out.trans (congrArg full hqs.symm))
  clear hqs HQ
  obtain ⟨o, c, rfl, hlc, hcm, hH⟩ := hL.read
  have HH := Lib.hid hH
  clear hH hL
  unfold maxLen at hcm
  go_wp2
  go_loopw [3, 9] (fun out i wr => ∃ k : Nat, k ≤ qs.length ∧ i = .int .i64 k ∧ Lst wr w1.heap.size out (full (qs.take k)) ∧ Below w1.heap.size w1 wr) (fun _ i _ => qs.length - (intOf i).toNat)
  case atStart => exact ⟨0, Nat.zero_le _, rfl, Lst.nil _ _, Below.refl _ _⟩
  case round =>
    obtain ⟨k, hk, rfl, hL, hB⟩ := hrel
    have hfl : (full (qs.take k)).length ≤ k := Nat.le_trans (full_le _) (List.length_take_le _ _)
    by_cases hlt : k < qs.length
    · obtain ⟨g, off, rfl, hg, hc⟩ := HH.out k hlt
      have hcell : wr.cell? ⟨g, off + k, none⟩ = some (.string (bs qs[k])) := (hB.cell (p := ⟨g, off + k, none⟩) hg).trans hc
      clear hc
      by_cases hp : qs[k] = []
      · have HF := Lib.hid (full_take_no hlt hp)
        rw [hp] at hcell
        clear hp
        have hcell' : wr.cell? ⟨g, off + k, none⟩ = some (.string ⟨#[]⟩) := hcell
        clear hcell
        go_wp2
        go_roundw
        case rel => exact ⟨k + 1, hlt, by go_num, by rw [HF.out]; exact hL, hB⟩
        case measure => simp [intOf]; omega
      · have HF := Lib.hid (full_take_yes hlt hp)
        obtain ⟨hp1, hp2, hp3⟩ := text_ne hp
        obtain ⟨x, hx⟩ : ∃ x, x = bs qs[k] := ⟨_, rfl⟩
        rw [← hx] at hcell hp1 hp2 hp3
        have HX := Lib.hid hx
        clear hx hp
        go_wp2_with (at_builtin; refine wpList_append_own _ rfl _ _ 57 rfl w1.heap.size 9 i0 (.string ⟨#[]⟩) 1 16 Try.underlying57 hi hz0 hz1 hz2 rfl (by decide) _ _ _ rfl (hL.alloc _) ⟨wr.heap.size, 0, none⟩ 1 1 [.string x] rfl rfl (cell_one_new _ _ _) (by simp [Value.oneCell']) (by unfold maxLen; omega) (by omega) (by have := hB.size; simp; omega) ?_)
        intro v' w2 hown' hgrow _
        have hb2 := below_app hB hB.size hL hgrow
        have HL := Lib.hid (Lst.snoc HX.out hown')
        clear hown' hgrow hL
        go_wp2
        go_roundw
        case rel => exact ⟨k + 1, hlt, by go_num, by rw [HF.out]; exact HL.out, hb2⟩
        case measure => simp [intOf]; omega
    · have HF : Hid (full (qs.take k) = parts s.data.toList) := Lib.hid (by rw [HQ2.out, List.take_of_length_le (by omega)])
      go_wp2
      go_ret
      refine ⟨_, rfl, ?_, hb1.trans (hB.mono hb1.size)⟩
      rw [HF.out] at hL
      exact lst_mono hL hb1.size

theorem snoc_ind {P : List UInt8 → Prop} (h0 : P []) (hs : ∀ l c, P l → P (l ++ [c])) (l : List UInt8) : P l := by
  have : ∀ m : List UInt8, P m.reverse := by
    intro m
    induction m with
    | nil => exact h0
    | cons c m ih => rw [List.reverse_cons]; exact hs _ _ ih
  simpa using this l.reverse
theorem sp_pieces (l : List UInt8) : (∀ p ∈ (sp l).1, p.length ≤ l.length) ∧ (sp l).2.length ≤ l.length := by
  induction l using snoc_ind with
  | h0 => simp [sp]
  | hs l c ih =>
    rw [sp_snoc, spStep]
    split
    · refine ⟨fun p hp => ?_, by simp⟩
      rcases List.mem_append.1 hp with h | h
      · have := ih.1 p h; simp; omega
      · simp at h; subst h; have := ih.2; simp; omega
    · refine ⟨fun p hp => by have := ih.1 p hp; simp; omega, by have := ih.2; simp; omega⟩
theorem part_le {l p : List UInt8} (h : p ∈ parts l) : p.length ≤ l.length := by
  unfold parts full at h
  have h1 := (List.mem_filter.1 h).1
  rcases List.mem_append.1 h1 with h2 | h2
  · exact (sp_pieces l).1 p h2
  · simp at h2; subst h2; exact (sp_pieces l).2
theorem name_part {p : List UInt8} (h : nameB p = true) : partB p = true := by simp [nameB] at h; exact h.1
theorem part_else {p : List UInt8} (hn : nameB p = false) (h1 : p ≠ [46]) (h2 : p ≠ [46, 46]) : partB p = false := by
  simpa [nameB, h1, h2] using hn
theorem text_neq {p q : List UInt8} (h : p ≠ q) : ((bs p).toList == q) = false := by
  rw [ByteArray.toList_eq, bs_list]; simpa using h
theorem parts_le (l : List UInt8) : (parts l).length ≤ l.length + 1 := Nat.le_trans (full_le _) (split_len l)

set_option maxHeartbeats 1000000 in
theorem l2Path_any (s : ByteArray) (w : World) (hs : s.size ≤ 1073741824) : Calls Try.prog 96 #[.string s] w fun e w' => e = .returned (.bool (goodB s.data.toList)) ∧ Below w.heap.size w w' := by
  have hpl := parts_le s.data.toList
  rw [len_size] at hpl
  have HP : Hid (∀ p ∈ parts s.data.toList, p.length ≤ s.size) := Lib.hid (fun p hp => by have := part_le hp; rwa [len_size] at this)
  have HG : Hid (goodB s.data.toList = (inB 1 60 s.size && (parts s.data.toList).all partB)) := Lib.hid (by
    have : decide (1 ≤ s.data.toList.length ∧ s.data.toList.length ≤ 60) = inB 1 60 s.size := by
      rw [len_size, Bool.eq_iff_iff]; simp [inB]; omega
    rw [goodB, this])
  go_enter Try.func96, Try.ntmps96
  go_wp2_with fail
  refine (l2Parts_any s _ hs).mono ?_
  rintro e w1 ⟨v, rfl, hL, hb1⟩
  obtain ⟨ps, hps⟩ : ∃ ps, ps = parts s.data.toList := ⟨_, rfl⟩
  rw [← hps] at hL hpl
  have HP2 : Hid (∀ p ∈ ps, p.length ≤ s.size) := Lib.hid (by rw [hps]; exact HP.out)
  have HG2 : Hid (goodB s.data.toList = (inB 1 60 s.size && ps.all partB)) := Lib.hid (by rw [hps]; exact HG.out)
  clear hps HP HG
  obtain ⟨o, c, rfl, hlc, hcm, hH⟩ := hL.read
  have HH := Lib.hid hH
  clear hH hL
  unfold maxLen at hcm
  go_wp2
  go_loop [8] (fun i => ∃ k : Nat, k ≤ ps.length ∧ i = .int .i64 k ∧ (ps.take k).all partB = true) (fun i => ps.length - (intOf i).toNat)
  case atStart => exact ⟨0, Nat.zero_le _, rfl, rfl⟩
  case round =>
    obtain ⟨k, hk, rfl, hA⟩ := hrel
    have HA := Lib.hid hA
    clear hA
    by_cases hlt : k < ps.length
    · obtain ⟨g, off, rfl, hg, hcell⟩ := HH.out k hlt
      have hsz : (bs ps[k]).size ≤ maxLen := by
        rw [bs_size]; have := HP2.out _ (List.getElem_mem hlt); unfold maxLen; omega
      have HT : Hid ((ps.take (k + 1)).all partB = partB ps[k]) := Lib.hid (by rw [List.take_succ_eq_append_getElem hlt, List.all_append, HA.out]; simp)
      have HBad : partB ps[k] = false → ps.all partB = false := fun h => by
        rw [List.all_eq_false]; exact ⟨_, List.getElem_mem hlt, by simp [h]⟩
      have HBd := Lib.hid HBad
      clear HBad
      by_cases hn : nameB ps[k] = true
      · have HN : Hid (nameB (bs ps[k]).data.toList = true) := Lib.hid (by rw [bs_list]; exact hn)
        have HPt := Lib.hid (name_part hn)
        clear hn
        go_wp2_with (go_at_call 125; refine (l2Name_any _ _ hsz).mono ?_; rintro e w' ⟨rfl, rfl⟩; rw [HN.out])
        go_round
        case rel => exact ⟨k + 1, hlt, by go_num, by rw [HT.out, HPt.out]⟩
        case measure => simp [intOf]; omega
      · have hn' : nameB ps[k] = false := by simpa using hn
        by_cases h1 : ps[k] = [46]
        · have HPt : Hid (partB ps[k] = true) := Lib.hid (by rw [h1]; decide)
          rw [h1] at hcell
          have hcell' : w1.cell? ⟨g, off + k, none⟩ = some (.string ⟨#[46]⟩) := hcell
          have HN : Hid (nameB (ByteArray.mk #[46]).data.toList = false) := Lib.hid (by decide)
          clear hcell hn hn' h1 hsz
          go_wp2_with (go_at_call 125; refine (l2Name_any _ _ (by decide)).mono ?_; rintro e w' ⟨rfl, rfl⟩; rw [HN.out])
          go_round
          case rel => exact ⟨k + 1, hlt, by go_num, by rw [HT.out, HPt.out]⟩
          case measure => simp [intOf]; omega
        · by_cases h2 : ps[k] = [46, 46]
          · have HPt : Hid (partB ps[k] = true) := Lib.hid (by rw [h2]; decide)
            rw [h2] at hcell
            have hcell' : w1.cell? ⟨g, off + k, none⟩ = some (.string ⟨#[46, 46]⟩) := hcell
            have HN : Hid (nameB (ByteArray.mk #[46, 46]).data.toList = false) := Lib.hid (by decide)
            clear hcell hn hn' h1 h2 hsz
            go_wp2_with (go_at_call 125; refine (l2Name_any _ _ (by decide)).mono ?_; rintro e w' ⟨rfl, rfl⟩; rw [HN.out])
            go_round
            case rel => exact ⟨k + 1, hlt, by go_num, by rw [HT.out, HPt.out]⟩
            case measure => simp [intOf]; omega
          · have HPt := Lib.hid (part_else hn' h1 h2)
            have HN : Hid (nameB (bs ps[k]).data.toList = false) := Lib.hid (by rw [bs_list]; exact hn')
            have t1 := text_neq h1
            have t2 := text_neq h2
            obtain ⟨x, hx⟩ : ∃ x, x = bs ps[k] := ⟨_, rfl⟩
            rw [← hx] at hcell hsz t1 t2 HN
            clear hn hn' h1 h2 hx
            go_wp2_with (go_at_call 125; refine (l2Name_any _ _ hsz).mono ?_; rintro e w' ⟨rfl, rfl⟩; rw [HN.out])
            go_ret
            exact ⟨ret_bool (by rw [HG2.out, HBd.out HPt.out, Bool.and_false]), hb1⟩
    · go_wp2_with (go_at_call 75; refine (l1In_any _ _ _ _).mono ?_; rintro e w' ⟨rfl, rfl⟩)
      go_ret
      refine ⟨ret_bool ?_, hb1⟩
      have := HA.out
      rw [List.take_of_length_le (by omega)] at this
      rw [HG2.out, this, Bool.and_true]

end Go.Proofs.Ytknhacblialboaa


/-
  The model's l3Node: a node is good.
  Conditions: at most 2^20 values and letters together.
-/
namespace Go.Proofs.Ytknhacblialboaa
open Go.ChangeShapes Go.WideShapes Go.ChangeAt Go.RowKit Go.Joins
set_option linter.unusedVariables false
set_option linter.unusedSimpArgs false

def nodOk (ns : List Nod) (x : Nod) : Bool :=
  if x.kind = 0 then x.mode == 0 && (x.uid == 0 && (x.gid == 0 && (x.time == 0 && (x.data.isEmpty && x.list.isEmpty))))
  else inB 0 511 x.mode && (inB 0 99 x.uid && (inB 0 99 x.gid && (inB 0 1000000 x.time &&
    (if x.kind = 1 then decide (x.data.length ≤ 60) && x.list.isEmpty
     else if x.kind = 2 then x.data.isEmpty && entsOk ns x.list
     else x.kind == 3 && (goodB x.data && x.list.isEmpty)))))

theorem l1In_eq {n lo hi : Int} {b : Bool} (h : inB lo hi n = b) (w : World) : Calls Try.prog 75 #[.int .i64 n, .int .i64 lo, .int .i64 hi] w fun e w' => e = .returned (.bool b) ∧ w = w' :=
  (l1In_any n lo hi w).mono fun e w' ⟨h1, h2⟩ => ⟨by rw [h1, h], h2⟩
set_option maxHeartbeats 400000 in
theorem l1Mode_eq {n : Int} {b : Bool} (h : inB 0 511 n = b) (w : World) : Calls Try.prog 94 #[.int .i64 n] w fun e w' => e = .returned (.bool b) ∧ w = w' := by
  go_enter Try.func94, Try.ntmps94
  go_wp2_with (go_at_call 75; refine (l1In_eq h _).mono ?_; rintro e w' ⟨rfl, rfl⟩)
  go_ret
  exact ⟨rfl, rfl⟩
theorem heap_alloc_new2 (w : World) (o1 o2 : Obj) : ((w.alloc o1).alloc o2).heap[w.heap.size + 1]? = some o2 := by
  have h := heap_alloc_new (w.alloc o1) o2
  rw [World.size_alloc] at h
  exact h
theorem isE_no {α : Type} {l : List α} (h : l.length ≠ 0) : l.isEmpty = false := by cases l <;> simp_all
theorem isE_yes {α : Type} {l : List α} (h : l.length = 0) : l.isEmpty = true := by cases l <;> simp_all

set_option maxHeartbeats 4000000 in
theorem l3Node_any (f : FsD) (q : Nod) (v lv : Value) (w : World) (hR : FsA w v f) (hE : EntsA w lv q.list) (hs : f.nodes.length ≤ 1048576) (hs2 : q.list.length ≤ 1048576) (hd : q.data.length ≤ 1048576) :
    Calls Try.prog 76 #[v, .agg #[.int .i64 q.kind, .int .i64 q.mode, .int .i64 q.uid, .int .i64 q.gid, .int .i64 q.time, .string (bs q.data), lv]] w fun e w' => e = .returned (.bool (nodOk f.nodes q)) ∧ Below w.heap.size w w' := by
  have HR := Lib.hid hR
  have HE := Lib.hid hE
  obtain ⟨nv, rfl, hN⟩ := hR
  obtain ⟨o, c, rfl, hm, -⟩ := hN
  obtain ⟨o2, c2, rfl, -, -⟩ := hE
  obtain ⟨k, m, u, gi, t, dd, es⟩ := q
  simp only at HE hs2 hd ⊢
  have HDL : Hid ((bs dd).size = dd.length) := Lib.hid (bs_size _)
  obtain ⟨x, hx⟩ : ∃ x, x = bs dd := ⟨_, rfl⟩
  rw [← hx] at HDL ⊢
  have HX := Lib.hid hx
  clear hx
  have HB : Hid (∀ o1 o3, Below w.heap.size w ((w.alloc o1).alloc o3)) := Lib.hid (fun o1 o3 => ((Below.refl _ _).alloc (Nat.le_refl _) _).alloc (by simp) _)
  unfold maxLen at hm
  by_cases hk : k = 0
  · skip
    by_cases h1 : m = 0
    · skip
      by_cases h2 : u = 0
      · skip
        by_cases h3 : gi = 0
        · skip
          by_cases h4 : t = 0
          · skip
            by_cases h5 : dd = []
            · obtain rfl : x = ⟨#[]⟩ := by rw [HX.out, h5]; rfl
              by_cases h6 : es.length = 0
              · have h7 := isE_yes h6
                have HF : Hid (nodOk f.nodes ⟨k, m, u, gi, t, dd, es⟩ = true) := Lib.hid (by simp [nodOk, hk, h1, h2, h3, h4, h5, h7])
                go_enter Try.func76, Try.ntmps76
                go_wp2
                go_ret
                exact ⟨ret_bool (by first | exact HF.out.symm | (have hz := HF.out.symm; rw [k1] at hz; exact hz)), HB.out _ _⟩
              · have h7 := isE_no h6; have h8 : ((es.length : Int) == 0) = false := beq_eq_false_iff_ne.2 (by omega)
                have HF : Hid (nodOk f.nodes ⟨k, m, u, gi, t, dd, es⟩ = false) := Lib.hid (by simp [nodOk, hk, h1, h2, h3, h4, h5, h7])
                go_enter Try.func76, Try.ntmps76
                go_wp2
                go_ret
                exact ⟨ret_bool (by first | exact HF.out.symm | (have hz := HF.out.symm; rw [k1] at hz; exact hz)), HB.out _ _⟩
            · obtain ⟨n1, n2, n3⟩ := text_ne h5
              rw [← HX.out] at n1 n2 n3
              have HF : Hid (nodOk f.nodes ⟨k, m, u, gi, t, dd, es⟩ = false) := Lib.hid (by simp [nodOk, hk, h1, h2, h3, h4, h5])
              go_enter Try.func76, Try.ntmps76
              go_wp2
              go_ret
              exact ⟨ret_bool (by first | exact HF.out.symm | (have hz := HF.out.symm; rw [k1] at hz; exact hz)), HB.out _ _⟩
          · skip
            have HF : Hid (nodOk f.nodes ⟨k, m, u, gi, t, dd, es⟩ = false) := Lib.hid (by simp [nodOk, hk, h1, h2, h3, h4])
            go_enter Try.func76, Try.ntmps76
            go_wp2
            go_ret
            exact ⟨ret_bool (by first | exact HF.out.symm | (have hz := HF.out.symm; rw [k1] at hz; exact hz)), HB.out _ _⟩
        · skip
          have HF : Hid (nodOk f.nodes ⟨k, m, u, gi, t, dd, es⟩ = false) := Lib.hid (by simp [nodOk, hk, h1, h2, h3])
          go_enter Try.func76, Try.ntmps76
          go_wp2
          go_ret
          exact ⟨ret_bool (by first | exact HF.out.symm | (have hz := HF.out.symm; rw [k1] at hz; exact hz)), HB.out _ _⟩
      · skip
        have HF : Hid (nodOk f.nodes ⟨k, m, u, gi, t, dd, es⟩ = false) := Lib.hid (by simp [nodOk, hk, h1, h2])
        go_enter Try.func76, Try.ntmps76
        go_wp2
        go_ret
        exact ⟨ret_bool (by first | exact HF.out.symm | (have hz := HF.out.symm; rw [k1] at hz; exact hz)), HB.out _ _⟩
    · skip
      have HF : Hid (nodOk f.nodes ⟨k, m, u, gi, t, dd, es⟩ = false) := Lib.hid (by simp [nodOk, hk, h1])
      go_enter Try.func76, Try.ntmps76
      go_wp2
      go_ret
      exact ⟨ret_bool (by first | exact HF.out.symm | (have hz := HF.out.symm; rw [k1] at hz; exact hz)), HB.out _ _⟩
  · skip
    by_cases g1 : inB 0 511 m = true
    · have HM := Lib.hid g1
      by_cases g2 : inB 0 99 u = true
      · have HU := Lib.hid g2
        by_cases g3 : inB 0 99 gi = true
        · have HG := Lib.hid g3
          by_cases g4 : inB 0 1000000 t = true
          · have HT := Lib.hid g4
            by_cases k1 : k = 1
            · by_cases k2 : dd.length ≤ 60
              · have k3 : x.size ≤ 60 := by rw [HDL.out]; exact k2
                by_cases h6 : es.length = 0
                · have h7 := isE_yes h6
                  have HF : Hid (nodOk f.nodes ⟨k, m, u, gi, t, dd, es⟩ = true) := Lib.hid (by simp [nodOk, hk, g1, g2, g3, g4, k1, k2, h7])
                  go_enter Try.func76, Try.ntmps76
                  go_wp2_with (first | (go_at_call 94; refine (l1Mode_eq HM.out _).mono ?_; rintro e w' ⟨rfl, rfl⟩) | (go_at_call 75; refine (l1In_eq (by first | exact HU.out | exact HG.out | exact HT.out) _).mono ?_; rintro e w' ⟨rfl, rfl⟩))
                  go_ret
                  exact ⟨ret_bool (by first | exact HF.out.symm | (have hz := HF.out.symm; rw [k1] at hz; exact hz)), HB.out _ _⟩
                · have h7 := isE_no h6; have h8 : ((es.length : Int) == 0) = false := beq_eq_false_iff_ne.2 (by omega)
                  have HF : Hid (nodOk f.nodes ⟨k, m, u, gi, t, dd, es⟩ = false) := Lib.hid (by simp [nodOk, hk, g1, g2, g3, g4, k1, k2, h7])
                  go_enter Try.func76, Try.ntmps76
                  go_wp2_with (first | (go_at_call 94; refine (l1Mode_eq HM.out _).mono ?_; rintro e w' ⟨rfl, rfl⟩) | (go_at_call 75; refine (l1In_eq (by first | exact HU.out | exact HG.out | exact HT.out) _).mono ?_; rintro e w' ⟨rfl, rfl⟩))
                  go_ret
                  exact ⟨ret_bool (by first | exact HF.out.symm | (have hz := HF.out.symm; rw [k1] at hz; exact hz)), HB.out _ _⟩
              · have k3 : ¬ x.size ≤ 60 := by rw [HDL.out]; exact k2
                have HF : Hid (nodOk f.nodes ⟨k, m, u, gi, t, dd, es⟩ = false) := Lib.hid (by simp [nodOk, hk, g1, g2, g3, g4, k1, k2])
                go_enter Try.func76, Try.ntmps76
                go_wp2_with (first | (go_at_call 94; refine (l1Mode_eq HM.out _).mono ?_; rintro e w' ⟨rfl, rfl⟩) | (go_at_call 75; refine (l1In_eq (by first | exact HU.out | exact HG.out | exact HT.out) _).mono ?_; rintro e w' ⟨rfl, rfl⟩))
                go_ret
                exact ⟨ret_bool (by first | exact HF.out.symm | (have hz := HF.out.symm; rw [k1] at hz; exact hz)), HB.out _ _⟩
            · by_cases k2 : k = 2
              · by_cases h5 : dd = []
                · obtain rfl : x = ⟨#[]⟩ := by rw [HX.out, h5]; rfl
                  have HF : Hid (nodOk f.nodes ⟨k, m, u, gi, t, dd, es⟩ = entsOk f.nodes es) := Lib.hid (by simp [nodOk, hk, g1, g2, g3, g4, k1, k2, h5])
                  go_enter Try.func76, Try.ntmps76
                  go_wp2_with (first | (go_at_call 94; refine (l1Mode_eq HM.out _).mono ?_; rintro e w' ⟨rfl, rfl⟩) | (go_at_call 75; refine (l1In_eq (by first | exact HU.out | exact HG.out | exact HT.out) _).mono ?_; rintro e w' ⟨rfl, rfl⟩))
                  refine (l3Entries_any f es _ _ _ (HR.out.below (HB.out _ _)) (HE.out.below (HB.out _ _)) hs hs2).mono ?_
                  rintro e w1 ⟨rfl, hb1⟩
                  have HB1 := Lib.hid ((HB.out _ _).trans (hb1.mono (HB.out _ _).size))
                  clear hb1
                  go_wp2
                  go_ret
                  exact ⟨ret_bool HF.out.symm, HB1.out⟩
                · obtain ⟨n1, n2, n3⟩ := text_ne h5
                  rw [← HX.out] at n1 n2 n3
                  have HF : Hid (nodOk f.nodes ⟨k, m, u, gi, t, dd, es⟩ = false) := Lib.hid (by simp [nodOk, hk, g1, g2, g3, g4, k1, k2, h5])
                  go_enter Try.func76, Try.ntmps76
                  go_wp2_with (first | (go_at_call 94; refine (l1Mode_eq HM.out _).mono ?_; rintro e w' ⟨rfl, rfl⟩) | (go_at_call 75; refine (l1In_eq (by first | exact HU.out | exact HG.out | exact HT.out) _).mono ?_; rintro e w' ⟨rfl, rfl⟩))
                  go_ret
                  exact ⟨ret_bool (by first | exact HF.out.symm | (have hz := HF.out.symm; rw [k1] at hz; exact hz)), HB.out _ _⟩
              · by_cases k3 : k = 3
                · have HKK : Hid (k = 3) := Lib.hid k3
                  by_cases k4 : goodB dd = true
                  · have HP : Hid (goodB x.data.toList = true) := Lib.hid (by rw [HX.out, bs_list]; exact k4)
                    by_cases h6 : es.length = 0
                    · have h7 := isE_yes h6
                      have HF : Hid (nodOk f.nodes ⟨k, m, u, gi, t, dd, es⟩ = true) := Lib.hid (by simp [nodOk, hk, g1, g2, g3, g4, k1, k2, k3, k4, h7])
                      go_enter Try.func76, Try.ntmps76
                      go_wp2_with (first | (go_at_call 94; refine (l1Mode_eq HM.out _).mono ?_; rintro e w' ⟨rfl, rfl⟩) | (go_at_call 75; refine (l1In_eq (by first | exact HU.out | exact HG.out | exact HT.out) _).mono ?_; rintro e w' ⟨rfl, rfl⟩))
                      refine (l2Path_any x _ (by rw [HDL.out]; omega)).mono ?_
                      rintro e w1 ⟨rfl, hb1⟩
                      rw [HP.out]
                      have HB1 := Lib.hid ((HB.out _ _).trans (hb1.mono (HB.out _ _).size))
                      obtain ⟨L1, -⟩ := old_cells hb1
                      have j6 := L1 (w.heap.size + 1) 6 (by simp)
                      rw [cell_blk (heap_alloc_new2 w _ _) 6] at j6
                      have j7 := j6.trans rfl
                      clear hb1 L1 j6
                      go_wp2
                      go_ret
                      exact ⟨ret_bool HF.out.symm, HB1.out⟩
                    · have h7 := isE_no h6; have h8 : ((es.length : Int) == 0) = false := beq_eq_false_iff_ne.2 (by omega)
                      have HF : Hid (nodOk f.nodes ⟨k, m, u, gi, t, dd, es⟩ = false) := Lib.hid (by simp [nodOk, hk, g1, g2, g3, g4, k1, k2, k3, k4, h7])
                      go_enter Try.func76, Try.ntmps76
                      go_wp2_with (first | (go_at_call 94; refine (l1Mode_eq HM.out _).mono ?_; rintro e w' ⟨rfl, rfl⟩) | (go_at_call 75; refine (l1In_eq (by first | exact HU.out | exact HG.out | exact HT.out) _).mono ?_; rintro e w' ⟨rfl, rfl⟩))
                      refine (l2Path_any x _ (by rw [HDL.out]; omega)).mono ?_
                      rintro e w1 ⟨rfl, hb1⟩
                      rw [HP.out]
                      have HB1 := Lib.hid ((HB.out _ _).trans (hb1.mono (HB.out _ _).size))
                      obtain ⟨L1, -⟩ := old_cells hb1
                      have j6 := L1 (w.heap.size + 1) 6 (by simp)
                      rw [cell_blk (heap_alloc_new2 w _ _) 6] at j6
                      have j7 := j6.trans rfl
                      clear hb1 L1 j6
                      go_wp2
                      go_ret
                      exact ⟨ret_bool HF.out.symm, HB1.out⟩
                  · have HP : Hid (goodB x.data.toList = false) := Lib.hid (by rw [HX.out, bs_list]; simpa using k4)
                    have HF : Hid (nodOk f.nodes ⟨k, m, u, gi, t, dd, es⟩ = false) := Lib.hid (by simp [nodOk, hk, g1, g2, g3, g4, k1, k2, k3, k4])
                    go_enter Try.func76, Try.ntmps76
                    go_wp2_with (first | (go_at_call 94; refine (l1Mode_eq HM.out _).mono ?_; rintro e w' ⟨rfl, rfl⟩) | (go_at_call 75; refine (l1In_eq (by first | exact HU.out | exact HG.out | exact HT.out) _).mono ?_; rintro e w' ⟨rfl, rfl⟩))
                    refine (l2Path_any x _ (by rw [HDL.out]; omega)).mono ?_
                    rintro e w1 ⟨rfl, hb1⟩
                    rw [HP.out]
                    have HB1 := Lib.hid ((HB.out _ _).trans (hb1.mono (HB.out _ _).size))
                    obtain ⟨L1, -⟩ := old_cells hb1
                    have j6 := L1 (w.heap.size + 1) 6 (by simp)
                    rw [cell_blk (heap_alloc_new2 w _ _) 6] at j6
                    have j7 := j6.trans rfl
                    clear hb1 L1 j6
                    go_wp2
                    go_ret
                    exact ⟨ret_bool HF.out.symm, HB1.out⟩
                · skip
                  have HF : Hid (nodOk f.nodes ⟨k, m, u, gi, t, dd, es⟩ = false) := Lib.hid (by simp [nodOk, hk, g1, g2, g3, g4, k1, k2, k3])
                  go_enter Try.func76, Try.ntmps76
                  go_wp2_with (first | (go_at_call 94; refine (l1Mode_eq HM.out _).mono ?_; rintro e w' ⟨rfl, rfl⟩) | (go_at_call 75; refine (l1In_eq (by first | exact HU.out | exact HG.out | exact HT.out) _).mono ?_; rintro e w' ⟨rfl, rfl⟩))
                  go_ret
                  exact ⟨ret_bool (by first | exact HF.out.symm | (have hz := HF.out.symm; rw [k1] at hz; exact hz)), HB.out _ _⟩
          · have g4' : inB 0 1000000 t = false := by simpa using g4
            have HT := Lib.hid g4'
            have HF : Hid (nodOk f.nodes ⟨k, m, u, gi, t, dd, es⟩ = false) := Lib.hid (by simp [nodOk, hk, g1, g2, g3, g4'])
            go_enter Try.func76, Try.ntmps76
            go_wp2_with (first | (go_at_call 94; refine (l1Mode_eq HM.out _).mono ?_; rintro e w' ⟨rfl, rfl⟩) | (go_at_call 75; refine (l1In_eq (by first | exact HU.out | exact HG.out | exact HT.out) _).mono ?_; rintro e w' ⟨rfl, rfl⟩))
            go_ret
            exact ⟨ret_bool (by first | exact HF.out.symm | (have hz := HF.out.symm; rw [k1] at hz; exact hz)), HB.out _ _⟩
        · have g3' : inB 0 99 gi = false := by simpa using g3
          have HG := Lib.hid g3'
          have HF : Hid (nodOk f.nodes ⟨k, m, u, gi, t, dd, es⟩ = false) := Lib.hid (by simp [nodOk, hk, g1, g2, g3'])
          have HT := HF
          go_enter Try.func76, Try.ntmps76
          go_wp2_with (first | (go_at_call 94; refine (l1Mode_eq HM.out _).mono ?_; rintro e w' ⟨rfl, rfl⟩) | (go_at_call 75; refine (l1In_eq (by first | exact HU.out | exact HG.out | exact HT.out) _).mono ?_; rintro e w' ⟨rfl, rfl⟩))
          go_ret
          exact ⟨ret_bool (by first | exact HF.out.symm | (have hz := HF.out.symm; rw [k1] at hz; exact hz)), HB.out _ _⟩
      · have g2' : inB 0 99 u = false := by simpa using g2
        have HU := Lib.hid g2'
        have HF : Hid (nodOk f.nodes ⟨k, m, u, gi, t, dd, es⟩ = false) := Lib.hid (by simp [nodOk, hk, g1, g2'])
        have HG := HF
        have HT := HF
        go_enter Try.func76, Try.ntmps76
        go_wp2_with (first | (go_at_call 94; refine (l1Mode_eq HM.out _).mono ?_; rintro e w' ⟨rfl, rfl⟩) | (go_at_call 75; refine (l1In_eq (by first | exact HU.out | exact HG.out | exact HT.out) _).mono ?_; rintro e w' ⟨rfl, rfl⟩))
        go_ret
        exact ⟨ret_bool (by first | exact HF.out.symm | (have hz := HF.out.symm; rw [k1] at hz; exact hz)), HB.out _ _⟩
    · have g1' : inB 0 511 m = false := by simpa using g1
      have HM := Lib.hid g1'
      have HF : Hid (nodOk f.nodes ⟨k, m, u, gi, t, dd, es⟩ = false) := Lib.hid (by simp [nodOk, hk, g1'])
      have HU := HF
      have HG := HF
      have HT := HF
      go_enter Try.func76, Try.ntmps76
      go_wp2_with (first | (go_at_call 94; refine (l1Mode_eq HM.out _).mono ?_; rintro e w' ⟨rfl, rfl⟩) | (go_at_call 75; refine (l1In_eq (by first | exact HU.out | exact HG.out | exact HT.out) _).mono ?_; rintro e w' ⟨rfl, rfl⟩))
      go_ret
      exact ⟨ret_bool (by first | exact HF.out.symm | (have hz := HF.out.symm; rw [k1] at hz; exact hz)), HB.out _ _⟩
end Go.Proofs.Ytknhacblialboaa


/-
  Lists of numbers that a call reads or has built; the model's l1Has, l1Put.
  Conditions: at most 2^20 numbers; what is put is not there yet.
-/
namespace Go.Proofs.Ytknhacblialboaa
open Go.ChangeShapes Go.WideShapes Go.ChangeAt Go.RowKit Go.Joins
set_option linter.unusedVariables false

theorem intInfo : (Try.prog.info? 3).map (fun i => (i.zero, i.size, i.bytes)) = some (some (.int .i64 0), 1, 8) := by kernel_rfl

def ints (l : List Int) : List Value := l.map fun n => .int .i64 n
/-- The value is a list of numbers that the call has built, in blocks from B on. -/
def LstI (w : World) (B : Nat) (v : Value) (l : List Int) : Prop := w.ownsRow B 3 1 v l.length (ints l)
/-- The value reads as a list of numbers. -/
def RdI (w : World) (v : Value) (l : List Int) : Prop :=
  ∃ o c, v = .slice o l.length c ∧ l.length ≤ c ∧ c ≤ maxLen ∧ (o = none → c = 0) ∧ ∀ a, o = some a → ∃ g off, a = ⟨g, off, none⟩ ∧ g < w.heap.size ∧ ∀ i (h : i < l.length), w.cell? ⟨g, off + i, none⟩ = some (.int .i64 l[i])

theorem LstI.read {w : World} {B : Nat} {v : Value} {l : List Int} (h : LstI w B v l) : RdI w v l := by
  rcases h with ⟨hl, ⟨rfl, h0⟩ | ⟨g, cap, cur, rfl, hB, hg, hn, hm, hs, ht⟩⟩
  · have : l = [] := List.eq_nil_of_length_eq_zero h0
    subst this
    exact ⟨none, 0, rfl, Nat.le_refl _, Nat.zero_le _, fun _ => rfl, fun a ha => by cases ha⟩
  · refine ⟨_, _, rfl, hn, hm, (fun e => by cases e), fun a ha => ?_⟩
    cases ha
    refine ⟨g, 0, rfl, (Array.getElem?_eq_some_iff.1 hg).1, fun i hi => ?_⟩
    have h1 : cur[i]? = some (.int .i64 l[i]) := by
      rw [← Array.getElem?_toList]
      have h2 : (cur.toList.take (l.length * 1))[i]? = some (.int .i64 l[i]) := by
        rw [ht]; simp [ints, hi]
      rw [List.getElem?_take] at h2
      rw [if_pos (by omega)] at h2
      exact h2
    simp [World.cell?, hg, h1]
theorem RdI.below {w w' : World} {v : Value} {l : List Int} (h : RdI w v l) (hb : Below w.heap.size w w') : RdI w' v l := by
  obtain ⟨o, c, rfl, h1, h2, h0, h3⟩ := h
  refine ⟨o, c, rfl, h1, h2, h0, fun a ha => ?_⟩
  obtain ⟨g, off, e, hg, hc⟩ := h3 a ha
  exact ⟨g, off, e, Nat.lt_of_lt_of_le hg hb.size, fun i hi => (hb.cell (p := ⟨g, off + i, none⟩) hg).trans (hc i hi)⟩
theorem RdI.nil (w : World) : RdI w (.slice none 0 0) [] := ⟨none, 0, rfl, Nat.le_refl _, Nat.zero_le _, fun _ => rfl, fun a ha => by cases ha⟩
theorem below_appI {w wr w1 : World} {B : Nat} {v : Value} {n : Nat} {xs : List Value} (hb : Below B w wr) (hB : B ≤ wr.heap.size) (hown : wr.ownsRow B 3 1 v n xs) (hg : wr.grownBy w1 v.ownBlock) : Below B w w1 := by
  refine hb.grown hg (by first | omega | exact hB) fun j ej => ?_
  rcases hown.2 with ⟨rfl, _⟩ | ⟨g, cap, cur, rfl, hgb, _, _⟩
  · simp [Value.ownBlock] at ej
  · obtain rfl : g = j := by simpa [Value.ownBlock] using ej
    exact hgb

theorem own_none (w : World) : (w.alloc (.cells #[] 3)).ownsRow w.heap.size 3 1 (.slice (some ⟨w.heap.size, 0, none⟩) 0 0) 0 [] :=
  ⟨rfl, .inr ⟨w.heap.size, 0, #[], rfl, Nat.le_refl _, heap_alloc_new w _, Nat.le_refl _, Nat.zero_le _, rfl, rfl⟩⟩
theorem ints_one (l : List Int) : ∀ u ∈ ints l, u.oneCell' = true := by
  intro u hu
  simp only [ints, List.mem_map] at hu
  obtain ⟨y, -, rfl⟩ := hu
  rfl
theorem add_plainI (g off i : Nat) : (⟨g, off, none⟩ : Addr).add i = ⟨g, off + i, none⟩ := by
  unfold Addr.add; split
  · rename_i h; subst h; rfl
  · rfl
def hasI (l : List Int) (n : Int) : Bool := l.any fun x => x == n

set_option maxHeartbeats 1000000 in
theorem l1Has_any (l : List Int) (n : Int) (v : Value) (w : World) (hR : RdI w v l) (hs : l.length ≤ 1048576) : Calls Try.prog 56 #[v, .int .i64 n] w fun e w' => e = .returned (.bool (hasI l n)) ∧ w = w' := by
  obtain ⟨o, c, rfl, h1, h2, h0, h3⟩ := hR
  have H3 := Lib.hid h3
  have H0 := Lib.hid h0
  clear h3 h0
  go_enter Try.func56, Try.ntmps56
  go_wp2
  go_loopw [9] (fun i wr => ∃ k : Nat, k ≤ l.length ∧ i = .int .i64 k ∧ wr = w ∧ ∀ j (hj : j < l.length), j < k → (l[j] == n) = false) (fun i _ => l.length - (intOf i).toNat)
  case atStart => exact ⟨0, Nat.zero_le _, rfl, rfl, fun j hj h => absurd h (Nat.not_lt_zero _)⟩
  case round =>
    obtain ⟨k, hk, rfl, rfl, hj⟩ := hrel
    have HJ := Lib.hid hj
    clear hj
    by_cases hlt : k < l.length
    · obtain ⟨g, off, rfl, hg, hc⟩ : ∃ g off, o = some ⟨g, off, none⟩ ∧ g < wr.heap.size ∧ ∀ i (h : i < l.length), wr.cell? ⟨g, off + i, none⟩ = some (.int .i64 l[i]) := by
        cases o with
        | none => have := H0.out rfl; omega
        | some a => obtain ⟨g, off, rfl, h⟩ := H3.out a rfl; exact ⟨g, off, rfl, h⟩
      have d0 := hc k hlt
      clear hc
      obtain ⟨x, hx⟩ : ∃ x, x = l[k] := ⟨_, rfl⟩
      have HX := Lib.hid hx
      rw [← hx] at d0
      clear hx
      by_cases he : x = n
      · have HF : Hid (hasI l n = true) := Lib.hid (by unfold hasI; rw [List.any_eq_true]; exact ⟨l[k], List.getElem_mem hlt, by rw [← HX.out, he]; simp⟩)
        go_wp2
        go_ret
        exact ⟨ret_bool HF.out.symm, rfl⟩
      · have HJ2 : Hid (∀ j (hj : j < l.length), j < k + 1 → (l[j] == n) = false) := Lib.hid (by
          intro j hj h
          rcases Nat.lt_succ_iff_lt_or_eq.1 h with h1 | rfl
          · exact HJ.out j hj h1
          · rw [← HX.out]; simpa using he)
        go_wp2
        go_roundw
        case rel => exact ⟨k + 1, hlt, by go_num, trivial, HJ2.out⟩
        case measure => simp [intOf]; omega
    · have HF : Hid (hasI l n = false) := Lib.hid (by
        unfold hasI
        rw [List.any_eq_false]
        intro e he
        obtain ⟨m, hm, rfl⟩ := List.getElem_of_mem he
        rw [HJ.out m hm (by omega)]; simp)
      go_wp2
      go_ret
      exact ⟨ret_bool HF.out.symm, rfl⟩

set_option maxHeartbeats 4000000 in
theorem l1Put_any (l : List Int) (n : Int) (v : Value) (w : World) (hR : RdI w v l) (hn : n ∉ l) (hs : l.length ≤ 1048576) : Calls Try.prog 57 #[v, .int .i64 n] w fun e w' => ∃ v' k, e = .returned v' ∧ LstI w' w.heap.size v' (l.take k ++ n :: l.drop k) ∧ Below w.heap.size w w' := by
  have HR := Lib.hid hR
  obtain ⟨o, c, rfl, h1, h2, h0, h3⟩ := hR
  have H3 := Lib.hid h3
  have H0 := Lib.hid h0
  have HNL := Lib.hid hn
  clear h3 h0 hn
  unfold maxLen at h2
  go_enter Try.func57, Try.ntmps57
  go_wp2
  go_loopw [5] (fun i wr => ∃ k : Nat, k ≤ l.length ∧ i = .int .i64 k ∧ wr = w) (fun i _ => l.length - (intOf i).toNat)
  case atStart => exact ⟨0, Nat.zero_le _, rfl, rfl⟩
  case round =>
    obtain ⟨k, hk, rfl, rfl⟩ := hrel
    obtain ⟨i0, hi, hz0, hz1, hz2⟩ := info_parts intInfo
    by_cases hlt : k < l.length
    · obtain ⟨g, off, rfl, hg, hc⟩ : ∃ g off, o = some ⟨g, off, none⟩ ∧ g < wr.heap.size ∧ ∀ i (h : i < l.length), wr.cell? ⟨g, off + i, none⟩ = some (.int .i64 l[i]) := by
        cases o with
        | none => have := H0.out rfl; omega
        | some a => obtain ⟨g, off, rfl, h⟩ := H3.out a rfl; exact ⟨g, off, rfl, h⟩
      have d0 := hc k hlt
      have HC := Lib.hid hc
      clear hc
      obtain ⟨x, hx⟩ : ∃ x, x = l[k] := ⟨_, rfl⟩
      have HX := Lib.hid hx
      rw [← hx] at d0
      clear hx
      have hne : x ≠ n := fun e => HNL.out (by rw [← e, HX.out]; exact List.getElem_mem hlt)
      have hneb : (x == n) = false := by simpa using hne
      by_cases hl : x < n
      · go_wp2
        go_roundw
        case rel => exact ⟨k + 1, hlt, by go_num, trivial⟩
        case measure => simp [intOf]; omega
      · have HNEW : Hid (∀ j u, (ints (l.take k))[j]? = some u → (wr.alloc (.cells #[] 3)).cell? ((⟨g, off, none⟩ : Addr).add j) = some u) := Lib.hid (by
          intro j u hj
          rw [add_plainI]
          simp only [ints, List.getElem?_map, Option.map_eq_some_iff] at hj
          obtain ⟨y, hy, rfl⟩ := hj
          rw [List.getElem?_take] at hy
          split at hy
          · obtain ⟨hjl, rfl⟩ := List.getElem?_eq_some_iff.1 hy
            exact (((Below.refl wr.heap.size wr).alloc (Nat.le_refl _) _).cell (p := ⟨g, off + j, none⟩) hg).trans (HC.out j hjl)
          · cases hy)
        go_wp2_with (at_builtin; refine wpList_append_own _ rfl _ _ 55 rfl wr.heap.size 3 i0 (.int .i64 0) 1 8 Try.underlying55 hi hz0 hz1 hz2 rfl (by decide) _ 0 [] rfl (own_none wr) ⟨g, off, none⟩ k c (ints (l.take k)) rfl (by simp [ints]; omega) (HNEW.out) (ints_one _) (by unfold maxLen; omega) (by omega) (by simp) ?_)
        intro v1 w1 hown1 hgrow1 _
        have hbA : Below wr.heap.size wr (wr.alloc (.cells #[] 3)) := (Below.refl _ _).alloc (Nat.le_refl _) _
        have hb1 := below_appI hbA (by simp) (own_none wr) hgrow1
        have HO1 := Lib.hid hown1
        clear hown1 hgrow1 hbA
        go_wp2_with (at_builtin; refine wpList_append_own _ rfl _ _ 55 rfl wr.heap.size 3 i0 (.int .i64 0) 1 8 Try.underlying55 hi hz0 hz1 hz2 rfl (by decide) _ _ _ rfl (World.ownsRow.alloc HO1.out _) ⟨w1.heap.size, 0, none⟩ 1 1 [.int .i64 n] rfl rfl (cell_one_new _ _ _) (by simp [Value.oneCell']) (by unfold maxLen; omega) (by omega) (by have := hb1.size; simp; omega) ?_)
        intro v2 w2 hown2 hgrow2 _
        have hb2 := below_appI (hb1.alloc hb1.size (.cells #[.int .i64 n] 3)) (by have := hb1.size; simp; omega) (World.ownsRow.alloc HO1.out _) hgrow2
        have HO2 := Lib.hid hown2
        clear hown2 hgrow2 HO1 hb1
        have hck : ¬ c = k := by omega
        have hck2 : ¬ k = c := by omega
        have HNEW3 : Hid (∀ j u, (ints (l.drop k))[j]? = some u → w2.cell? ((⟨g, off + k, none⟩ : Addr).add j) = some u) := Lib.hid (by
          intro j u hj
          rw [add_plainI]
          simp only [ints, List.getElem?_map, Option.map_eq_some_iff] at hj
          obtain ⟨y, hy, rfl⟩ := hj
          rw [List.getElem?_drop] at hy
          obtain ⟨hjl, rfl⟩ := List.getElem?_eq_some_iff.1 hy
          rw [Nat.add_assoc]
          exact (hb2.cell (p := ⟨g, off + (k + j), none⟩) hg).trans (HC.out (k + j) hjl))
        go_wp2_with (at_builtin; refine wpList_append_own _ rfl _ _ 55 rfl wr.heap.size 3 i0 (.int .i64 0) 1 8 Try.underlying55 hi hz0 hz1 hz2 rfl (by decide) _ _ _ rfl HO2.out ⟨g, off + k, none⟩ (l.length - k) (c - k) (ints (l.drop k)) rfl (by simp [ints]) (HNEW3.out) (ints_one _) (by unfold maxLen; omega) (by omega) hb2.size ?_)
        intro v3 w3 hown3 hgrow3 _
        have hb3 := below_appI hb2 hb2.size HO2.out hgrow3
        have HO3 := Lib.hid hown3
        clear hown3 hgrow3 HO2 hb2
        go_wp2
        go_ret
        refine ⟨_, k, rfl, ?_, hb3⟩
        have hq := HO3.out
        unfold LstI
        have e1 : (l.take k ++ n :: l.drop k).length = 0 + k + 1 + (l.length - k) := by simp; omega
        rw [e1]
        simpa [ints] using hq
    · obtain rfl : k = l.length := by omega
      cases o with
      | none =>
        have hc0 := H0.out rfl
        have hl0 : l = [] := List.eq_nil_of_length_eq_zero (by omega)
        subst hl0
        subst hc0
        simp only [List.length_nil] at hk hlt ⊢
        have HCN : Hid (∀ j u, [Value.int .i64 n][j]? = some u → ((wr.alloc (.cells #[] 3)).alloc (.cells #[.int .i64 n] 3)).cell? ((⟨wr.heap.size + 1, 0, none⟩ : Addr).add j) = some u) := Lib.hid (by
          have h := cell_one_new (wr.alloc (.cells #[] 3)) (.int .i64 n) 3
          rw [World.size_alloc] at h
          exact h)
        have HO1 : Hid ((wr.alloc (.cells #[] 3)).ownsRow wr.heap.size 3 1 (.slice (some ⟨wr.heap.size, 0, none⟩) 0 0) 0 []) := Lib.hid (own_none wr)
        have hb1 : Below wr.heap.size wr (wr.alloc (.cells #[] 3)) := (Below.refl _ _).alloc (Nat.le_refl _) _
        go_wp2_with (first | (at_builtin; refine wpList_append_own_none rfl _ _ 55 rfl wr.heap.size 3 i0 1 Try.underlying55 hi _ _ _ rfl (own_none wr) rfl ?_) | (at_builtin; refine wpList_append_own _ rfl _ _ 55 rfl wr.heap.size 3 i0 (.int .i64 0) 1 8 Try.underlying55 hi hz0 hz1 hz2 rfl (by decide) _ _ _ rfl (World.ownsRow.alloc HO1.out _) ⟨wr.heap.size + 1, 0, none⟩ 1 1 [.int .i64 n] rfl rfl (HCN.out) (by simp [Value.oneCell']) (by unfold maxLen; omega) (by omega) (by have := hb1.size; simp at this ⊢; omega) ?_))
        intro v2 w2 hown2 hgrow2 _
        have hb2 := below_appI (hb1.alloc hb1.size (.cells #[.int .i64 n] 3)) (by have := hb1.size; simp at this ⊢; omega) (World.ownsRow.alloc HO1.out _) hgrow2
        have HO2 := Lib.hid hown2
        clear hown2 hgrow2 HO1 hb1
        go_wp2_with (at_builtin; refine wpList_append_own_none rfl _ _ 55 rfl wr.heap.size 3 i0 1 Try.underlying55 hi _ _ _ rfl HO2.out rfl ?_)
        go_ret
        refine ⟨_, 0, rfl, ?_, hb2⟩
        have hq := HO2.out
        unfold LstI
        simpa [ints] using hq
      | some a =>
        obtain ⟨g, off, rfl, hg, hc⟩ := H3.out a rfl
        have HC := Lib.hid hc
        clear hc
        have HNEW : Hid (∀ j u, (ints l)[j]? = some u → (wr.alloc (.cells #[] 3)).cell? ((⟨g, off, none⟩ : Addr).add j) = some u) := Lib.hid (by
          intro j u hj
          rw [add_plainI]
          simp only [ints, List.getElem?_map, Option.map_eq_some_iff] at hj
          obtain ⟨y, hy, rfl⟩ := hj
          obtain ⟨hjl, rfl⟩ := List.getElem?_eq_some_iff.1 hy
          exact (((Below.refl wr.heap.size wr).alloc (Nat.le_refl _) _).cell (p := ⟨g, off + j, none⟩) hg).trans (HC.out j hjl))
        by_cases hc0 : c = 0
        · have hl0 : l = [] := List.eq_nil_of_length_eq_zero (by omega)
          subst hl0
          subst hc0
          simp only [List.length_nil] at hk hlt ⊢
          go_wp2_with (at_builtin; refine wpList_append_own _ rfl _ _ 55 rfl wr.heap.size 3 i0 (.int .i64 0) 1 8 Try.underlying55 hi hz0 hz1 hz2 rfl (by decide) _ 0 [] rfl (own_none wr) ⟨g, off, none⟩ 0 0 (ints []) rfl (by simp [ints]) (HNEW.out) (ints_one _) (by unfold maxLen; omega) (by omega) (by simp) ?_)
          intro v1 w1 hown1 hgrow1 _
          have hbA : Below wr.heap.size wr (wr.alloc (.cells #[] 3)) := (Below.refl _ _).alloc (Nat.le_refl _) _
          have hb1 := below_appI hbA (by simp) (own_none wr) hgrow1
          have HO1 := Lib.hid hown1
          clear hown1 hgrow1 hbA
          go_wp2_with (at_builtin; refine wpList_append_own _ rfl _ _ 55 rfl wr.heap.size 3 i0 (.int .i64 0) 1 8 Try.underlying55 hi hz0 hz1 hz2 rfl (by decide) _ _ _ rfl (World.ownsRow.alloc HO1.out _) ⟨w1.heap.size, 0, none⟩ 1 1 [.int .i64 n] rfl rfl (cell_one_new _ _ _) (by simp [Value.oneCell']) (by unfold maxLen; omega) (by omega) (by have := hb1.size; simp at this ⊢; omega) ?_)
          intro v2 w2 hown2 hgrow2 _
          have hb2 := below_appI (hb1.alloc hb1.size (.cells #[.int .i64 n] 3)) (by have := hb1.size; simp at this ⊢; omega) (World.ownsRow.alloc HO1.out _) hgrow2
          have HO2 := Lib.hid hown2
          clear hown2 hgrow2 HO1 hb1
          go_wp2_with (first | (at_builtin; refine wpList_append_own _ rfl _ _ 55 rfl wr.heap.size 3 i0 (.int .i64 0) 1 8 Try.underlying55 hi hz0 hz1 hz2 rfl (by decide) _ _ _ rfl HO2.out ⟨g, off, none⟩ 0 0 [] rfl (by simp) (by simp) (by simp) (by unfold maxLen; omega) (by omega) hb2.size ?_) | (at_builtin; refine wpList_append_own _ rfl _ _ 55 rfl wr.heap.size 3 i0 (.int .i64 0) 1 8 Try.underlying55 hi hz0 hz1 hz2 rfl (by decide) _ _ _ rfl HO2.out ⟨g, off, none⟩ (0 - 0) 0 [] rfl (by simp) (by simp) (by simp) (by unfold maxLen; omega) (by omega) hb2.size ?_))
          intro v3 w3 hown3 hgrow3 _
          have hb3 := below_appI hb2 hb2.size HO2.out hgrow3
          have HO3 := Lib.hid hown3
          clear hown3 hgrow3 HO2 hb2
          go_wp2
          go_ret
          refine ⟨_, 0, rfl, ?_, hb3⟩
          have hq := HO3.out
          unfold LstI
          simpa [ints] using hq
        by_cases hck : c = l.length
        · have hpos : ¬ l.length = 0 := by omega
          go_wp2_with (at_builtin; refine wpList_append_own _ rfl _ _ 55 rfl wr.heap.size 3 i0 (.int .i64 0) 1 8 Try.underlying55 hi hz0 hz1 hz2 rfl (by decide) _ 0 [] rfl (own_none wr) ⟨g, off, none⟩ l.length l.length (ints l) rfl (by simp [ints]) (HNEW.out) (ints_one _) (by unfold maxLen; omega) (by omega) (by simp) ?_)
          intro v1 w1 hown1 hgrow1 _
          have hbA : Below wr.heap.size wr (wr.alloc (.cells #[] 3)) := (Below.refl _ _).alloc (Nat.le_refl _) _
          have hb1 := below_appI hbA (by simp) (own_none wr) hgrow1
          have HO1 := Lib.hid hown1
          clear hown1 hgrow1 hbA
          go_wp2_with (at_builtin; refine wpList_append_own _ rfl _ _ 55 rfl wr.heap.size 3 i0 (.int .i64 0) 1 8 Try.underlying55 hi hz0 hz1 hz2 rfl (by decide) _ _ _ rfl (World.ownsRow.alloc HO1.out _) ⟨w1.heap.size, 0, none⟩ 1 1 [.int .i64 n] rfl rfl (cell_one_new _ _ _) (by simp [Value.oneCell']) (by unfold maxLen; omega) (by omega) (by have := hb1.size; simp at this ⊢; omega) ?_)
          intro v2 w2 hown2 hgrow2 _
          have hb2 := below_appI (hb1.alloc hb1.size (.cells #[.int .i64 n] 3)) (by have := hb1.size; simp at this ⊢; omega) (World.ownsRow.alloc HO1.out _) hgrow2
          have HO2 := Lib.hid hown2
          clear hown2 hgrow2 HO1 hb1
          go_wp2_with (first | (at_builtin; refine wpList_append_own _ rfl _ _ 55 rfl wr.heap.size 3 i0 (.int .i64 0) 1 8 Try.underlying55 hi hz0 hz1 hz2 rfl (by decide) _ _ _ rfl HO2.out ⟨g, off, none⟩ 0 0 [] rfl (by simp) (by simp) (by simp) (by unfold maxLen; omega) (by omega) hb2.size ?_) | (at_builtin; refine wpList_append_own _ rfl _ _ 55 rfl wr.heap.size 3 i0 (.int .i64 0) 1 8 Try.underlying55 hi hz0 hz1 hz2 rfl (by decide) _ _ _ rfl HO2.out ⟨g, off, none⟩ 0 (c - l.length) [] rfl (by simp) (by simp) (by simp) (by unfold maxLen; omega) (by omega) hb2.size ?_) | (at_builtin; refine wpList_append_own _ rfl _ _ 55 rfl wr.heap.size 3 i0 (.int .i64 0) 1 8 Try.underlying55 hi hz0 hz1 hz2 rfl (by decide) _ _ _ rfl HO2.out ⟨g, off, none⟩ (l.length - l.length) 0 [] rfl (by simp) (by simp) (by simp) (by unfold maxLen; omega) (by omega) hb2.size ?_) | (at_builtin; refine wpList_append_own _ rfl _ _ 55 rfl wr.heap.size 3 i0 (.int .i64 0) 1 8 Try.underlying55 hi hz0 hz1 hz2 rfl (by decide) _ _ _ rfl HO2.out ⟨g, off, none⟩ (l.length - l.length) (c - l.length) [] rfl (by simp) (by simp) (by simp) (by unfold maxLen; omega) (by omega) hb2.size ?_))
          intro v3 w3 hown3 hgrow3 _
          have hb3 := below_appI hb2 hb2.size HO2.out hgrow3
          have HO3 := Lib.hid hown3
          clear hown3 hgrow3 HO2 hb2
          go_wp2
          go_ret
          refine ⟨_, l.length, rfl, ?_, hb3⟩
          have hq := HO3.out
          unfold LstI
          simpa [ints] using hq
        · have hck2 : ¬ l.length = c := fun e => hck e.symm
          go_wp2_with (at_builtin; refine wpList_append_own _ rfl _ _ 55 rfl wr.heap.size 3 i0 (.int .i64 0) 1 8 Try.underlying55 hi hz0 hz1 hz2 rfl (by decide) _ 0 [] rfl (own_none wr) ⟨g, off, none⟩ l.length c (ints l) rfl (by simp [ints]) (HNEW.out) (ints_one _) (by unfold maxLen; omega) (by omega) (by simp) ?_)
          intro v1 w1 hown1 hgrow1 _
          have hbA : Below wr.heap.size wr (wr.alloc (.cells #[] 3)) := (Below.refl _ _).alloc (Nat.le_refl _) _
          have hb1 := below_appI hbA (by simp) (own_none wr) hgrow1
          have HO1 := Lib.hid hown1
          clear hown1 hgrow1 hbA
          go_wp2_with (at_builtin; refine wpList_append_own _ rfl _ _ 55 rfl wr.heap.size 3 i0 (.int .i64 0) 1 8 Try.underlying55 hi hz0 hz1 hz2 rfl (by decide) _ _ _ rfl (World.ownsRow.alloc HO1.out _) ⟨w1.heap.size, 0, none⟩ 1 1 [.int .i64 n] rfl rfl (cell_one_new _ _ _) (by simp [Value.oneCell']) (by unfold maxLen; omega) (by omega) (by have := hb1.size; simp at this ⊢; omega) ?_)
          intro v2 w2 hown2 hgrow2 _
          have hb2 := below_appI (hb1.alloc hb1.size (.cells #[.int .i64 n] 3)) (by have := hb1.size; simp at this ⊢; omega) (World.ownsRow.alloc HO1.out _) hgrow2
          have HO2 := Lib.hid hown2
          clear hown2 hgrow2 HO1 hb1
          go_wp2_with (first | (at_builtin; refine wpList_append_own _ rfl _ _ 55 rfl wr.heap.size 3 i0 (.int .i64 0) 1 8 Try.underlying55 hi hz0 hz1 hz2 rfl (by decide) _ _ _ rfl HO2.out ⟨g, off + l.length, none⟩ 0 (c - l.length) [] rfl (by simp) (by simp) (by simp) (by unfold maxLen; omega) (by omega) hb2.size ?_) | (at_builtin; refine wpList_append_own _ rfl _ _ 55 rfl wr.heap.size 3 i0 (.int .i64 0) 1 8 Try.underlying55 hi hz0 hz1 hz2 rfl (by decide) _ _ _ rfl HO2.out ⟨g, off + l.length, none⟩ (l.length - l.length) (c - l.length) [] rfl (by simp) (by simp) (by simp) (by unfold maxLen; omega) (by omega) hb2.size ?_))
          intro v3 w3 hown3 hgrow3 _
          have hb3 := below_appI hb2 hb2.size HO2.out hgrow3
          have HO3 := Lib.hid hown3
          clear hown3 hgrow3 HO2 hb2
          go_wp2
          go_ret
          refine ⟨_, l.length, rfl, ?_, hb3⟩
          have hq := HO3.out
          unfold LstI
          simpa [ints] using hq
end Go.Proofs.Ytknhacblialboaa


/-
  The model's l3Met: the nodes that come from one, entry by entry.
  Conditions: every entry leads to a node; at most 2^20 nodes, and entries of one.
-/
namespace Go.Proofs.Ytknhacblialboaa
open Go.ChangeShapes Go.WideShapes Go.ChangeAt Go.RowKit Go.Joins
set_option linter.unusedVariables false

def kids (ns : List Nod) (x : Int) : List Int := (ns.getD x.toNat ⟨0, 0, 0, 0, 0, [], []⟩).list.map fun e => e.node
inductive Reach (ns : List Nod) (a : Int) : Int → Prop
  | refl : Reach ns a a
  | step {b c : Int} : Reach ns a b → c ∈ kids ns b → Reach ns a c
theorem Reach.from_kid {ns : List Nod} {a b c : Int} (h : b ∈ kids ns a) (hr : Reach ns b c) : Reach ns a c := by
  induction hr with
  | refl => exact .step .refl h
  | step _ hk ih => exact .step ih hk

/-- Numbers of nodes, each once. -/
def Nums (n : Nat) (M : List Int) : Prop := M.Nodup ∧ ∀ x ∈ M, 0 ≤ x ∧ x < n
theorem Nums.len {n : Nat} : ∀ {M : List Int}, Nums n M → M.length ≤ n := by
  induction n with
  | zero => intro M h; cases M with
    | nil => simp
    | cons a r => have := h.2 a (by simp); omega
  | succ n ih =>
    intro M h
    by_cases hm : (n : Int) ∈ M
    · have h1 : Nums n (M.erase n) := ⟨h.1.erase _, fun x hx => by
        rw [h.1.mem_erase_iff] at hx
        have := h.2 x hx.2
        have := hx.1
        omega⟩
      have h2 := ih h1
      rw [List.length_erase_of_mem hm] at h2
      omega
    · have h1 : Nums n M := ⟨h.1, fun x hx => by
        have := h.2 x hx
        have : x ≠ n := fun e => hm (e ▸ hx)
        omega⟩
      have := ih h1
      omega

/-- M' is M with all that comes from a. -/
structure Met (ns : List Nod) (M : List Int) (a : Int) (M' : List Int) : Prop where
  sub : ∀ x ∈ M, x ∈ M'
  has : a ∈ M'
  new : ∀ x ∈ M', x ∉ M → Reach ns a x ∧ ∀ c ∈ kids ns x, c ∈ M'
  nums : Nums ns.length M'
  len : M.length ≤ M'.length

/-- Behind j entries of the node a. -/
structure MetI (ns : List Nod) (M0 : List Int) (a : Int) (es : List Ent) (j : Nat) (M1 : List Int) : Prop where
  sub : ∀ x ∈ M0, x ∈ M1
  new : ∀ x ∈ M1, x ∉ M0 → Reach ns a x ∧ ∀ c ∈ kids ns x, c ∈ M1
  done : ∀ i (h : i < es.length), i < j → es[i].node ∈ M1
  nums : Nums ns.length M1
  len : M0.length ≤ M1.length
theorem MetI.next {ns : List Nod} {M0 M1 M2 : List Int} {a : Int} {es : List Ent} {j : Nat} (h : MetI ns M0 a es j M1) (hj : j < es.length) (hk : es[j].node ∈ kids ns a) (hm : Met ns M1 es[j].node M2) : MetI ns M0 a es (j + 1) M2 := by
  refine ⟨fun x hx => hm.sub x (h.sub x hx), fun x hx hn => ?_, fun i hi hij => ?_, hm.nums, Nat.le_trans h.len hm.len⟩
  · by_cases h1 : x ∈ M1
    · obtain ⟨r, k⟩ := h.new x h1 hn
      exact ⟨r, fun c hc => hm.sub c (k c hc)⟩
    · obtain ⟨r, k⟩ := hm.new x hx h1
      exact ⟨Reach.from_kid hk r, k⟩
  · rcases Nat.lt_succ_iff_lt_or_eq.1 hij with h1 | rfl
    · exact hm.sub _ (h.done i hi h1)
    · exact hm.has

theorem put_mem {M : List Int} {k : Nat} {a x : Int} : x ∈ M.take k ++ a :: M.drop k ↔ x = a ∨ x ∈ M := by
  have h : x ∈ M ↔ x ∈ M.take k ∨ x ∈ M.drop k := by
    conv => lhs; rw [← List.take_append_drop k M]
    rw [List.mem_append]
  rw [List.mem_append, List.mem_cons, h]
  constructor
  · rintro (h | h | h)
    · exact .inr (.inl h)
    · exact .inl h
    · exact .inr (.inr h)
  · rintro (h | h | h)
    · exact .inr (.inl h)
    · exact .inl h
    · exact .inr (.inr h)
theorem put_nums {n : Nat} {M : List Int} {k : Nat} {a : Int} (h : Nums n M) (ha : a ∉ M) (h0 : 0 ≤ a) (h1 : a < n) : Nums n (M.take k ++ a :: M.drop k) := by
  refine ⟨?_, fun x hx => ?_⟩
  · have hp : (M.take k ++ a :: M.drop k).Perm (a :: M) := by
      have := List.perm_middle (a := a) (l₁ := M.take k) (l₂ := M.drop k)
      rw [List.take_append_drop] at this
      exact this
    rw [hp.nodup_iff]
    exact List.nodup_cons.2 ⟨ha, h.1⟩
  · rcases put_mem.1 hx with rfl | hx
    · exact ⟨h0, h1⟩
    · exact h.2 x hx
theorem hasI_iff {M : List Int} {a : Int} : hasI M a = true ↔ a ∈ M := by
  unfold hasI
  rw [List.any_eq_true]
  constructor
  · rintro ⟨x, hx, e⟩
    have : x = a := by simpa using e
    exact this ▸ hx
  · exact fun h => ⟨a, h, by simp⟩

/-- Every entry leads to a node. -/
def Lead (ns : List Nod) : Prop := ∀ n ∈ ns, ∀ e ∈ n.list, 0 ≤ e.node ∧ e.node < ns.length

set_option maxHeartbeats 4000000 in
theorem l3Met_any (f : FsD) (hld : Lead f.nodes) (hs : f.nodes.length ≤ 1048576) (hs2 : ∀ n ∈ f.nodes, n.list.length ≤ 1048576) (d : Nat) : ∀ (M : List Int) (a : Int) (v mv : Value) (w : World), f.nodes.length - M.length = d → FsA w v f → RdI w mv M → Nums f.nodes.length M → 0 ≤ a → a < f.nodes.length →
    Calls Try.prog 63 #[v, .int .i64 a, mv] w fun e w' => ∃ v' M', e = .returned v' ∧ RdI w' v' M' ∧ Met f.nodes M a M' ∧ Below w.heap.size w w' := by
  induction d using Nat.strongRecOn with
  | _ d ih =>
  intro M a v mv w hd hR hM hn h0 h1
  have HIH := Lib.hid ih
  have HLD := Lib.hid hld
  have HS2 := Lib.hid hs2
  have HR := Lib.hid hR
  obtain ⟨nv, rfl, hN⟩ := hR
  obtain ⟨o, c, rfl, hm, hH⟩ := hN
  have HH := Lib.hid hH
  have HM := Lib.hid hM
  have HNM := Lib.hid hn
  obtain ⟨om, cm, rfl, -, -, -, -⟩ := id hM
  have hml := hn.len
  have hbw : Below w.heap.size w (w.alloc (.cells #[.slice o f.nodes.length c, .int .i64 f.room] 31)) := (Below.refl _ _).alloc (Nat.le_refl _) _
  have hk0 := heap_alloc_new w (.cells #[.slice o f.nodes.length c, .int .i64 f.room] 31)
  have HB := Lib.hid hbw
  have HK := Lib.hid hk0
  clear ih hld hs2 hH hM hn hbw hk0
  unfold maxLen at hm
  by_cases hh : hasI M a = true
  · have HA := Lib.hid hh
    go_enter Try.func63, Try.ntmps63
    go_wp2_with fail
    refine (l1Has_any M a _ _ (HM.out.below HB.out) (by omega)).mono ?_
    rintro e w1 ⟨rfl, rfl⟩
    rw [HA.out]
    go_wp2
    go_ret
    refine ⟨_, M, rfl, HM.out.below HB.out, ⟨fun x hx => hx, hasI_iff.1 HA.out, fun x hx hn => absurd hx hn, HNM.out, Nat.le_refl _⟩, HB.out⟩
  · have HA : Hid (hasI M a = false) := Lib.hid (by simpa using hh)
    have HAN : Hid (a ∉ M) := Lib.hid (fun h => hh (hasI_iff.2 h))
    obtain ⟨m, rfl⟩ : ∃ m : Nat, a = m := ⟨a.toNat, by omega⟩
    have hml2 : m < f.nodes.length := by omega
    obtain ⟨g, off, lv, rfl, hg, hcc, he, -⟩ := HH.out m hml2
    have HC6 := Lib.hid hcc.c6
    obtain ⟨q, hqq⟩ : ∃ q, q = f.nodes[m] := ⟨_, rfl⟩
    have HQ := Lib.hid hqq
    rw [← hqq] at he
    have HE0 := Lib.hid he
    obtain ⟨oe, ce, rfl, -, hE⟩ := id he
    have HE := Lib.hid hE
    have hql : q.list.length ≤ 1048576 := HS2.out q (by rw [HQ.out]; exact List.getElem_mem hml2)
    have HKD : Hid (∀ x, x ∈ kids f.nodes (m : Int) ↔ ∃ i, ∃ h : i < q.list.length, x = q.list[i].node) := Lib.hid (by
      intro x
      have e1 : f.nodes.getD (m : Int).toNat ⟨0, 0, 0, 0, 0, [], []⟩ = q := by rw [HQ.out]; simp [List.getD, hml2]
      unfold kids
      rw [e1, List.mem_map]
      constructor
      · rintro ⟨e, he, rfl⟩
        obtain ⟨i, hi, rfl⟩ := List.getElem_of_mem he
        exact ⟨i, hi, rfl⟩
      · rintro ⟨i, hi, rfl⟩
        exact ⟨_, List.getElem_mem hi, rfl⟩)
    have HLQ : Hid (∀ i (h : i < q.list.length), 0 ≤ q.list[i].node ∧ q.list[i].node < f.nodes.length) := Lib.hid (fun i hi => HLD.out q (by rw [HQ.out]; exact List.getElem_mem hml2) _ (List.getElem_mem hi))
    clear hh hqq he hE hcc
    go_enter Try.func63, Try.ntmps63
    go_wp2_with fail
    refine (l1Has_any M _ _ _ (HM.out.below HB.out) (by omega)).mono ?_
    rintro e w1 ⟨rfl, rfl⟩
    rw [HA.out]
    go_wp2_with fail
    refine (l1Put_any M _ _ _ (HM.out.below HB.out) HAN.out (by omega)).mono ?_
    rintro e w2 ⟨v2, kk, rfl, hL2, hb2⟩
    have HB2 := Lib.hid (HB.out.trans (hb2.mono HB.out.size))
    have HK2 := Lib.hid ((hb2.block w.heap.size (lt_of_heap HK.out)).trans HK.out)
    have s0 := (cell_blk HK2.out 0).trans rfl
    have d6 := (HB2.out.cell (p := ⟨g, off + m * 7 + 6, none⟩) hg).trans HC6.out
    have HP : Hid (Nums f.nodes.length (M.take kk ++ (m : Int) :: M.drop kk)) := Lib.hid (put_nums HNM.out HAN.out h0 h1)
    have hlen : (M.take kk ++ (m : Int) :: M.drop kk).length = M.length + 1 := by
      have := congrArg List.length (List.take_append_drop kk M)
      simp only [List.length_append, List.length_cons] at this ⊢
      omega
    have hmax := HP.out.len
    have HL2 := Lib.hid hL2.read
    obtain ⟨o2, c2, rfl, -, -, -, -⟩ := hL2.read
    obtain ⟨M0, hM0⟩ : ∃ M0, M0 = M.take kk ++ (m : Int) :: M.drop kk := ⟨_, rfl⟩
    have HM0 : Hid (∀ x, x ∈ M0 ↔ x = (m : Int) ∨ x ∈ M) := Lib.hid (fun x => by rw [hM0]; exact put_mem)
    rw [← hM0] at HP hlen hmax HL2 ⊢
    clear hb2 hL2 hM0
    go_wp2
    go_loopw [2, 23] (fun t i wr => ∃ (j : Nat) (M1 : List Int), j ≤ q.list.length ∧ i = .int .i64 j ∧ RdI wr t M1 ∧ MetI f.nodes M0 (m : Int) q.list j M1 ∧ Below w.heap.size w wr ∧ wr.heap[w.heap.size]? = some (.cells #[.slice (some ⟨g, off, none⟩) f.nodes.length c, .int .i64 f.room] 31)) (fun _ i _ => q.list.length - (intOf i).toNat)
    case atStart => exact ⟨0, M0, Nat.zero_le _, rfl, (by first | exact HL2.out | (rw [← hlen]; exact HL2.out)), ⟨fun x hx => hx, fun x hx hn => absurd hx hn, fun i hi h => absurd h (Nat.not_lt_zero _), HP.out, Nat.le_refl _⟩, HB2.out, HK2.out⟩
    case round =>
      obtain ⟨j, M1, hj, rfl, hR1, hI, hBr, hbr⟩ := hrel
      have HI := Lib.hid hI
      have HBr := Lib.hid hBr
      have Hbr := Lib.hid hbr
      have HR1 := Lib.hid hR1
      obtain ⟨o3, c3, rfl, -, -, -, -⟩ := hR1
      have hlen1 := hI.len
      clear hI
      by_cases hlt : j < q.list.length
      · obtain ⟨g2, f2, rfl, q2, x2, y2, _⟩ := HE.out j hlt
        have a1 := (hBr.cell (p := ⟨g2, f2 + j * 2, none⟩) q2).trans x2
        have a2 := (hBr.cell (p := ⟨g2, f2 + j * 2 + 1, none⟩) q2).trans y2
        obtain ⟨l1, l2⟩ := HLQ.out j hlt
        have HKJ : Hid (q.list[j].node ∈ kids f.nodes (m : Int)) := Lib.hid ((HKD.out _).2 ⟨j, hlt, rfl⟩)
        obtain ⟨y, hyy⟩ : ∃ y, y = bs q.list[j].name := ⟨_, rfl⟩
        rw [← hyy] at a1
        obtain ⟨r, hr⟩ : ∃ r, r = q.list[j].node := ⟨_, rfl⟩
        have HRR := Lib.hid hr
        rw [← hr] at a2 l1 l2 HKJ
        have HW3 : Hid (Below w.heap.size w (wr.alloc (.cells #[.string y, .int .i64 r] 93))) := Lib.hid (hBr.alloc hBr.size _)
        have HW4 : Hid (Below wr.heap.size wr (wr.alloc (.cells #[.string y, .int .i64 r] 93))) := Lib.hid ((Below.refl _ _).alloc (Nat.le_refl _) _)
        have hb3 : (wr.alloc (.cells #[.string y, .int .i64 r] 93)).heap[w.heap.size]? = some (.cells #[.slice (some ⟨g, off, none⟩) f.nodes.length c, .int .i64 f.room] 31) := (Below.heap_alloc _ _ _ (lt_of_heap hbr)).trans hbr
        have t0 := (cell_blk hb3 0).trans rfl
        have t1 := (cell_blk hb3 1).trans rfl
        have b0 := (cell_blk hbr 0).trans rfl
        have b1 := (cell_blk hbr 1).trans rfl
        have HB3 := Lib.hid hb3
        have hmax1 := HI.out.nums.len
        clear x2 y2 hyy hr hBr hbr hb3
        go_wp2_with fail
        refine (HIH.out (f.nodes.length - M1.length) (by omega) M1 _ _ _ _ rfl (HR.out.below HW3.out) (HR1.out.below HW4.out) HI.out.nums l1 l2).mono ?_
        rintro e w5 ⟨v5, M2, rfl, hR5, hM5, hb5⟩
        have HR5 := Lib.hid hR5
        have HI5 := Lib.hid (MetI.next HI.out hlt (by rw [← HRR.out]; exact HKJ.out) (by rw [← HRR.out]; exact hM5))
        have HB5 := Lib.hid (HW3.out.trans (hb5.mono HW3.out.size))
        have HK5 := Lib.hid ((hb5.block w.heap.size (lt_of_heap HB3.out)).trans HB3.out)
        obtain ⟨o5, c5, rfl, -, -, -, -⟩ := hR5
        clear hM5 hb5
        go_wp2
        go_roundw
        case rel => exact ⟨j + 1, M2, hlt, by go_num, HR5.out, HI5.out, HB5.out, HK5.out⟩
        case measure => simp [intOf]; omega
      · go_wp2
        go_ret
        refine ⟨_, M1, rfl, HR1.out, ⟨fun x hx => HI.out.sub x ((HM0.out x).2 (.inr hx)), HI.out.sub _ ((HM0.out _).2 (.inl rfl)), fun x hx hn => ?_, HI.out.nums, by omega⟩, HBr.out⟩
        by_cases h3 : x ∈ M0
        · rcases (HM0.out x).1 h3 with rfl | h4
          · refine ⟨.refl, fun cc hcc => ?_⟩
            obtain ⟨i, hi, rfl⟩ := (HKD.out cc).1 hcc
            exact HI.out.done i hi (by omega)
          · exact absurd h4 hn
        · exact HI.out.new x hx h3

/-- Behind the first call: what comes from a. -/
theorem Met.all {ns : List Nod} {a : Int} {M : List Int} (h : Met ns [] a M) (x : Int) : x ∈ M ↔ Reach ns a x := by
  constructor
  · exact fun hx => (h.new x hx (by simp)).1
  · intro hr
    induction hr with
    | refl => exact h.has
    | step _ hk ih => exact (h.new _ ih (by simp)).2 _ hk
end Go.Proofs.Ytknhacblialboaa
