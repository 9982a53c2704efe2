
/-
  Contracts of the program's GoodFs, isUsedNode, isDirNode, BytesIn, FreeNode, LinksOf, ParentOf: the model's answers.
  Conditions: at most 2^20 values and letters together.
-/
import Derived.Test.YtbmbbioanlcioaaInoE
namespace Go.Proofs.Ytbmbbioanlcioaa
open Go.ChangeShapes Go.WideShapes Go.ChangeAt Go.RowKit Go.Joins
set_option linter.unusedVariables false
set_option linter.unusedSimpArgs false

theorem isRoom_is {n : Int} {b : Bool} (h : inB 0 1000 n = b) (w : World) : Calls Try.prog 64 #[.int .i64 n] w fun e w' => e = .returned (.bool b) ∧ w = w' :=
  (isRoom_any n w).mono fun e w' ⟨h1, h2⟩ => ⟨by rw [h1, h], h2⟩
theorem isGoodNode_at {q : Nod} {lv : Value} {g p : Nat} {count : Int} {W w : World} {b : Bool} (h : nodOkI count q = b) (hg : g < W.heap.size) (hc : NodC W g p lv q) (hE : EntsA W lv q.list) (hs : q.list.length ≤ 1048576) (hd : q.data.length ≤ 1048576) (hb : Below W.heap.size W w) : Calls Try.prog 65 #[.pointer (some ⟨g, p, none⟩), .int .i64 count] w fun e w' => e = .returned (.bool b) ∧ Below w.heap.size w w' :=
  (isGoodNode_any q lv g p count w (Nat.lt_of_lt_of_le hg hb.size) (hc.below hb hg) (hE.below hb) hs hd).mono fun e w' ⟨h1, h2⟩ => ⟨by rw [h1, h], h2⟩
theorem areWell_is {ns : List Nod} {v : Value} {w : World} {b : Bool} (h : wellF ns = b) (hR : NodsA w v ns) (hs : szNs ns ≤ 1048576) (hl : ns.length ≤ 1048576) (hpos : 0 < ns.length) (hld : Lead ns) : Calls Try.prog 66 #[v] w fun e w' => e = .returned (.bool b) ∧ Below w.heap.size w w' :=
  (areWellPlaced_any ns v w hR hs hl hpos hld).mono fun e w' ⟨h1, h2⟩ => ⟨by rw [h1, h], h2⟩
theorem bytesOf_b {ns : List Nod} {v : Value} {w : World} (hR : NodsA w v ns) (hs : szNs ns ≤ 1048576) (hl : ns.length ≤ 1048576) : Calls Try.prog 67 #[v] w fun e w' => e = .returned (.int .i64 (sumD ns : Nat)) ∧ Below w.heap.size w w' :=
  (bytesOf_any ns v w hR hs hl).mono fun e w' ⟨h1, h2⟩ => ⟨h1, by rw [← h2]; exact Below.refl _ _⟩
theorem wellP_of {ns : List Nod} (h : wellF ns = true) : WellP ns := by unfold wellF at h; simpa using h
theorem wellP_not {ns : List Nod} (h : wellF ns = false) : ¬ WellP ns := by unfold wellF at h; simpa using h

set_option maxHeartbeats 8000000 in
theorem goodFs_any (f : FsD) (v : Value) (w : World) (hR : FsA w v f) (hs : szF f ≤ 1048576) : Calls Try.prog 52 #[v] w fun e w' => e = .returned (.bool (goodF f)) ∧ Below w.heap.size w w' := by
  obtain ⟨nv, rfl, hN⟩ := hR
  have HN := Lib.hid hN
  obtain ⟨o, c, rfl, hm, hH⟩ := hN
  have HH := Lib.hid hH
  clear hH
  unfold maxLen at hm
  have hl : f.nodes.length ≤ 1048576 := (lists_small hs).1
  have HL : Hid (∀ n ∈ f.nodes, n.list.length ≤ 1048576 ∧ n.data.length ≤ 1048576 ∧ lensE n.list ≤ 1048576) := Lib.hid (lists_small hs).2
  have HSZ : Hid (szNs f.nodes ≤ 1048576) := Lib.hid (by unfold szF at hs; omega)
  have hsum : sumD f.nodes ≤ 1048576 := by have := sumD_le f.nodes; unfold szF at hs; omega
  have hbw : Below w.heap.size w (w.alloc (.cells #[.slice o f.nodes.length c, .int .i64 f.room] 31)) := (Below.refl _ _).alloc (Nat.le_refl _) _
  have hk0 := heap_alloc_new w (.cells #[.slice o f.nodes.length c, .int .i64 f.room] 31)
  have HB1 := Lib.hid hbw
  have HK1 := Lib.hid hk0
  clear hs hbw hk0
  by_cases c2 : inB 0 1000 f.room = true
  · have HC2 := Lib.hid c2
    by_cases a1 : f.nodes.length < 1
    · have HF : Hid (¬ GoodI f) := Lib.hid (fun h => by have := inB_t h.1; omega)
      have a1' : (f.nodes.length : Int) < 1 := by omega
      go_enter Try.func52, Try.ntmps52
      go_wp2_with (go_at_call 64; refine (isRoom_is HC2.out _).mono ?_; rintro e w' ⟨rfl, rfl⟩)
      go_ret
      exact ⟨ret_bool (goodF_not HF.out), HB1.out⟩
    have hpos : 0 < f.nodes.length := by omega
    have a1' : ¬ ((f.nodes.length : Int) < 1) := by omega
    by_cases a2 : 40 < f.nodes.length
    · have HF : Hid (¬ GoodI f) := Lib.hid (fun h => by have := inB_t h.1; omega)
      have a2' : (40 : Int) < (f.nodes.length : Int) := by omega
      go_enter Try.func52, Try.ntmps52
      go_wp2_with (go_at_call 64; refine (isRoom_is HC2.out _).mono ?_; rintro e w' ⟨rfl, rfl⟩)
      go_ret
      exact ⟨ret_bool (goodF_not HF.out), HB1.out⟩
    have a2' : ¬ ((40 : Int) < (f.nodes.length : Int)) := by omega
    have HC1 : Hid (inB 1 40 (f.nodes.length : Int) = true) := Lib.hid (inB_mk (by omega) (by omega)).symm
    go_enter Try.func52, Try.ntmps52
    go_wp2_with (go_at_call 64; refine (isRoom_is HC2.out _).mono ?_; rintro e w' ⟨rfl, rfl⟩)
    go_loopw [23] (fun i wr => ∃ k : Nat, k ≤ f.nodes.length ∧ i = .int .i64 k ∧ Below w.heap.size w wr ∧ wr.heap[w.heap.size]? = some (.cells #[.slice o f.nodes.length c, .int .i64 f.room] 31) ∧ ∀ j (hj : j < f.nodes.length), j < k → nodOkI f.nodes.length f.nodes[j] = true) (fun i _ => f.nodes.length - (intOf i).toNat)
    case atStart => exact ⟨0, Nat.zero_le _, rfl, HB1.out, HK1.out, fun j hj h => absurd h (Nat.not_lt_zero _)⟩
    case round =>
      obtain ⟨k, hk, rfl, hB, hb, hJ⟩ := hrel
      have HJ := Lib.hid hJ
      have HBr := Lib.hid hB
      have HKr := Lib.hid hb
      have b0 := (cell_blk hb 0).trans rfl
      have b1 := (cell_blk hb 1).trans rfl
      have z0 := fun d os => cell_regrown (w := wr) b0 d os
      have z1 := fun d os => cell_regrown (w := wr) b1 d os
      clear hJ hb
      by_cases hlt : k < f.nodes.length
      · obtain ⟨g3, f3, lv, rfl, hg0, hcc, he, hml⟩ := HH.out k hlt
        have hg3 : g3 < wr.heap.size := Nat.lt_of_lt_of_le hg0 hB.size
        have hq2 := HL.out f.nodes[k] (List.getElem_mem hlt)
        obtain ⟨hq3, hq4, -⟩ := hq2
        have HCC := Lib.hid (hcc.below hB hg0)
        have HE0 := Lib.hid (he.below hB)
        clear hcc he hml hB
        go_wp2
        by_cases hno : nodOkI f.nodes.length f.nodes[k] = true
        · have HNO := Lib.hid hno
          have HJ2 : Hid (∀ j (hj : j < f.nodes.length), j < k + 1 → nodOkI f.nodes.length f.nodes[j] = true) := Lib.hid (by
            intro j hj h
            rcases Nat.lt_succ_iff_lt_or_eq.1 h with h1 | rfl
            · exact HJ.out j hj h1
            · exact HNO.out)
          refine wp_region_quiet_below (by kernel_rfl) (by kernel_rfl) ?_
          repeat (first | go_big_quiet_step ((go_at_call 65; exact Calls.regrown_of (isGoodNode_at HNO.out hg3 HCC.out HE0.out hq3 hq4 (below_regrown _ _ _)))) | quiet_step ((go_at_call 65; exact Calls.regrown_of (isGoodNode_at HNO.out hg3 HCC.out HE0.out hq3 hq4 (below_regrown _ _ _)))))
          refine wpQuiet_nil ?_
          intro w5 hwq
          have hb5 : Below wr.heap.size wr w5 := by
            obtain ⟨pp, rfl⟩ := hwq
            exact below_regrown _ _ _
          have HB5 := Lib.hid (HBr.out.trans (hb5.mono HBr.out.size))
          have HK5 := Lib.hid ((hb5.block w.heap.size (lt_of_heap HKr.out)).trans HKr.out)
          clear hwq hb5
          go_wp2
          go_roundw
          case rel => exact ⟨k + 1, hlt, by go_num, HB5.out, HK5.out, HJ2.out⟩
          case measure => simp [intOf]; omega
        · have HNO : Hid (nodOkI f.nodes.length f.nodes[k] = false) := Lib.hid (by simpa using hno)
          have HF : Hid (¬ GoodI f) := Lib.hid (fun h => hno (h.2.2.1 _ (List.getElem_mem hlt)))
          refine wp_region_quiet_below (by kernel_rfl) (by kernel_rfl) ?_
          repeat (first | go_big_quiet_step ((go_at_call 65; exact Calls.regrown_of (isGoodNode_at HNO.out hg3 HCC.out HE0.out hq3 hq4 (below_regrown _ _ _)))) | quiet_step ((go_at_call 65; exact Calls.regrown_of (isGoodNode_at HNO.out hg3 HCC.out HE0.out hq3 hq4 (below_regrown _ _ _)))))
          refine wpQuiet_nil ?_
          intro w5 hwq
          have hb5 : Below wr.heap.size wr w5 := by
            obtain ⟨pp, rfl⟩ := hwq
            exact below_regrown _ _ _
          have HB5 := Lib.hid (HBr.out.trans (hb5.mono HBr.out.size))
          have HK5 := Lib.hid ((hb5.block w.heap.size (lt_of_heap HKr.out)).trans HKr.out)
          clear hwq hb5
          go_wp2
          go_ret
          exact ⟨ret_bool (goodF_not HF.out), HB5.out⟩
      · have HALL : Hid (∀ n ∈ f.nodes, nodOkI f.nodes.length n = true) := Lib.hid (by
          intro n hn
          obtain ⟨j, hj, rfl⟩ := List.getElem_of_mem hn
          exact HJ.out j hj (by omega))
        have HLD := Lib.hid (leadI HALL.out)
        have HN9 := Lib.hid (HN.out.below hB)
        clear hB
        go_wp2
        by_cases hwf : wellF f.nodes = true
        · have HWF := Lib.hid hwf
          by_cases c3 : (sumD f.nodes : Int) ≤ f.room
          · have HF : Hid (GoodI f) := Lib.hid ⟨HC1.out, HC2.out, HALL.out, (wellP_of HWF.out).1, (wellP_of HWF.out).2, c3⟩
            refine wp_region_quiet_below (by kernel_rfl) (by kernel_rfl) ?_
            repeat (first | go_big_quiet_step ((first | (go_at_call 66; exact Calls.regrown_of (areWell_is HWF.out (HN9.out.below (below_regrown _ _ _)) HSZ.out hl hpos HLD.out)) | (go_at_call 67; exact Calls.regrown_of (bytesOf_b (HN9.out.below (below_regrown _ _ _)) HSZ.out hl)))) | quiet_step ((first | (go_at_call 66; exact Calls.regrown_of (areWell_is HWF.out (HN9.out.below (below_regrown _ _ _)) HSZ.out hl hpos HLD.out)) | (go_at_call 67; exact Calls.regrown_of (bytesOf_b (HN9.out.below (below_regrown _ _ _)) HSZ.out hl)))))
            refine wpQuiet_nil ?_
            intro w5 hwq
            have hb5 : Below wr.heap.size wr w5 := by
              obtain ⟨pp, rfl⟩ := hwq
              exact below_regrown _ _ _
            have HB5 := Lib.hid (HBr.out.trans (hb5.mono HBr.out.size))
            have HK5 := Lib.hid ((hb5.block w.heap.size (lt_of_heap HKr.out)).trans HKr.out)
            clear hwq hb5
            go_wp2
            go_ret
            exact ⟨ret_bool (goodF_of HF.out), HB5.out⟩
          · have HF : Hid (¬ GoodI f) := Lib.hid (fun h => c3 h.2.2.2.2.2)
            refine wp_region_quiet_below (by kernel_rfl) (by kernel_rfl) ?_
            repeat (first | go_big_quiet_step ((first | (go_at_call 66; exact Calls.regrown_of (areWell_is HWF.out (HN9.out.below (below_regrown _ _ _)) HSZ.out hl hpos HLD.out)) | (go_at_call 67; exact Calls.regrown_of (bytesOf_b (HN9.out.below (below_regrown _ _ _)) HSZ.out hl)))) | quiet_step ((first | (go_at_call 66; exact Calls.regrown_of (areWell_is HWF.out (HN9.out.below (below_regrown _ _ _)) HSZ.out hl hpos HLD.out)) | (go_at_call 67; exact Calls.regrown_of (bytesOf_b (HN9.out.below (below_regrown _ _ _)) HSZ.out hl)))))
            refine wpQuiet_nil ?_
            intro w5 hwq
            have hb5 : Below wr.heap.size wr w5 := by
              obtain ⟨pp, rfl⟩ := hwq
              exact below_regrown _ _ _
            have HB5 := Lib.hid (HBr.out.trans (hb5.mono HBr.out.size))
            have HK5 := Lib.hid ((hb5.block w.heap.size (lt_of_heap HKr.out)).trans HKr.out)
            clear hwq hb5
            go_wp2
            go_ret
            exact ⟨ret_bool (goodF_not HF.out), HB5.out⟩
        · have HWF : Hid (wellF f.nodes = false) := Lib.hid (by simpa using hwf)
          have HF : Hid (¬ GoodI f) := Lib.hid (fun h => wellP_not HWF.out ⟨h.2.2.2.1, h.2.2.2.2.1⟩)
          refine wp_region_quiet_below (by kernel_rfl) (by kernel_rfl) ?_
          repeat (first | go_big_quiet_step ((first | (go_at_call 66; exact Calls.regrown_of (areWell_is HWF.out (HN9.out.below (below_regrown _ _ _)) HSZ.out hl hpos HLD.out)) | (go_at_call 67; exact Calls.regrown_of (bytesOf_b (HN9.out.below (below_regrown _ _ _)) HSZ.out hl)))) | quiet_step ((first | (go_at_call 66; exact Calls.regrown_of (areWell_is HWF.out (HN9.out.below (below_regrown _ _ _)) HSZ.out hl hpos HLD.out)) | (go_at_call 67; exact Calls.regrown_of (bytesOf_b (HN9.out.below (below_regrown _ _ _)) HSZ.out hl)))))
          refine wpQuiet_nil ?_
          intro w5 hwq
          have hb5 : Below wr.heap.size wr w5 := by
            obtain ⟨pp, rfl⟩ := hwq
            exact below_regrown _ _ _
          have HB5 := Lib.hid (HBr.out.trans (hb5.mono HBr.out.size))
          have HK5 := Lib.hid ((hb5.block w.heap.size (lt_of_heap HKr.out)).trans HKr.out)
          clear hwq hb5
          go_wp2
          go_ret
          exact ⟨ret_bool (goodF_not HF.out), HB5.out⟩
  · have HC2 : Hid (inB 0 1000 f.room = false) := Lib.hid (by simpa using c2)
    have HF : Hid (¬ GoodI f) := Lib.hid (fun h => c2 h.2.1)
    by_cases a1 : (f.nodes.length : Int) < 1
    · go_enter Try.func52, Try.ntmps52
      go_wp2_with (go_at_call 64; refine (isRoom_is HC2.out _).mono ?_; rintro e w' ⟨rfl, rfl⟩)
      go_ret
      exact ⟨ret_bool (goodF_not HF.out), HB1.out⟩
    by_cases a2 : (40 : Int) < (f.nodes.length : Int)
    · go_enter Try.func52, Try.ntmps52
      go_wp2_with (go_at_call 64; refine (isRoom_is HC2.out _).mono ?_; rintro e w' ⟨rfl, rfl⟩)
      go_ret
      exact ⟨ret_bool (goodF_not HF.out), HB1.out⟩
    · go_enter Try.func52, Try.ntmps52
      go_wp2_with (go_at_call 64; refine (isRoom_is HC2.out _).mono ?_; rintro e w' ⟨rfl, rfl⟩)
      go_ret
      exact ⟨ret_bool (goodF_not HF.out), HB1.out⟩
end Go.Proofs.Ytbmbbioanlcioaa
