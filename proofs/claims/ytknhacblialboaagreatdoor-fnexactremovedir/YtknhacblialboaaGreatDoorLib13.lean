/-
  Joined: InoF InoG SrcC SrcD.
  Conditions: as each states.
-/
import Derived.Test.YtknhacblialboaaGreatDoorLib12
namespace Go.Proofs.YtknhacblialboaaGreatDoor
open Go.ChangeShapes Go.WideShapes Go.ChangeAt Go.RowKit Go.Joins
set_option linter.unusedVariables false
set_option linter.unusedSimpArgs false
set_option maxHeartbeats 16000000
theorem isRoom_is {n : Int} {b : Bool} (h : inB 0 1000 n = b) (w : World) : Calls Tryz.prog 132 #[.int .i64 n] w fun e w' => e = .returned (.bool b) ∧ w = w' :=
 (isRoom_any n w).mono fun e w' ⟨h1, h2⟩ => ⟨by rw [h1, h], h2⟩
theorem isGoodNode_at {q : Nod} {lv : Value} {g p : Nat} {count : Int} {W w : World} {b : Bool} (h : bP9 count q = b) (hg : g < W.heap.size) (hc : NodC W g p lv q) (hE : EntsA W lv q.list) (hs : q.list.length ≤ 1048576) (hd : q.data.length ≤ 1048576) (hb : Below W.heap.size W w) : Calls Tryz.prog 108 #[.pointer (some ⟨g, p, none⟩), .int .i64 count] w fun e w' => e = .returned (.bool b) ∧ Below w.heap.size w w' :=
 (isGoodNode_any q lv g p count w (Nat.lt_of_lt_of_le hg hb.size) (hc.below hb hg) (hE.below hb) hs hd).mono fun e w' ⟨h1, h2⟩ => ⟨by rw [h1, h], h2⟩
theorem areWell_is {ns : List Nod} {v : Value} {w : World} {b : Bool} (h : wellF ns = b) (hR : NodsA w v ns) (hs : szNs ns ≤ 1048576) (hl : ns.length ≤ 1048576) (hpos : 0 < ns.length) (hld : Lead ns) : Calls Tryz.prog 133 #[v] w fun e w' => e = .returned (.bool b) ∧ Below w.heap.size w w' :=
 (areWellPlaced_any ns v w hR hs hl hpos hld).mono fun e w' ⟨h1, h2⟩ => ⟨by rw [h1, h], h2⟩
theorem bytesOf_b {ns : List Nod} {v : Value} {w : World} (hR : NodsA w v ns) (hs : szNs ns ≤ 1048576) (hl : ns.length ≤ 1048576) : Calls Tryz.prog 134 #[v] w fun e w' => e = .returned (.int .i64 (sumD ns : Nat)) ∧ Below w.heap.size w w' :=
 (bytesOf_any ns v w hR hs hl).mono fun e w' ⟨h1, h2⟩ => ⟨h1, by rw [← h2]; exact Below.refl _ _⟩
theorem wellP_of {ns : List Nod} (h : wellF ns = true) : WellP ns := by unfold wellF at h; simpa using h
theorem wellP_not {ns : List Nod} (h : wellF ns = false) : ¬ WellP ns := by unfold wellF at h; simpa using h
theorem goodFs_any (f : FsD) (v : Value) (w : World) (hR : FsA w v f) (hs : szF f ≤ 1048576) : Calls Tryz.prog 96 #[v] w fun e w' => e = .returned (.bool (goodF f)) ∧ Below w.heap.size w w' := by
 obtain ⟨nv, rfl, hN⟩ := hR
 have HN := qhZ hN
 obtain ⟨o, c, rfl, hm, hH⟩ := hN
 have HH := qhZ hH
 clear hH
 unfold maxLen at hm
 have hl : f.nodes.length ≤ 1048576 := (aG9 hs).1
 have HL : Hid (∀ n ∈ f.nodes, n.list.length ≤ 1048576 ∧ n.data.length ≤ 1048576 ∧ lensE n.list ≤ 1048576) := qhZ (aG9 hs).2
 have HSZ : Hid (szNs f.nodes ≤ 1048576) := qhZ (by unfold szF at hs; omega)
 have hsum : sumD f.nodes ≤ 1048576 := by have := sumD_le f.nodes; unfold szF at hs; omega
 have hbw : Below w.heap.size w (w.alloc (.cells #[.slice o f.nodes.length c, .int .i64 f.room] 30)) := (Below.refl _ _).alloc (Nat.le_refl _) _
 have hk0 := heap_alloc_new w (.cells #[.slice o f.nodes.length c, .int .i64 f.room] 30)
 have HB1 := qhZ hbw
 have HK1 := qhZ hk0
 clear hs hbw hk0
 by_cases c2 : inB 0 1000 f.room = true
 · have HC2 := qhZ c2
   by_cases a1 : f.nodes.length < 1
   · have HF : Hid (¬ GoodI f) := qhZ (fun h => by have := inB_t h.1; omega)
     have a1' : (f.nodes.length : Int) < 1 := by omega
     go_enter Tryz.func96, Tryz.ntmps96
     go_wp2_with (go_at_call 132; refine (isRoom_is HC2.out _).mono ?_; rintro e w' ⟨rfl, rfl⟩)
     go_ret
     exact ⟨aK9 (goodF_not HF.out), HB1.out⟩
   have hpos : 0 < f.nodes.length := by omega
   have a1' : ¬ ((f.nodes.length : Int) < 1) := by omega
   by_cases a2 : 40 < f.nodes.length
   · have HF : Hid (¬ GoodI f) := qhZ (fun h => by have := inB_t h.1; omega)
     have a2' : (40 : Int) < (f.nodes.length : Int) := by omega
     go_enter Tryz.func96, Tryz.ntmps96
     go_wp2_with (go_at_call 132; refine (isRoom_is HC2.out _).mono ?_; rintro e w' ⟨rfl, rfl⟩)
     go_ret
     exact ⟨aK9 (goodF_not HF.out), HB1.out⟩
   have a2' : ¬ ((40 : Int) < (f.nodes.length : Int)) := by omega
   have HC1 : Hid (inB 1 40 (f.nodes.length : Int) = true) := qhZ (inB_mk (by omega) (by omega)).symm
   go_enter Tryz.func96, Tryz.ntmps96
   go_wp2_with (go_at_call 132; refine (isRoom_is HC2.out _).mono ?_; rintro e w' ⟨rfl, rfl⟩)
   go_loopw [23] (fun i wr => ∃ k : Nat, k ≤ f.nodes.length ∧ i = .int .i64 k ∧ Below w.heap.size w wr ∧ wr.heap[w.heap.size]? = some (.cells #[.slice o f.nodes.length c, .int .i64 f.room] 30) ∧ ∀ j (hj : j < f.nodes.length), j < k → bP9 f.nodes.length f.nodes[j] = true) (fun i _ => f.nodes.length - (intOf i).toNat)
   case atStart => exact ⟨0, Nat.zero_le _, rfl, HB1.out, HK1.out, fun j hj h => absurd h (Nat.not_lt_zero _)⟩
   case round =>
     obtain ⟨k, hk, rfl, hB, hb, hJ⟩ := hrel
     have HJ := qhZ hJ
     have HBr := qhZ hB
     have HKr := qhZ hb
     have b0 := (aA9 hb 0).trans rfl
     have b1 := (aA9 hb 1).trans rfl
     have z0 := fun d os => cell_regrown (w := wr) b0 d os
     have z1 := fun d os => cell_regrown (w := wr) b1 d os
     clear hJ hb
     by_cases hlt : k < f.nodes.length
     · obtain ⟨g3, f3, lv, rfl, hg0, hcc, he, hml⟩ := HH.out k hlt
       have hg3 : g3 < wr.heap.size := Nat.lt_of_lt_of_le hg0 hB.size
       have hq2 := HL.out f.nodes[k] (List.getElem_mem hlt)
       obtain ⟨hq3, hq4, -⟩ := hq2
       have HCC := qhZ (hcc.below hB hg0)
       have HE0 := qhZ (he.below hB)
       clear hcc he hml hB
       go_wp2
       by_cases hno : bP9 f.nodes.length f.nodes[k] = true
       · have HNO := qhZ hno
         have HJ2 : Hid (∀ j (hj : j < f.nodes.length), j < k + 1 → bP9 f.nodes.length f.nodes[j] = true) := qhZ (by
           intro j hj h
           rcases Nat.lt_succ_iff_lt_or_eq.1 h with h1 | rfl
           · exact HJ.out j hj h1
           · exact HNO.out)
         refine wp_region_quiet_below (by kernel_rfl) (by kernel_rfl) ?_
         repeat (first | go_big_quiet_step ((go_at_call 108; exact Calls.regrown_of (isGoodNode_at HNO.out hg3 HCC.out HE0.out hq3 hq4 (below_regrown _ _ _)))) | quiet_step ((go_at_call 108; exact Calls.regrown_of (isGoodNode_at HNO.out hg3 HCC.out HE0.out hq3 hq4 (below_regrown _ _ _)))))
         refine wpQuiet_nil ?_
         intro w5 hwq
         have hb5 : Below wr.heap.size wr w5 := by
           obtain ⟨pp, rfl⟩ := hwq
           exact below_regrown _ _ _
         have HB5 := qhZ (HBr.out.trans (hb5.mono HBr.out.size))
         have HK5 := qhZ ((hb5.block w.heap.size (aB9 HKr.out)).trans HKr.out)
         clear hwq hb5
         go_wp2
         go_roundw
         case rel => exact ⟨k + 1, hlt, by go_num, HB5.out, HK5.out, HJ2.out⟩
         case measure => simp [intOf]; omega
       · have HNO : Hid (bP9 f.nodes.length f.nodes[k] = false) := qhZ (by simpa using hno)
         have HF : Hid (¬ GoodI f) := qhZ (fun h => hno (h.2.2.1 _ (List.getElem_mem hlt)))
         refine wp_region_quiet_below (by kernel_rfl) (by kernel_rfl) ?_
         repeat (first | go_big_quiet_step ((go_at_call 108; exact Calls.regrown_of (isGoodNode_at HNO.out hg3 HCC.out HE0.out hq3 hq4 (below_regrown _ _ _)))) | quiet_step ((go_at_call 108; exact Calls.regrown_of (isGoodNode_at HNO.out hg3 HCC.out HE0.out hq3 hq4 (below_regrown _ _ _)))))
         refine wpQuiet_nil ?_
         intro w5 hwq
         have hb5 : Below wr.heap.size wr w5 := by
           obtain ⟨pp, rfl⟩ := hwq
           exact below_regrown _ _ _
         have HB5 := qhZ (HBr.out.trans (hb5.mono HBr.out.size))
         have HK5 := qhZ ((hb5.block w.heap.size (aB9 HKr.out)).trans HKr.out)
         clear hwq hb5
         go_wp2
         go_ret
         exact ⟨aK9 (goodF_not HF.out), HB5.out⟩
     · have HALL : Hid (∀ n ∈ f.nodes, bP9 f.nodes.length n = true) := qhZ (by
         intro n hn
         obtain ⟨j, hj, rfl⟩ := List.getElem_of_mem hn
         exact HJ.out j hj (by omega))
       have HLD := qhZ (leadI HALL.out)
       have HN9 := qhZ (HN.out.below hB)
       clear hB
       go_wp2
       by_cases hwf : wellF f.nodes = true
       · have HWF := qhZ hwf
         by_cases c3 : (sumD f.nodes : Int) ≤ f.room
         · have HF : Hid (GoodI f) := qhZ ⟨HC1.out, HC2.out, HALL.out, (wellP_of HWF.out).1, (wellP_of HWF.out).2, c3⟩
           refine wp_region_quiet_below (by kernel_rfl) (by kernel_rfl) ?_
           repeat (first | go_big_quiet_step ((first | (go_at_call 133; exact Calls.regrown_of (areWell_is HWF.out (HN9.out.below (below_regrown _ _ _)) HSZ.out hl hpos HLD.out)) | (go_at_call 134; exact Calls.regrown_of (bytesOf_b (HN9.out.below (below_regrown _ _ _)) HSZ.out hl)))) | quiet_step ((first | (go_at_call 133; exact Calls.regrown_of (areWell_is HWF.out (HN9.out.below (below_regrown _ _ _)) HSZ.out hl hpos HLD.out)) | (go_at_call 134; exact Calls.regrown_of (bytesOf_b (HN9.out.below (below_regrown _ _ _)) HSZ.out hl)))))
           refine wpQuiet_nil ?_
           intro w5 hwq
           have hb5 : Below wr.heap.size wr w5 := by
             obtain ⟨pp, rfl⟩ := hwq
             exact below_regrown _ _ _
           have HB5 := qhZ (HBr.out.trans (hb5.mono HBr.out.size))
           have HK5 := qhZ ((hb5.block w.heap.size (aB9 HKr.out)).trans HKr.out)
           clear hwq hb5
           go_wp2
           go_ret
           exact ⟨aK9 (goodF_of HF.out), HB5.out⟩
         · have HF : Hid (¬ GoodI f) := qhZ (fun h => c3 h.2.2.2.2.2)
           refine wp_region_quiet_below (by kernel_rfl) (by kernel_rfl) ?_
           repeat (first | go_big_quiet_step ((first | (go_at_call 133; exact Calls.regrown_of (areWell_is HWF.out (HN9.out.below (below_regrown _ _ _)) HSZ.out hl hpos HLD.out)) | (go_at_call 134; exact Calls.regrown_of (bytesOf_b (HN9.out.below (below_regrown _ _ _)) HSZ.out hl)))) | quiet_step ((first | (go_at_call 133; exact Calls.regrown_of (areWell_is HWF.out (HN9.out.below (below_regrown _ _ _)) HSZ.out hl hpos HLD.out)) | (go_at_call 134; exact Calls.regrown_of (bytesOf_b (HN9.out.below (below_regrown _ _ _)) HSZ.out hl)))))
           refine wpQuiet_nil ?_
           intro w5 hwq
           have hb5 : Below wr.heap.size wr w5 := by
             obtain ⟨pp, rfl⟩ := hwq
             exact below_regrown _ _ _
           have HB5 := qhZ (HBr.out.trans (hb5.mono HBr.out.size))
           have HK5 := qhZ ((hb5.block w.heap.size (aB9 HKr.out)).trans HKr.out)
           clear hwq hb5
           go_wp2
           go_ret
           exact ⟨aK9 (goodF_not HF.out), HB5.out⟩
       · have HWF : Hid (wellF f.nodes = false) := qhZ (by simpa using hwf)
         have HF : Hid (¬ GoodI f) := qhZ (fun h => wellP_not HWF.out ⟨h.2.2.2.1, h.2.2.2.2.1⟩)
         refine wp_region_quiet_below (by kernel_rfl) (by kernel_rfl) ?_
         repeat (first | go_big_quiet_step ((first | (go_at_call 133; exact Calls.regrown_of (areWell_is HWF.out (HN9.out.below (below_regrown _ _ _)) HSZ.out hl hpos HLD.out)) | (go_at_call 134; exact Calls.regrown_of (bytesOf_b (HN9.out.below (below_regrown _ _ _)) HSZ.out hl)))) | quiet_step ((first | (go_at_call 133; exact Calls.regrown_of (areWell_is HWF.out (HN9.out.below (below_regrown _ _ _)) HSZ.out hl hpos HLD.out)) | (go_at_call 134; exact Calls.regrown_of (bytesOf_b (HN9.out.below (below_regrown _ _ _)) HSZ.out hl)))))
         refine wpQuiet_nil ?_
         intro w5 hwq
         have hb5 : Below wr.heap.size wr w5 := by
           obtain ⟨pp, rfl⟩ := hwq
           exact below_regrown _ _ _
         have HB5 := qhZ (HBr.out.trans (hb5.mono HBr.out.size))
         have HK5 := qhZ ((hb5.block w.heap.size (aB9 HKr.out)).trans HKr.out)
         clear hwq hb5
         go_wp2
         go_ret
         exact ⟨aK9 (goodF_not HF.out), HB5.out⟩
 · have HC2 : Hid (inB 0 1000 f.room = false) := qhZ (by simpa using c2)
   have HF : Hid (¬ GoodI f) := qhZ (fun h => c2 h.2.1)
   by_cases a1 : (f.nodes.length : Int) < 1
   · go_enter Tryz.func96, Tryz.ntmps96
     go_wp2_with (go_at_call 132; refine (isRoom_is HC2.out _).mono ?_; rintro e w' ⟨rfl, rfl⟩)
     go_ret
     exact ⟨aK9 (goodF_not HF.out), HB1.out⟩
   by_cases a2 : (40 : Int) < (f.nodes.length : Int)
   · go_enter Tryz.func96, Tryz.ntmps96
     go_wp2_with (go_at_call 132; refine (isRoom_is HC2.out _).mono ?_; rintro e w' ⟨rfl, rfl⟩)
     go_ret
     exact ⟨aK9 (goodF_not HF.out), HB1.out⟩
   · go_enter Tryz.func96, Tryz.ntmps96
     go_wp2_with (go_at_call 132; refine (isRoom_is HC2.out _).mono ?_; rintro e w' ⟨rfl, rfl⟩)
     go_ret
     exact ⟨aK9 (goodF_not HF.out), HB1.out⟩
theorem goodF_GoodF {f : FsD} (h : goodF f = true) : GoodF f := by unfold goodF at h; simpa using h
theorem good_pos {f : FsD} (h : goodF f = true) : 0 < f.nodes.length := by have := inB_t (goodF_GoodF h).1; omega
theorem free_vals {f : FsD} (hg : goodF f = true) {k : Int} (h : bE9 f.nodes = k) : (0 ≤ k → freeF f = k ∧ freeK f = true) ∧ (k < 0 → freeF f = 0 ∧ freeK f = false) := by
 refine ⟨fun h0 => ⟨by unfold freeF; rw [hg, h]; simp; omega, by unfold freeK; rw [hg, h]; simp; omega⟩, fun h0 => ⟨by unfold freeF; rw [hg, h]; simp; omega, by unfold freeK; rw [hg, h]; simp; omega⟩⟩
noncomputable def freeV (ns : List Nod) : Int := if 0 ≤ bE9 ns then bE9 ns else 0
noncomputable def freeB (ns : List Nod) : Bool := decide (0 ≤ bE9 ns)
theorem free_own {ns : List Nod} {k : Int} (h : bE9 ns = k) : (0 ≤ k → freeV ns = k ∧ freeB ns = true) ∧ (k < 0 → freeV ns = 0 ∧ freeB ns = false) := by
 refine ⟨fun h0 => ⟨by unfold freeV; rw [h]; simp; omega, by unfold freeB; rw [h]; simp; omega⟩, fun h0 => ⟨by unfold freeV; rw [h]; simp; omega, by unfold freeB; rw [h]; simp; omega⟩⟩
theorem free_f {f : FsD} (hg : goodF f = true) : freeF f = freeV f.nodes ∧ freeK f = freeB f.nodes := by
 refine ⟨?_, by unfold freeK freeB; rw [hg]; rfl⟩
 unfold freeF freeV; simp [hg]
theorem freeNodeIn_any {ns : List Nod} {v : Value} {w : World} (hN : NodsA w v ns) (hl : ns.length ≤ 1048576) : Calls Tryz.prog 145 #[v] w fun e w' => e = .returned (.tuple #[.int .i64 (freeV ns), .bool (freeB ns)]) ∧ Below w.heap.size w w' := by
 obtain ⟨o, c, rfl, hm, hH⟩ := hN
 have HH := qhZ hH
 clear hm hH
 go_enter Tryz.func145, Tryz.ntmps145
 go_wp2
 go_loop [7] (fun i => ∃ k : Nat, k ≤ ns.length ∧ i = .int .i64 k ∧ ∀ j (hj : j < ns.length), j < k → (ns[j].kind == 0) = false) (fun i => ns.length - (intOf i).toNat)
 case atStart => exact ⟨0, Nat.zero_le _, rfl, fun j hj h => absurd h (Nat.not_lt_zero _)⟩
 case round =>
   obtain ⟨k, hk, rfl, hJ⟩ := hrel
   have HJ := qhZ hJ
   clear hJ
   by_cases hlt : k < ns.length
   · obtain ⟨g, off, lv, rfl, hgg, hc, he, hml⟩ := HH.out k hlt
     have d0 := hc.c0
     obtain ⟨kd, hkd⟩ : ∃ kd, kd = ns[k].kind := ⟨_, rfl⟩
     have HQ := qhZ hkd
     rw [← hkd] at d0
     clear hc he hml hkd
     by_cases hz : kd = 0
     · have HFA : Hid (bE9 ns = k) := qhZ (by
         unfold bE9
         rw [findIdx_is hlt (by rw [← HQ.out, hz]; rfl) HJ.out])
       have HV := qhZ ((free_own HFA.out).1 (by omega))
       subst hz
       go_wp2
       go_ret2
       exact ⟨tupIB HV.out.1.symm HV.out.2.symm, Below.refl _ _⟩
     · have zb : (kd == 0) = false := beq_eq_false_iff_ne.2 hz
       have HJ2 : Hid (∀ j (hj : j < ns.length), j < k + 1 → (ns[j].kind == 0) = false) := qhZ (by
         intro j hj h
         rcases Nat.lt_succ_iff_lt_or_eq.1 h with h1 | rfl
         · exact HJ.out j hj h1
         · rw [← HQ.out]; exact zb)
       go_wp2
       go_round
       case rel => exact ⟨k + 1, hlt, by go_num, HJ2.out⟩
       case measure => simp [intOf]; omega
   · have HNI : Hid (ns.findIdx? (fun n => n.kind == 0) = none) := qhZ (findIdx_not (fun j hj => HJ.out j hj (by omega)))
     by_cases h40 : ns.length = 40
     · have HFA : Hid (bE9 ns = -1) := qhZ (by unfold bE9; rw [HNI.out]; simp [h40])
       have HV := qhZ ((free_own HFA.out).2 (by omega))
       have h41 : (ns.length : Int) = 40 := by omega
       go_wp2
       go_ret2
       exact ⟨tupIB HV.out.1.symm HV.out.2.symm, Below.refl _ _⟩
     · have HFA : Hid (bE9 ns = ns.length) := qhZ (by unfold bE9; rw [HNI.out]; simp [h40])
       have HV := qhZ ((free_own HFA.out).1 (by omega))
       have h41 : ((ns.length : Int) == 40) = false := by rw [beq_eq_false_iff_ne]; omega
       go_wp2
       go_ret2
       exact ⟨tupIB HV.out.1.symm HV.out.2.symm, Below.refl _ _⟩
theorem freeNode_any (f : FsD) (v : Value) (w : World) (hR : FsA w v f) (hs : szF f ≤ 1048576) : Calls Tryz.prog 109 #[v] w fun e w' => e = .returned (.tuple #[.int .i64 (freeF f), .bool (freeK f)]) ∧ Below w.heap.size w w' := by
 have HR := qhZ hR
 obtain ⟨nv, rfl, hN⟩ := hR
 have HN := qhZ hN
 obtain ⟨o, c, rfl, hm, hH⟩ := hN
 have HH := qhZ hH
 unfold maxLen at hm
 have hl : f.nodes.length ≤ 1048576 := (aG9 hs).1
 have HS := qhZ hs
 have HSZ : Hid (szNs f.nodes ≤ 1048576) := qhZ (by unfold szF at hs; omega)
 have hb0 : Below w.heap.size w (w.alloc (.cells #[.slice o f.nodes.length c, .int .i64 f.room] 30)) := (Below.refl _ _).alloc (Nat.le_refl _) _
 have hk0 := heap_alloc_new w (.cells #[.slice o f.nodes.length c, .int .i64 f.room] 30)
 have HB0 := qhZ hb0
 have HK0 := qhZ hk0
 clear hb0 hk0 hs hH
 by_cases hg : goodF f = true
 · have HG := qhZ hg
   have HV := qhZ (free_f hg)
   go_enter Tryz.func109, Tryz.ntmps109
   go_wp2_with fail
   refine (goodFs_any f _ _ (HR.out.below HB0.out) HS.out).mono ?_
   rintro e w1 ⟨rfl, hb1⟩
   rw [HG.out]
   have HB1 := qhZ (HB0.out.trans (hb1.mono HB0.out.size))
   have HK1 := qhZ ((hb1.block w.heap.size (aB9 HK0.out)).trans HK0.out)
   have x1c0 := (aA9 HK1.out 0).trans rfl
   have x1c1 := (aA9 HK1.out 1).trans rfl
   clear hb1
   go_wp2_with fail
   refine (freeNodeIn_any (HN.out.below HB1.out) hl).mono ?_
   rintro e w2 ⟨rfl, hb2⟩
   have HB2 := qhZ (HB1.out.trans (hb2.mono HB1.out.size))
   have HK2 := qhZ ((hb2.block w.heap.size (aB9 HK1.out)).trans HK1.out)
   have x2c0 := (aA9 HK2.out 0).trans rfl
   have x2c1 := (aA9 HK2.out 1).trans rfl
   clear hb2
   go_wp2
   go_ret2
   exact ⟨tupIB HV.out.1.symm HV.out.2.symm, HB2.out⟩
 · have HG : Hid (goodF f = false) := qhZ (by simpa using hg)
   have HV : Hid (freeF f = 0) := qhZ (by unfold freeF; rw [HG.out]; simp)
   have HW : Hid (freeK f = false) := qhZ (by unfold freeK; rw [HG.out]; rfl)
   go_enter Tryz.func109, Tryz.ntmps109
   go_wp2_with fail
   refine (goodFs_any f _ _ (HR.out.below HB0.out) HS.out).mono ?_
   rintro e w1 ⟨rfl, hb1⟩
   rw [HG.out]
   have HB1 := qhZ (HB0.out.trans (hb1.mono HB0.out.size))
   have HK1 := qhZ ((hb1.block w.heap.size (aB9 HK0.out)).trans HK0.out)
   have x1c0 := (aA9 HK1.out 0).trans rfl
   have x1c1 := (aA9 HK1.out 1).trans rfl
   clear hb1
   go_wp2
   go_ret2
   exact ⟨tupIB HV.out.symm HW.out.symm, HB1.out⟩
theorem place_parent {f : FsD} {m : Nat} (h : goodF f = true) (hm : m < f.nodes.length) (hk : kindAt f.nodes m = 2) : (bH9 f.nodes m).dir = parentOf m f.nodes := by
 have hG := (goodF_GoodF h).2.2.2.2.2 m hm
 rcases Nat.eq_zero_or_pos m with rfl | hp
 · have h0 : links (0 : Int) f.nodes = 0 := hG.1 rfl
   have h1 : bH9 f.nodes ((0 : Nat) : Int) = pl0 := pl_none h0
   rw [h1]
   unfold parentOf
   rw [findIdx_not (p := fun n : Nod => hasE ((0 : Nat) : Int) n.list) (fun j hj => by
     cases hh : hasE ((0 : Nat) : Int) f.nodes[j].list with
     | false => rfl
     | true => have h2 : 0 < links (0 : Int) f.nodes := links_pos hj (hasE_iff.1 hh)
               omega)]
   rfl
 · have h1 : links m f.nodes = 1 := hG.2.1 hp hk
   obtain ⟨d, hd, e1, e2, -⟩ := pl_some (ns := f.nodes) (i := m) (by omega)
   rw [e1, parent_is h1 hd e2]
theorem good_nods {f : FsD} (h : goodF f = true) : ∀ n ∈ f.nodes, bP9 f.nodes.length n = true := fun n hn => (nodOk_iff.1 ((goodF_G h).2.2.2.2.1 n hn)).1
theorem good_rise {f : FsD} (h : goodF f = true) (i : Nat) : Rise (aC9 f.nodes i).list := rise_node (good_nods h) i
theorem good_ask {f : FsD} (h : goodF f = true) {u g want : Int} (hc : credB u g = true) (hw : inB 0 7 want = true) {i : Nat} (hi : i < f.nodes.length) (hk : (aC9 f.nodes i).kind = 2) : askB u g (aC9 f.nodes i).mode (aC9 f.nodes i).uid (aC9 f.nodes i).gid want = true := by
 have h1 := node_ok (good_nods h) hi
 unfold bP9 at h1
 rw [if_neg (by omega)] at h1
 simp only [Bool.and_eq_true] at h1
 unfold askB
 rw [hc, h1.1, h1.2.1, h1.2.2.1, hw]; rfl
theorem nodeByName_is {q : Nod} {G b : Nat} {lv : Value} {p : ByteArray} {w : World} {nb : Int} {ib : Bool} (h1 : nbN q.list p.data.toList = nb) (h2 : isE q.list p.data.toList = ib) (hg : G < w.heap.size) (hc : NodC w G b lv q) (hE : EntsA w lv q.list) (hs : q.list.length ≤ 1048576) (hr : Rise q.list) :
   Calls Tryz.prog 128 #[.pointer (some ⟨G, b, none⟩), .string p] w fun e w' => e = .returned (.tuple #[.int .i64 nb, .bool ib]) ∧ Below w.heap.size w w' := by
 rw [← h1, ← h2]; exact nodeByName_any q G b lv p w hg hc hE hs hr
theorem bA9 {q : Nod} {G p : Nat} {lv : Value} {u g want : Int} {w : World} {v : Value} (hv : errC (dirC q u g want) = v) (hg : G < w.heap.size) (hc : NodC w G p lv q) (h : q.kind = 2 → askB u g q.mode q.uid q.gid want = true) :
   Calls Tryz.prog 120 #[.pointer (some ⟨G, p, none⟩), .agg #[.int .i64 u, .int .i64 g], .int .i64 want] w fun e w' => e = .returned v ∧ Below w.heap.size w w' := by
 rw [← hv]; exact checkDir_any q G p lv u g want w hg hc h
def enterR (ns : List Nod) (fol : Bool) (node : Nat) (p : List UInt8) (r : List (List UInt8)) (hops : Nat) : Int × Lk :=
 if atE (aC9 ns node).list p < 0 then (2, ⟨0, [], 0⟩)
 else if (aC9 ns (atE (aC9 ns node).list p).toNat).kind ≠ 3 ∨ (r = [] ∧ fol = false) then (0, ⟨(atE (aC9 ns node).list p).toNat, r, hops⟩)
 else hopR node (aC9 ns (atE (aC9 ns node).list p).toNat).data r hops
theorem lkStep_is (ns : List Nod) (u g : Int) (fol : Bool) (node : Nat) (p : List UInt8) (r : List (List UInt8)) (hops : Nat) : lkStep ns u g fol node p r hops =
   if dirC (aC9 ns node) u g 1 ≠ 0 then (dirC (aC9 ns node) u g 1, ⟨0, [], 0⟩)
   else if p = [46] then (0, ⟨node, r, hops⟩)
   else if p = [46, 46] then (0, ⟨parentOf (node : Int) ns, r, hops⟩)
   else enterR ns fol node p r hops := by
 unfold lkStep dirC enterR hopR
 by_cases h1 : (aC9 ns node).kind ≠ 2
 · rw [if_pos h1, if_pos h1, if_pos (by decide)]
 · rw [if_neg h1, if_neg h1]
   by_cases h2 : mayB u g (aC9 ns node).mode (aC9 ns node).uid (aC9 ns node).gid 1 = false
   · rw [if_pos h2, if_pos h2, if_pos (by decide)]
   · rw [if_neg h2, if_neg h2, if_neg (show ¬ (0 : Int) ≠ 0 by decide)]
set_option maxRecDepth 100000 in
theorem enter_any (f : FsD) (o : Option Addr) (c G k : Nat) (u g : Int) (fol : Bool) (b node hops : Nat) (p : List UInt8) (r : List (List UInt8)) (w0 w : World) (hgood : goodF f = true) (hcred : credB u g = true) (hsz : szF f ≤ 1048576) (hN0 : NodsA w0 (.slice o f.nodes.length c) f.nodes) (hB0 : Below w0.heap.size w0 w) (hb0 : w0.heap.size ≤ b) (hS : SkAt w b o f.nodes.length c G k u g fol ⟨node, r, hops⟩) (hn : node < f.nodes.length) (hh : hops ≤ 8) (hrl : r.length ≤ 1000) :
   Calls Tryz.prog 174 #[.pointer (some ⟨b, 0, none⟩), .string (bs p)] w fun e w' => e = .returned (errC (enterR f.nodes fol node p r hops).1) ∧ OnlyG w w' b ∧ Below b w w' ∧ ((enterR f.nodes fol node p r hops).1 = 0 → SkAt w' b o f.nodes.length c G k u g fol (enterR f.nodes fol node p r hops).2) := by
 have hl : f.nodes.length ≤ 1048576 := (aG9 hsz).1
 have hn : node < f.nodes.length := hn
 have hN := hN0.below hB0
 obtain ⟨pv, hb, hR, hoff⟩ := hS
 simp only at hb hR
 obtain ⟨po, pc, rfl, hp1, hp2, hp3⟩ := id hR
 obtain ⟨o', c', e1, hmm, hH⟩ := id hN
 simp only [Value.slice.injEq, true_and] at e1
 obtain ⟨rfl, rfl⟩ := e1
 unfold maxLen at hmm
 obtain ⟨gg, off, lv, rfl, hg, hcc, he, -⟩ := hH node hn
 have hqe : f.nodes[node] = aC9 f.nodes node := (aR9 hn).symm
 have hql : (aC9 f.nodes node).list.length ≤ 1048576 := by rw [← hqe]; exact ((aG9 hsz).2 _ (List.getElem_mem hn)).1
 rw [hqe] at hcc he
 have HC := qhZ hcc
 have HE := qhZ he
 have HRS := qhZ (good_rise hgood node)
 have HH := qhZ hH
 have HK := qhZ hb
 have HRD := qhZ hR
 have HOF := qhZ hoff
 have hbs := aB9 hb
 have c0 : w.cell? ⟨b, 0, none⟩ = some (.slice (some ⟨gg, off, none⟩) f.nodes.length c) := aA9 hb 0
 have c2 : w.cell? ⟨b, 2, none⟩ = some (.int .i64 u) := aA9 hb 2
 have c3 : w.cell? ⟨b, 3, none⟩ = some (.int .i64 g) := aA9 hb 3
 have c5 : w.cell? ⟨b, 5, none⟩ = some (.int .i64 (node : Int)) := aA9 hb 5
 have z0 := fun d os => cell_regrown (w := w) c0 d os
 have z2 := fun d os => cell_regrown (w := w) c2 d os
 have z3 := fun d os => cell_regrown (w := w) c3 d os
 have z5 := fun d os => cell_regrown (w := w) c5 d os
 have HAT := qhZ (atE_is (good_rise hgood node) p)
 have HPL : Hid ((bs p).data.toList = p) := qhZ (aY9 p)
 have HLN := qhZ (look_of hgood hsz)
 by_cases hi : isE (aC9 f.nodes node).list p = true
 case neg =>
   have hat : atE (aC9 f.nodes node).list p = -1 := by rw [HAT.out, if_neg hi]
   have HX : Hid (enterR f.nodes fol node p r hops = (2, ⟨0, [], 0⟩)) := qhZ (by unfold enterR; rw [hat, if_pos (by decide)])
   have HIS : Hid (isE (aC9 f.nodes node).list (bs p).data.toList = false) := qhZ (by rw [HPL.out]; simpa using hi)
   have HNB : Hid (nbN (aC9 f.nodes node).list (bs p).data.toList = 0) := qhZ (by rw [HPL.out]; unfold nbN; rw [if_neg hi])
   rw [HX.out]
   obtain ⟨q, hq⟩ : ∃ q, q = aC9 f.nodes node := ⟨_, rfl⟩
   rw [← hq] at HC HE HRS hql HIS HNB
   obtain ⟨x, hx⟩ : ∃ x, x = bs p := ⟨_, rfl⟩
   rw [← hx] at HIS HNB ⊢
   clear hN hb hR hoff hH hcc he hqe hi hat hx hq
   go_enter Tryz.func174, Tryz.ntmps174
   go_wp2
   refine wp_region_quiet_below (by kernel_rfl) (by kernel_rfl) ?_
   repeat (first | go_big_quiet_step ((go_at_call 128; exact Calls.regrown_of (nodeByName_is HNB.out HIS.out (Nat.lt_of_lt_of_le hg (below_regrown _ _ _).size) (HC.out.below (below_regrown _ _ _) hg) (HE.out.below (below_regrown _ _ _)) hql HRS.out))) | quiet_step ((go_at_call 128; exact Calls.regrown_of (nodeByName_is HNB.out HIS.out (Nat.lt_of_lt_of_le hg (below_regrown _ _ _).size) (HC.out.below (below_regrown _ _ _) hg) (HE.out.below (below_regrown _ _ _)) hql HRS.out))))
   refine wpQuiet_nil ?_
   intro w2 hwq
   have hb5 : Below w.heap.size w w2 := by
     obtain ⟨pp, rfl⟩ := hwq
     exact below_regrown _ _ _
   have HB5 := qhZ hb5
   have hbs2 : b < w2.heap.size := Nat.lt_of_lt_of_le hbs hb5.size
   have HK2 := qhZ ((hb5.block b hbs).trans HK.out)
   clear hwq hb5 c0 c2 c3 c5 z0 z2 z3 z5
   go_wp2
   go_ret
   exact ⟨rfl, OnlyG.below b HB5.out, HB5.out.mono (Nat.le_of_lt hbs), fun e => absurd e (by decide)⟩
 have hat0 : ¬ atE (aC9 f.nodes node).list p < 0 → ∃ m : Nat, atE (aC9 f.nodes node).list p = m ∧ m < f.nodes.length := atE_in HLN.out.1.lead hn
 have hnn : ¬ atE (aC9 f.nodes node).list p < 0 := by
   rw [HAT.out, if_pos hi]
   have hlt : posE (aC9 f.nodes node).list p < (aC9 f.nodes node).list.length := by unfold isE at hi; simp at hi; exact hi.1
   have h1 := HLN.out.1.lead f.nodes[node] (List.getElem_mem hn) ((aC9 f.nodes node).list[posE (aC9 f.nodes node).list p]) (by rw [hqe]; exact List.getElem_mem _)
   rw [show (aC9 f.nodes node).list.getD (posE (aC9 f.nodes node).list p) ent0 = (aC9 f.nodes node).list[posE (aC9 f.nodes node).list p] by simp [List.getD, hlt]]
   omega
 obtain ⟨m2, hat, hm2⟩ := hat0 hnn
 have HX0 : Hid (enterR f.nodes fol node p r hops = if (aC9 f.nodes m2).kind ≠ 3 ∨ (r = [] ∧ fol = false) then (0, ⟨m2, r, hops⟩) else hopR node (aC9 f.nodes m2).data r hops) := qhZ (by unfold enterR; rw [if_neg hnn, hat]; simp)
 have HIS : Hid (isE (aC9 f.nodes node).list (bs p).data.toList = true) := qhZ (by rw [HPL.out]; exact hi)
 have HNB : Hid (nbN (aC9 f.nodes node).list (bs p).data.toList = (m2 : Int)) := qhZ (by rw [HPL.out]; unfold nbN; rw [if_pos hi, ← hat, HAT.out, if_pos hi])
 obtain ⟨gy, offy, ly, e5, hgy, hcy, hey, -⟩ := hH m2 hm2
 simp only [Option.some.injEq, Addr.mk.injEq, and_true] at e5
 obtain ⟨rfl, rfl⟩ := e5
 have hye : f.nodes[m2] = aC9 f.nodes m2 := (aR9 hm2).symm
 rw [hye] at hcy
 have hyl : (aC9 f.nodes m2).kind = 3 → (aC9 f.nodes m2).data.length ≤ 60 := fun h => (HLN.out.2 m2 hm2 h).2
 obtain ⟨y, hy⟩ : ∃ y, y = aC9 f.nodes m2 := ⟨_, rfl⟩
 rw [← hy] at hcy HX0 hyl
 have HCY := qhZ hcy
 obtain ⟨q, hq⟩ : ∃ q, q = aC9 f.nodes node := ⟨_, rfl⟩
 rw [← hq] at HC HE HRS hql HIS HNB
 obtain ⟨x, hx⟩ : ∃ x, x = bs p := ⟨_, rfl⟩
 rw [← hx] at HIS HNB ⊢
 clear hN hb hR hoff hH hcc he hqe hi hat hat0 hnn hx hq hy hye hcy hey HAT HPL hgy
 by_cases hk3 : y.kind = 3
 · by_cases hr0 : r = []
   · subst hr0
     simp only [List.length_nil] at *
     cases fol with
     | false =>
       have HOR : y.kind ≠ 3 ∨ (([] : List (List UInt8)) = [] ∧ false = false) := .inr ⟨rfl, rfl⟩
       have HX : Hid (enterR f.nodes false node p [] hops = (0, ⟨m2, [], hops⟩)) := qhZ (by rw [HX0.out]; simp)
       rw [HX.out]
       go_enter Tryz.func174, Tryz.ntmps174
       go_wp2
       refine wp_region_quiet_below (by kernel_rfl) (by kernel_rfl) ?_
       repeat (first | go_big_quiet_step ((go_at_call 128; exact Calls.regrown_of (nodeByName_is HNB.out HIS.out (Nat.lt_of_lt_of_le hg (below_regrown _ _ _).size) (HC.out.below (below_regrown _ _ _) hg) (HE.out.below (below_regrown _ _ _)) hql HRS.out))) | quiet_step ((go_at_call 128; exact Calls.regrown_of (nodeByName_is HNB.out HIS.out (Nat.lt_of_lt_of_le hg (below_regrown _ _ _).size) (HC.out.below (below_regrown _ _ _) hg) (HE.out.below (below_regrown _ _ _)) hql HRS.out))))
       refine wpQuiet_nil ?_
       intro w2 hwq
       have hb5 : Below w.heap.size w w2 := by
         obtain ⟨pp, rfl⟩ := hwq
         exact below_regrown _ _ _
       have HB5 := qhZ hb5
       have hbs2 : b < w2.heap.size := Nat.lt_of_lt_of_le hbs hb5.size
       have HK2 := qhZ ((hb5.block b hbs).trans HK.out)
       clear hwq hb5 c0 c2 c3 c5 z0 z2 z3 z5
       obtain ⟨v0, v1, v2, v3, v4, v5, v6⟩ := HCY.out.below HB5.out hg
       rw [hk3] at v0
       have x0 : w2.cell? ⟨b, 0, none⟩ = some (.slice (some ⟨gg, off, none⟩) f.nodes.length c) := aA9 HK2.out 0
       have x4 : w2.cell? ⟨b, 4, none⟩ = some (.bool false) := aA9 HK2.out 4
       have x6 : w2.cell? ⟨b, 6, none⟩ = some (.slice po 0 pc) := aA9 HK2.out 6
       have x5 : w2.cell? ⟨b, 5, none⟩ = some (.int .i64 (node : Int)) := aA9 HK2.out 5
       have f5 := aE9 HK2.out 5
       go_wp2
       go_ret
       have hO := (OnlyG.below b HB5.out).set 5 (.int .i64 (m2 : Int))
       exact ⟨rfl, hO, (HB5.out.mono (Nat.le_of_lt hbs)).setCell (p := ⟨b, 5, none⟩) (Nat.le_refl _) _, fun _ => ⟨_, heap_setCell_same w2 b 5 _ _ (.int .i64 (m2 : Int)) HK2.out, rd_keptV HRD.out hO HOF.out, HOF.out⟩⟩
     | true =>
       have HOR : ¬ (y.kind ≠ 3 ∨ (([] : List (List UInt8)) = [] ∧ true = false)) := by rintro (h | ⟨-, h⟩); exact h hk3; cases h
       have HX : Hid (enterR f.nodes true node p [] hops = hopR node y.data [] hops) := qhZ (by rw [HX0.out]; simp [hk3])
       rw [HX.out]
       have HYL : Hid ((bs y.data).data.toList = y.data) := qhZ (aY9 _)
       have hys : (bs y.data).size ≤ 1048576 := by rw [bs_size]; have := hyl hk3; omega
       obtain ⟨s, hs⟩ : ∃ s, s = bs y.data := ⟨_, rfl⟩
       have HSS := qhZ hs
       rw [← hs] at HYL hys
       go_enter Tryz.func174, Tryz.ntmps174
       go_wp2
       refine wp_region_quiet_below (by kernel_rfl) (by kernel_rfl) ?_
       repeat (first | go_big_quiet_step ((go_at_call 128; exact Calls.regrown_of (nodeByName_is HNB.out HIS.out (Nat.lt_of_lt_of_le hg (below_regrown _ _ _).size) (HC.out.below (below_regrown _ _ _) hg) (HE.out.below (below_regrown _ _ _)) hql HRS.out))) | quiet_step ((go_at_call 128; exact Calls.regrown_of (nodeByName_is HNB.out HIS.out (Nat.lt_of_lt_of_le hg (below_regrown _ _ _).size) (HC.out.below (below_regrown _ _ _) hg) (HE.out.below (below_regrown _ _ _)) hql HRS.out))))
       refine wpQuiet_nil ?_
       intro w2 hwq
       have hb5 : Below w.heap.size w w2 := by
         obtain ⟨pp, rfl⟩ := hwq
         exact below_regrown _ _ _
       have HB5 := qhZ hb5
       have hbs2 : b < w2.heap.size := Nat.lt_of_lt_of_le hbs hb5.size
       have HK2 := qhZ ((hb5.block b hbs).trans HK.out)
       clear hwq hb5 c0 c2 c3 c5 z0 z2 z3 z5
       obtain ⟨v0, v1, v2, v3, v4, v5, v6⟩ := HCY.out.below HB5.out hg
       rw [hk3] at v0
       rw [← hs] at v5
       have x0 : w2.cell? ⟨b, 0, none⟩ = some (.slice (some ⟨gg, off, none⟩) f.nodes.length c) := aA9 HK2.out 0
       have x4 : w2.cell? ⟨b, 4, none⟩ = some (.bool true) := aA9 HK2.out 4
       have x6 : w2.cell? ⟨b, 6, none⟩ = some (.slice po 0 pc) := aA9 HK2.out 6
       have HSK : Hid (SkAt w2 b (some ⟨gg, off, none⟩) f.nodes.length c G k u g true ⟨node, [], hops⟩) := qhZ ⟨_, HK2.out, HRD.out.below HB5.out, HOF.out⟩
       clear hs
       go_wp2_with fail
       refine (hop_any s b _ _ c G k u g true node [] hops _ hys hrl hh HSK.out).mono ?_
       rintro e w3 ⟨rfl, hO3, hB3, hS3⟩
       rw [HYL.out] at hS3 ⊢
       have HO3 := qhZ ((OnlyG.below b HB5.out).trans hO3)
       have HB3 := qhZ ((HB5.out.mono (Nat.le_of_lt hbs)).trans hB3)
       have HS3 := qhZ hS3
       clear hO3 hB3 hS3
       go_wp2
       go_ret
       exact ⟨rfl, HO3.out, HB3.out, HS3.out⟩
   · have hlp : 0 < (r.length : Int) := by have := List.length_pos_iff.2 hr0; omega
     cases fol with
     | false =>
       have HOR : ¬ (y.kind ≠ 3 ∨ (r = [] ∧ false = false)) := by rintro (h | ⟨h, -⟩); exact h hk3; exact hr0 h
       have HX : Hid (enterR f.nodes false node p r hops = hopR node y.data r hops) := qhZ (by rw [HX0.out, if_neg HOR])
       rw [HX.out]
       have HYL : Hid ((bs y.data).data.toList = y.data) := qhZ (aY9 _)
       have hys : (bs y.data).size ≤ 1048576 := by rw [bs_size]; have := hyl hk3; omega
       obtain ⟨s, hs⟩ : ∃ s, s = bs y.data := ⟨_, rfl⟩
       have HSS := qhZ hs
       rw [← hs] at HYL hys
       go_enter Tryz.func174, Tryz.ntmps174
       go_wp2
       refine wp_region_quiet_below (by kernel_rfl) (by kernel_rfl) ?_
       repeat (first | go_big_quiet_step ((go_at_call 128; exact Calls.regrown_of (nodeByName_is HNB.out HIS.out (Nat.lt_of_lt_of_le hg (below_regrown _ _ _).size) (HC.out.below (below_regrown _ _ _) hg) (HE.out.below (below_regrown _ _ _)) hql HRS.out))) | quiet_step ((go_at_call 128; exact Calls.regrown_of (nodeByName_is HNB.out HIS.out (Nat.lt_of_lt_of_le hg (below_regrown _ _ _).size) (HC.out.below (below_regrown _ _ _) hg) (HE.out.below (below_regrown _ _ _)) hql HRS.out))))
       refine wpQuiet_nil ?_
       intro w2 hwq
       have hb5 : Below w.heap.size w w2 := by
         obtain ⟨pp, rfl⟩ := hwq
         exact below_regrown _ _ _
       have HB5 := qhZ hb5
       have hbs2 : b < w2.heap.size := Nat.lt_of_lt_of_le hbs hb5.size
       have HK2 := qhZ ((hb5.block b hbs).trans HK.out)
       clear hwq hb5 c0 c2 c3 c5 z0 z2 z3 z5
       obtain ⟨v0, v1, v2, v3, v4, v5, v6⟩ := HCY.out.below HB5.out hg
       rw [hk3] at v0
       rw [← hs] at v5
       have x0 : w2.cell? ⟨b, 0, none⟩ = some (.slice (some ⟨gg, off, none⟩) f.nodes.length c) := aA9 HK2.out 0
       have x4 : w2.cell? ⟨b, 4, none⟩ = some (.bool false) := aA9 HK2.out 4
       have x6 : w2.cell? ⟨b, 6, none⟩ = some (.slice po r.length pc) := aA9 HK2.out 6
       have HSK : Hid (SkAt w2 b (some ⟨gg, off, none⟩) f.nodes.length c G k u g false ⟨node, r, hops⟩) := qhZ ⟨_, HK2.out, HRD.out.below HB5.out, HOF.out⟩
       clear hs
       go_wp2_with fail
       refine (hop_any s b _ _ c G k u g false node r hops _ hys hrl hh HSK.out).mono ?_
       rintro e w3 ⟨rfl, hO3, hB3, hS3⟩
       rw [HYL.out] at hS3 ⊢
       have HO3 := qhZ ((OnlyG.below b HB5.out).trans hO3)
       have HB3 := qhZ ((HB5.out.mono (Nat.le_of_lt hbs)).trans hB3)
       have HS3 := qhZ hS3
       clear hO3 hB3 hS3
       go_wp2
       go_ret
       exact ⟨rfl, HO3.out, HB3.out, HS3.out⟩
     | true =>
       have HOR : ¬ (y.kind ≠ 3 ∨ (r = [] ∧ true = false)) := by rintro (h | ⟨h, -⟩); exact h hk3; exact hr0 h
       have HX : Hid (enterR f.nodes true node p r hops = hopR node y.data r hops) := qhZ (by rw [HX0.out, if_neg HOR])
       rw [HX.out]
       have HYL : Hid ((bs y.data).data.toList = y.data) := qhZ (aY9 _)
       have hys : (bs y.data).size ≤ 1048576 := by rw [bs_size]; have := hyl hk3; omega
       obtain ⟨s, hs⟩ : ∃ s, s = bs y.data := ⟨_, rfl⟩
       have HSS := qhZ hs
       rw [← hs] at HYL hys
       go_enter Tryz.func174, Tryz.ntmps174
       go_wp2
       refine wp_region_quiet_below (by kernel_rfl) (by kernel_rfl) ?_
       repeat (first | go_big_quiet_step ((go_at_call 128; exact Calls.regrown_of (nodeByName_is HNB.out HIS.out (Nat.lt_of_lt_of_le hg (below_regrown _ _ _).size) (HC.out.below (below_regrown _ _ _) hg) (HE.out.below (below_regrown _ _ _)) hql HRS.out))) | quiet_step ((go_at_call 128; exact Calls.regrown_of (nodeByName_is HNB.out HIS.out (Nat.lt_of_lt_of_le hg (below_regrown _ _ _).size) (HC.out.below (below_regrown _ _ _) hg) (HE.out.below (below_regrown _ _ _)) hql HRS.out))))
       refine wpQuiet_nil ?_
       intro w2 hwq
       have hb5 : Below w.heap.size w w2 := by
         obtain ⟨pp, rfl⟩ := hwq
         exact below_regrown _ _ _
       have HB5 := qhZ hb5
       have hbs2 : b < w2.heap.size := Nat.lt_of_lt_of_le hbs hb5.size
       have HK2 := qhZ ((hb5.block b hbs).trans HK.out)
       clear hwq hb5 c0 c2 c3 c5 z0 z2 z3 z5
       obtain ⟨v0, v1, v2, v3, v4, v5, v6⟩ := HCY.out.below HB5.out hg
       rw [hk3] at v0
       rw [← hs] at v5
       have x0 : w2.cell? ⟨b, 0, none⟩ = some (.slice (some ⟨gg, off, none⟩) f.nodes.length c) := aA9 HK2.out 0
       have x4 : w2.cell? ⟨b, 4, none⟩ = some (.bool true) := aA9 HK2.out 4
       have x6 : w2.cell? ⟨b, 6, none⟩ = some (.slice po r.length pc) := aA9 HK2.out 6
       have HSK : Hid (SkAt w2 b (some ⟨gg, off, none⟩) f.nodes.length c G k u g true ⟨node, r, hops⟩) := qhZ ⟨_, HK2.out, HRD.out.below HB5.out, HOF.out⟩
       clear hs
       go_wp2_with fail
       refine (hop_any s b _ _ c G k u g true node r hops _ hys hrl hh HSK.out).mono ?_
       rintro e w3 ⟨rfl, hO3, hB3, hS3⟩
       rw [HYL.out] at hS3 ⊢
       have HO3 := qhZ ((OnlyG.below b HB5.out).trans hO3)
       have HB3 := qhZ ((HB5.out.mono (Nat.le_of_lt hbs)).trans hB3)
       have HS3 := qhZ hS3
       clear hO3 hB3 hS3
       go_wp2
       go_ret
       exact ⟨rfl, HO3.out, HB3.out, HS3.out⟩
 · have hkb : (y.kind == 3) = false := beq_eq_false_iff_ne.2 hk3
   have HOR : y.kind ≠ 3 ∨ (r = [] ∧ fol = false) := .inl hk3
   have HX : Hid (enterR f.nodes fol node p r hops = (0, ⟨m2, r, hops⟩)) := qhZ (by rw [HX0.out, if_pos HOR])
   rw [HX.out]
   go_enter Tryz.func174, Tryz.ntmps174
   go_wp2
   refine wp_region_quiet_below (by kernel_rfl) (by kernel_rfl) ?_
   repeat (first | go_big_quiet_step ((go_at_call 128; exact Calls.regrown_of (nodeByName_is HNB.out HIS.out (Nat.lt_of_lt_of_le hg (below_regrown _ _ _).size) (HC.out.below (below_regrown _ _ _) hg) (HE.out.below (below_regrown _ _ _)) hql HRS.out))) | quiet_step ((go_at_call 128; exact Calls.regrown_of (nodeByName_is HNB.out HIS.out (Nat.lt_of_lt_of_le hg (below_regrown _ _ _).size) (HC.out.below (below_regrown _ _ _) hg) (HE.out.below (below_regrown _ _ _)) hql HRS.out))))
   refine wpQuiet_nil ?_
   intro w2 hwq
   have hb5 : Below w.heap.size w w2 := by
     obtain ⟨pp, rfl⟩ := hwq
     exact below_regrown _ _ _
   have HB5 := qhZ hb5
   have hbs2 : b < w2.heap.size := Nat.lt_of_lt_of_le hbs hb5.size
   have HK2 := qhZ ((hb5.block b hbs).trans HK.out)
   clear hwq hb5 c0 c2 c3 c5 z0 z2 z3 z5
   obtain ⟨v0, v1, v2, v3, v4, v5, v6⟩ := HCY.out.below HB5.out hg
   have x0 : w2.cell? ⟨b, 0, none⟩ = some (.slice (some ⟨gg, off, none⟩) f.nodes.length c) := aA9 HK2.out 0
   have x4 : w2.cell? ⟨b, 4, none⟩ = some (.bool fol) := aA9 HK2.out 4
   have x6 : w2.cell? ⟨b, 6, none⟩ = some (.slice po r.length pc) := aA9 HK2.out 6
   have x5 : w2.cell? ⟨b, 5, none⟩ = some (.int .i64 (node : Int)) := aA9 HK2.out 5
   have f5 := aE9 HK2.out 5
   go_wp2
   go_ret
   have hO := (OnlyG.below b HB5.out).set 5 (.int .i64 (m2 : Int))
   exact ⟨rfl, hO, (HB5.out.mono (Nat.le_of_lt hbs)).setCell (p := ⟨b, 5, none⟩) (Nat.le_refl _) _, fun _ => ⟨_, heap_setCell_same w2 b 5 _ _ (.int .i64 (m2 : Int)) HK2.out, rd_keptV HRD.out hO HOF.out, HOF.out⟩⟩
set_option maxRecDepth 100000 in
theorem sstep_any (f : FsD) (o : Option Addr) (c G k : Nat) (u g : Int) (fol : Bool) (b node hops : Nat) (p : List UInt8) (r : List (List UInt8)) (w0 w : World) (hgood : goodF f = true) (hcred : credB u g = true) (hsz : szF f ≤ 1048576) (hN0 : NodsA w0 (.slice o f.nodes.length c) f.nodes) (hB0 : Below w0.heap.size w0 w) (hb0 : w0.heap.size ≤ b) (hS : SkAt w b o f.nodes.length c G k u g fol ⟨node, r, hops⟩) (hn : node < f.nodes.length) (hh : hops ≤ 8) (hrl : r.length ≤ 1000) (hG : RowAt w G (f.nodes.length * 3) 163 (plF (bH9 f.nodes))) (hGb : G ≠ b) :
   Calls Tryz.prog 152 #[.pointer (some ⟨b, 0, none⟩), .string (bs p)] w fun e w' => e = .returned (errC (lkStep f.nodes u g fol node p r hops).1) ∧ OnlyG w w' b ∧ Below b w w' ∧ ((lkStep f.nodes u g fol node p r hops).1 = 0 → SkAt w' b o f.nodes.length c G k u g fol (lkStep f.nodes u g fol node p r hops).2) := by
 have HIN : Hid (∀ w2 : World, Below w.heap.size w w2 → SkAt w2 b o f.nodes.length c G k u g fol ⟨node, r, hops⟩ → Calls Tryz.prog 174 #[.pointer (some ⟨b, 0, none⟩), .string (bs p)] w2 fun e w' => e = .returned (errC (enterR f.nodes fol node p r hops).1) ∧ OnlyG w2 w' b ∧ Below b w2 w' ∧ ((enterR f.nodes fol node p r hops).1 = 0 → SkAt w' b o f.nodes.length c G k u g fol (enterR f.nodes fol node p r hops).2)) := qhZ (fun w2 hb2 hS2 => enter_any f o c G k u g fol b node hops p r w0 w2 hgood hcred hsz hN0 (hB0.trans (hb2.mono hB0.size)) hb0 hS2 hn hh hrl)
 have hl : f.nodes.length ≤ 1048576 := (aG9 hsz).1
 have hn : node < f.nodes.length := hn
 have hN := hN0.below hB0
 obtain ⟨pv, hb, hR, hoff⟩ := hS
 simp only at hb hR
 obtain ⟨po, pc, rfl, hp1, hp2, hp3⟩ := id hR
 obtain ⟨o', c', e1, hmm, hH⟩ := id hN
 simp only [Value.slice.injEq, true_and] at e1
 obtain ⟨rfl, rfl⟩ := e1
 unfold maxLen at hmm
 obtain ⟨gg, off, lv, rfl, hg, hcc, he, -⟩ := hH node hn
 have hqe : f.nodes[node] = aC9 f.nodes node := (aR9 hn).symm
 have hql : (aC9 f.nodes node).list.length ≤ 1048576 := by rw [← hqe]; exact ((aG9 hsz).2 _ (List.getElem_mem hn)).1
 rw [hqe] at hcc he
 have HC := qhZ hcc
 have HE := qhZ he
 have HRS := qhZ (good_rise hgood node)
 have HH := qhZ hH
 have HK := qhZ hb
 have HRD := qhZ hR
 have HOF := qhZ hoff
 have hbs := aB9 hb
 have c0 : w.cell? ⟨b, 0, none⟩ = some (.slice (some ⟨gg, off, none⟩) f.nodes.length c) := aA9 hb 0
 have c2 : w.cell? ⟨b, 2, none⟩ = some (.int .i64 u) := aA9 hb 2
 have c3 : w.cell? ⟨b, 3, none⟩ = some (.int .i64 g) := aA9 hb 3
 have c5 : w.cell? ⟨b, 5, none⟩ = some (.int .i64 (node : Int)) := aA9 hb 5
 have z0 := fun d os => cell_regrown (w := w) c0 d os
 have z2 := fun d os => cell_regrown (w := w) c2 d os
 have z3 := fun d os => cell_regrown (w := w) c3 d os
 have z5 := fun d os => cell_regrown (w := w) c5 d os
 have HAS : Hid ((aC9 f.nodes node).kind = 2 → askB u g (aC9 f.nodes node).mode (aC9 f.nodes node).uid (aC9 f.nodes node).gid 1 = true) := qhZ (fun h => good_ask hgood hcred (by decide) hn h)
 have HPP : Hid ((aC9 f.nodes node).kind = 2 → (bH9 f.nodes node).dir = parentOf node f.nodes) := qhZ (fun h => place_parent hgood hn (by unfold kindAt; simpa [aC9] using h))
 have HLS := qhZ (lkStep_is f.nodes u g fol node p r hops)
 have HGR := qhZ hG
 have c1 : w.cell? ⟨b, 1, none⟩ = some (.slice (some ⟨G, 0, none⟩) f.nodes.length k) := aA9 hb 1
 have HDK : Hid (dirC (aC9 f.nodes node) u g 1 = 0 → (aC9 f.nodes node).kind = 2) := qhZ (fun h => by
   by_cases hk : (aC9 f.nodes node).kind = 2
   · exact hk
   · unfold dirC at h; rw [if_pos hk] at h; cases h)
 obtain ⟨q, hq⟩ : ∃ q, q = aC9 f.nodes node := ⟨_, rfl⟩
 rw [← hq] at HC HAS HPP HLS HDK
 clear hN hb hR hoff hH hcc he hqe hq HE HRS hql hG c1
 obtain ⟨cd, hcd⟩ : ∃ cd, dirC q u g 1 = cd := ⟨_, rfl⟩
 rw [hcd] at HLS HDK
 by_cases h0 : cd = 0
 case neg =>
   have HX : Hid (lkStep f.nodes u g fol node p r hops = (cd, ⟨0, [], 0⟩)) := qhZ (by rw [HLS.out, if_pos h0])
   have HV : Hid (errC (dirC q u g 1) = .iface 105 (.agg #[.int .i64 cd])) := qhZ (by rw [hcd]; unfold errC codeV; rw [if_neg h0])
   have HE0 : Hid (errC cd = .iface 105 (.agg #[.int .i64 cd])) := qhZ (by unfold errC codeV; rw [if_neg h0])
   rw [HX.out]
   clear hcd
   go_enter Tryz.func152, Tryz.ntmps152
   go_wp2
   refine wp_region_quiet_below (by kernel_rfl) (by kernel_rfl) ?_
   repeat (first | go_big_quiet_step ((go_at_call 120; exact Calls.regrown_of (bA9 HV.out (Nat.lt_of_lt_of_le hg (below_regrown _ _ _).size) (HC.out.below (below_regrown _ _ _) hg) HAS.out))) | quiet_step ((go_at_call 120; exact Calls.regrown_of (bA9 HV.out (Nat.lt_of_lt_of_le hg (below_regrown _ _ _).size) (HC.out.below (below_regrown _ _ _) hg) HAS.out))))
   refine wpQuiet_nil ?_
   intro w2 hwq
   have hb5 : Below w.heap.size w w2 := by
     obtain ⟨pp, rfl⟩ := hwq
     exact below_regrown _ _ _
   have HB5 := qhZ hb5
   have hbs2 : b < w2.heap.size := Nat.lt_of_lt_of_le hbs hb5.size
   have HK2 := qhZ ((hb5.block b hbs).trans HK.out)
   clear hwq hb5 c0 c2 c3 c5 z0 z2 z3 z5
   go_wp2
   go_ret
   exact ⟨by rw [HE0.out]; rfl, OnlyG.below b HB5.out, HB5.out.mono (Nat.le_of_lt hbs), fun e => absurd e h0⟩
 subst h0
 have hk2 := HDK.out rfl
 have HV : Hid (errC (dirC q u g 1) = .nilIface) := qhZ (by rw [hcd]; rfl)
 have HP1 := qhZ (HPP.out hk2)
 have HL2 : Hid (lkStep f.nodes u g fol node p r hops = if p = [46] then (0, ⟨node, r, hops⟩) else if p = [46, 46] then (0, ⟨parentOf (node : Int) f.nodes, r, hops⟩) else enterR f.nodes fol node p r hops) := qhZ (by rw [HLS.out, if_neg (by decide)])
 clear hcd HLS HDK HPP hk2
 by_cases hd1 : p = [46]
 · have HX : Hid (lkStep f.nodes u g fol node p r hops = (0, ⟨node, r, hops⟩)) := qhZ (by rw [HL2.out, if_pos hd1])
   rw [HX.out]
   rw [show bs p = ⟨#[46]⟩ by rw [hd1]; rfl]
   clear hd1 HL2 HX HIN
   go_enter Tryz.func152, Tryz.ntmps152
   go_wp2
   refine wp_region_quiet_below (by kernel_rfl) (by kernel_rfl) ?_
   repeat (first | go_big_quiet_step ((go_at_call 120; exact Calls.regrown_of (bA9 HV.out (Nat.lt_of_lt_of_le hg (below_regrown _ _ _).size) (HC.out.below (below_regrown _ _ _) hg) HAS.out))) | quiet_step ((go_at_call 120; exact Calls.regrown_of (bA9 HV.out (Nat.lt_of_lt_of_le hg (below_regrown _ _ _).size) (HC.out.below (below_regrown _ _ _) hg) HAS.out))))
   refine wpQuiet_nil ?_
   intro w2 hwq
   have hb5 : Below w.heap.size w w2 := by
     obtain ⟨pp, rfl⟩ := hwq
     exact below_regrown _ _ _
   have HB5 := qhZ hb5
   have hbs2 : b < w2.heap.size := Nat.lt_of_lt_of_le hbs hb5.size
   have HK2 := qhZ ((hb5.block b hbs).trans HK.out)
   clear hwq hb5 c0 c2 c3 c5 z0 z2 z3 z5
   go_wp2
   go_ret
   exact ⟨rfl, OnlyG.below b HB5.out, HB5.out.mono (Nat.le_of_lt hbs), fun _ => ⟨_, HK2.out, HRD.out.below HB5.out, HOF.out⟩⟩
 by_cases hd2 : p = [46, 46]
 · have HX : Hid (lkStep f.nodes u g fol node p r hops = (0, ⟨parentOf (node : Int) f.nodes, r, hops⟩)) := qhZ (by rw [HL2.out, if_neg hd1, if_pos hd2])
   rw [HX.out]
   rw [show bs p = ⟨#[46, 46]⟩ by rw [hd2]; rfl]
   clear hd1 hd2 HL2 HX HIN
   obtain ⟨d, hd⟩ : ∃ d, (bH9 f.nodes node).dir = d := ⟨_, rfl⟩
   have HDD : Hid (d = parentOf (node : Int) f.nodes) := qhZ (by rw [← hd]; exact HP1.out)
   have HGC : Hid (w.cell? ⟨G, node * 3 + 1, none⟩ = some (.int .i64 (d : Int))) := qhZ (by rw [HGR.out.cell (j := node * 3 + 1) (by omega), plF1, hd])
   have hGs := HGR.out.lt
   rw [← HDD.out]
   clear hd HP1
   go_enter Tryz.func152, Tryz.ntmps152
   go_wp2
   refine wp_region_quiet_below (by kernel_rfl) (by kernel_rfl) ?_
   repeat (first | go_big_quiet_step ((go_at_call 120; exact Calls.regrown_of (bA9 HV.out (Nat.lt_of_lt_of_le hg (below_regrown _ _ _).size) (HC.out.below (below_regrown _ _ _) hg) HAS.out))) | quiet_step ((go_at_call 120; exact Calls.regrown_of (bA9 HV.out (Nat.lt_of_lt_of_le hg (below_regrown _ _ _).size) (HC.out.below (below_regrown _ _ _) hg) HAS.out))))
   refine wpQuiet_nil ?_
   intro w2 hwq
   have hb5 : Below w.heap.size w w2 := by
     obtain ⟨pp, rfl⟩ := hwq
     exact below_regrown _ _ _
   have HB5 := qhZ hb5
   have hbs2 : b < w2.heap.size := Nat.lt_of_lt_of_le hbs hb5.size
   have HK2 := qhZ ((hb5.block b hbs).trans HK.out)
   clear hwq hb5 c0 c2 c3 c5 z0 z2 z3 z5
   have x1 : w2.cell? ⟨b, 1, none⟩ = some (.slice (some ⟨G, 0, none⟩) f.nodes.length k) := aA9 HK2.out 1
   have x5 : w2.cell? ⟨b, 5, none⟩ = some (.int .i64 (node : Int)) := aA9 HK2.out 5
   have f5 := aE9 HK2.out 5
   have xg : w2.cell? ⟨G, node * 3 + 1, none⟩ = some (.int .i64 (d : Int)) := (HB5.out.cell (p := ⟨G, node * 3 + 1, none⟩) hGs).trans HGC.out
   go_wp2
   go_region
   go_wp2
   go_ret
   have hO := (OnlyG.below b HB5.out.drew).set 5 (.int .i64 (d : Int))
   exact ⟨rfl, hO, (HB5.out.drew.mono (Nat.le_of_lt hbs)).setCell (p := ⟨b, 5, none⟩) (Nat.le_refl _) _, fun _ => ⟨_, heap_setCell_same w2.drew b 5 _ _ (.int .i64 (d : Int)) HK2.out, rd_keptV HRD.out hO HOF.out, HOF.out⟩⟩
 have HX : Hid (lkStep f.nodes u g fol node p r hops = enterR f.nodes fol node p r hops) := qhZ (by rw [HL2.out, if_neg hd1, if_neg hd2])
 rw [HX.out]
 have hx1 : ((bs p).toList == [46]) = false := bytes_neP (by rw [aY9]; exact hd1)
 have hx2 : ((bs p).toList == [46, 46]) = false := bytes_neP (by rw [aY9]; exact hd2)
 obtain ⟨x, hx⟩ : ∃ x, x = bs p := ⟨_, rfl⟩
 rw [← hx] at hx1 hx2 HIN ⊢
 clear hd1 hd2 HL2 HX hx HP1
 go_enter Tryz.func152, Tryz.ntmps152
 go_wp2
 refine wp_region_quiet_below (by kernel_rfl) (by kernel_rfl) ?_
 repeat (first | go_big_quiet_step ((go_at_call 120; exact Calls.regrown_of (bA9 HV.out (Nat.lt_of_lt_of_le hg (below_regrown _ _ _).size) (HC.out.below (below_regrown _ _ _) hg) HAS.out))) | quiet_step ((go_at_call 120; exact Calls.regrown_of (bA9 HV.out (Nat.lt_of_lt_of_le hg (below_regrown _ _ _).size) (HC.out.below (below_regrown _ _ _) hg) HAS.out))))
 refine wpQuiet_nil ?_
 intro w2 hwq
 have hb5 : Below w.heap.size w w2 := by
   obtain ⟨pp, rfl⟩ := hwq
   exact below_regrown _ _ _
 have HB5 := qhZ hb5
 have hbs2 : b < w2.heap.size := Nat.lt_of_lt_of_le hbs hb5.size
 have HK2 := qhZ ((hb5.block b hbs).trans HK.out)
 clear hwq hb5 c0 c2 c3 c5 z0 z2 z3 z5
 go_wp2_with fail
 refine (HIN.out w2 HB5.out ⟨_, HK2.out, HRD.out.below HB5.out, HOF.out⟩).mono ?_
 rintro e w3 ⟨rfl, hO3, hB3, hS3⟩
 have HO3 := qhZ ((OnlyG.below b HB5.out).trans hO3)
 have HB3 := qhZ ((HB5.out.mono (Nat.le_of_lt hbs)).trans hB3)
 have HS3 := qhZ hS3
 clear hO3 hB3 hS3
 go_wp2
 go_ret
 exact ⟨rfl, HO3.out, HB3.out, HS3.out⟩
def skMeas (b : Nat) (w : World) : Nat := match w.heap[b]? with
 | some (.cells cs _ _) => (8 - (intOf (cs.getD 7 undef)).toNat) * 64 + (match cs.getD 6 undef with
   | .slice _ n _ => n
   | _ => 0)
 | _ => 0
theorem skMeas_is {w : World} {b : Nat} {o : Option Addr} {n c G k : Nat} {u g : Int} {fol : Bool} {s : Lk} (h : SkAt w b o n c G k u g fol s) : skMeas b w = lkW s := by
 obtain ⟨pv, hb, ⟨o2, c2, rfl, -, -, -⟩, -⟩ := h
 unfold skMeas lkW
 rw [hb]
 simp [skCells, intOf]
theorem errC_zero : errC 0 = .nilIface := rfl
theorem errC_not {c : Int} (h : c ≠ 0) : errC c = .iface 105 (.agg #[.int .i64 c]) := by unfold errC codeV; rw [if_neg h]
set_option maxRecDepth 100000 in
theorem run_any (f : FsD) (o : Option Addr) (c G k : Nat) (u g : Int) (fol : Bool) (b : Nat) (st : Lk) (w0 w : World) (hgood : goodF f = true) (hcred : credB u g = true) (hsz : szF f ≤ 1048576) (hN0 : NodsA w0 (.slice o f.nodes.length c) f.nodes) (hB0 : Below w0.heap.size w0 w) (hb0 : w0.heap.size ≤ b) (hS0 : SkAt w b o f.nodes.length c G k u g fol st) (hI0 : LkInv f.nodes st)
   (hG : RowAt w G (f.nodes.length * 3) 163 (plF (bH9 f.nodes))) (hGb : G ≠ b) :
   Calls Tryz.prog 119 #[.pointer (some ⟨b, 0, none⟩)] w fun e w' => e = .returned (errC (lkGo f.nodes u g fol st).1) ∧ OnlyG w w' b ∧ Below b w w' ∧ ((lkGo f.nodes u g fol st).1 = 0 → w'.cell? ⟨b, 5, none⟩ = some (.int .i64 ((lkGo f.nodes u g fol st).2 : Nat))) := by
 have HLK := qhZ (look_of hgood hsz)
 have HN0 := qhZ hN0
 have HB0 := qhZ hB0
 have HG := qhZ hG
 have hGs := hG.lt
 have HS0 := qhZ hS0
 have HI0 := qhZ hI0
 have HGD := qhZ hgood
 have HCD := qhZ hcred
 have HSZ := qhZ hsz
 clear hgood hcred hsz hN0 hB0 hS0 hI0 hG
 go_enter Tryz.func119, Tryz.ntmps119
 go_wp2
 go_loopw [] (fun wr => ∃ s : Lk, SkAt wr b o f.nodes.length c G k u g fol s ∧ LkInv f.nodes s ∧ lkGo f.nodes u g fol s = lkGo f.nodes u g fol st ∧ OnlyG w wr b ∧ Below b w wr) (fun wr => skMeas b wr)
 case atStart => exact ⟨st, HS0.out, HI0.out, rfl, OnlyG.below b (Below.refl _ _), Below.refl _ _⟩
 case round =>
   obtain ⟨⟨node, ps, hops⟩, hS, hI, hGo, hO, hB⟩ := hrel
   have HSr := qhZ hS
   have HIr := qhZ hI
   have HGo := qhZ hGo
   have HOr := qhZ hO
   have HBr := qhZ hB
   obtain ⟨pv, hb, hR, hoff⟩ := hS
   simp only at hb hR
   have HK := qhZ hb
   have HRD := qhZ hR
   have HOF := qhZ hoff
   obtain ⟨po, pc, rfl, p1, p2, p3⟩ := hR
   have c6 : wr.cell? ⟨b, 6, none⟩ = some (.slice po ps.length pc) := aA9 hb 6
   have f6 := aE9 hb 6
   have c5 : wr.cell? ⟨b, 5, none⟩ = some (.int .i64 (node : Int)) := aA9 hb 5
   have hhp : hops ≤ 8 := hI.hops
   have hnl : node < f.nodes.length := hI.node
   have hpl : ps.length ≤ 61 * (hops + 1) := hI.parts
   clear hb hoff hI hGo hO hB
   cases ps with
   | nil =>
     have HX : Hid (lkGo f.nodes u g fol st = (0, node)) := qhZ (by rw [← HGo.out, lkGo_nil])
     simp only [List.length_nil] at c6
     clear p1 p2 p3 hpl
     go_wp2
     go_ret
     rw [HX.out]
     exact ⟨rfl, HOr.out, HBr.out, fun _ => c5⟩
   | cons p r =>
     obtain ⟨pg, pf, e2, -, -⟩ := p3 0 (by simp)
     subst e2
     obtain ⟨hpg, hq1, hq2, hq3, ht1, ht2⟩ := rd_first HRD.out
     unfold maxLen at hq2
     have hpb : pg ≠ b := HOF.out _ _ _ rfl
     have HT1 := qhZ ht1
     have HT2 := qhZ ht2
     simp only [List.length_cons] at c6 hpl
     have hlp : 0 < ((r.length + 1 : Nat) : Int) := by omega
     have hrl : r.length ≤ 1000 := by omega
     have HMr := qhZ (skMeas_is HSr.out)
     clear p1 p2 p3 ht1 ht2 c5
     obtain ⟨q, hq⟩ : ∃ q, lkStep f.nodes u g fol node p r hops = q := ⟨_, rfl⟩
     have HQ := qhZ hq
     have HSTEP : Hid (q.1 = 0 → lkGo f.nodes u g fol q.2 = lkGo f.nodes u g fol st ∧ LkInv f.nodes q.2 ∧ lkW q.2 < lkW ⟨node, p :: r, hops⟩) := qhZ (fun h => by
       rw [← hq] at h ⊢
       exact ⟨by rw [← HGo.out, lkGo_step HLK.out.1.fit hhp h], lkInv_step HLK.out.1.fit HLK.out.1.lead HLK.out.1.pos HIr.out h, (step_less HLK.out.1.fit hhp h).1⟩)
     have HSTOP : Hid (q.1 ≠ 0 → lkGo f.nodes u g fol st = (q.1, 0)) := qhZ (fun h => by rw [← hq] at h ⊢; rw [← HGo.out]; exact lkGo_stop h)
     clear hq
     obtain ⟨cd, s2⟩ := q
     simp only at HSTEP HSTOP
     have HGO : Hid (∀ npv, Rd wr npv r → (∀ a l k, npv = .slice (some a) l k → a.block ≠ b) → Calls Tryz.prog 152 #[.pointer (some ⟨b, 0, none⟩), .string (bs p)] (wr.setCell ⟨b, 6, none⟩ npv) fun e w' => e = .returned (errC cd) ∧ OnlyG w w' b ∧ Below b w w' ∧ (cd = 0 → SkAt w' b o f.nodes.length c G k u g fol s2)) := qhZ (by
       intro npv hnp hno
       have hO1 : OnlyG wr (wr.setCell ⟨b, 6, none⟩ npv) b := (OnlyG.below b (Below.refl _ wr)).set 6 npv
       have hOw := HOr.out.trans hO1
       have hBw : Below b w (wr.setCell ⟨b, 6, none⟩ npv) := HBr.out.setCell (p := ⟨b, 6, none⟩) (Nat.le_refl _) npv
       have hSk : SkAt (wr.setCell ⟨b, 6, none⟩ npv) b o f.nodes.length c G k u g fol ⟨node, r, hops⟩ := ⟨npv, heap_setCell_same wr b 6 _ _ npv HK.out, rd_keptV hnp hO1 hno, hno⟩
       refine (sstep_any f o c G k u g fol b node hops p r w0 _ HGD.out HCD.out HSZ.out HN0.out (HB0.out.trans (hBw.mono hb0)) hb0 hSk hnl hhp hrl (HG.out.of_block (hOw.2 G hGs hGb)) hGb).mono ?_
       rintro e w' ⟨h1, h2, h3, h4⟩
       rw [HQ.out] at h1 h4
       exact ⟨h1, hOw.trans h2, hBw.trans h3, h4⟩)
     clear HQ HIr HRD
     obtain ⟨x, hx⟩ : ∃ x, x = bs p := ⟨_, rfl⟩
     rw [← hx] at hq3 HGO
     clear hx
     by_cases hpc : pc = 1
     · subst hpc
       obtain rfl : r = [] := List.eq_nil_of_length_eq_zero (by omega)
       simp only [List.length_nil] at *
       go_wp2_with fail
       refine (HGO.out (.slice (some ⟨pg, pf, none⟩) 0 0) (HT1.out trivial) (fun a l k e => by cases e; exact hpb)).mono ?_
       rintro e w3 ⟨rfl, hO3, hB3, hS3⟩
       have HO3 := qhZ hO3
       have HB3 := qhZ hB3
       have HS3 := qhZ hS3
       clear hO3 hB3 hS3 c6 f6 hq3
       by_cases hc : cd = 0
       · subst hc
         have HSK := qhZ (HS3.out rfl)
         obtain ⟨h6a, h6b, h6c⟩ := HSTEP.out rfl
         have HG6 := qhZ h6a
         have HI6 := qhZ h6b
         have HM6 : Hid (skMeas b w3 < skMeas b wr) := qhZ (by rw [skMeas_is HSK.out, HMr.out]; exact h6c)
         clear h6a h6b h6c
         rw [errC_zero]
         go_wp2
         go_roundw
         case rel => exact ⟨s2, HSK.out, HI6.out, HG6.out, HO3.out, HB3.out⟩
         case measure => exact HM6.out
       · have HX := qhZ (HSTOP.out hc)
         have HEC := qhZ (errC_not hc)
         rw [HEC.out]
         go_wp2
         go_ret
         rw [HX.out]
         exact ⟨by rw [HEC.out]; rfl, HO3.out, HB3.out, fun e => absurd e hc⟩
     · have hpc2 : ¬ 1 = pc := fun e => hpc e.symm
       go_wp2_with fail
       refine (HGO.out (.slice (some ⟨pg, pf + 1, none⟩) r.length (pc - 1)) HT2.out (fun a l k e => by cases e; exact hpb)).mono ?_
       rintro e w3 ⟨rfl, hO3, hB3, hS3⟩
       have HO3 := qhZ hO3
       have HB3 := qhZ hB3
       have HS3 := qhZ hS3
       clear hO3 hB3 hS3 c6 f6 hq3
       by_cases hc : cd = 0
       · subst hc
         have HSK := qhZ (HS3.out rfl)
         obtain ⟨h6a, h6b, h6c⟩ := HSTEP.out rfl
         have HG6 := qhZ h6a
         have HI6 := qhZ h6b
         have HM6 : Hid (skMeas b w3 < skMeas b wr) := qhZ (by rw [skMeas_is HSK.out, HMr.out]; exact h6c)
         clear h6a h6b h6c
         rw [errC_zero]
         go_wp2
         go_roundw
         case rel => exact ⟨s2, HSK.out, HI6.out, HG6.out, HO3.out, HB3.out⟩
         case measure => exact HM6.out
       · have HX := qhZ (HSTOP.out hc)
         have HEC := qhZ (errC_not hc)
         rw [HEC.out]
         go_wp2
         go_ret
         rw [HX.out]
         exact ⟨by rw [HEC.out]; rfl, HO3.out, HB3.out, fun e => absurd e hc⟩
end Go.Proofs.YtknhacblialboaaGreatDoor
