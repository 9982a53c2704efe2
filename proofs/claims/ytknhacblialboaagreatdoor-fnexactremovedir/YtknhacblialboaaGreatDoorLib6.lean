/-
  Joined: FsZ FsG PlcM ModeC MayC LookM.
  Conditions: as each states.
-/
import Derived.Test.YtknhacblialboaaGreatDoorLib3
import Derived.Test.YtknhacblialboaaGreatDoorLib5
namespace Go.Proofs.YtknhacblialboaaGreatDoor
open Go.ChangeShapes Go.WideShapes Go.ChangeAt Go.RowKit Go.Joins
set_option linter.unusedVariables false
set_option linter.unusedSimpArgs false
set_option maxHeartbeats 16000000
def TailOk (ns : List Nod) (k : Nat) : Prop := (k = 0 → links 0 ns = 0) ∧ (0 < k → kindAt ns k = 2 → links k ns = 1) ∧ (kindAt ns k ≠ 0 → Reach ns 0 k)
def GoodF (f : FsD) : Prop :=
 inB 1 40 (f.nodes.length : Int) = true ∧ inB 0 1000 f.room = true ∧ (sumD f.nodes : Int) ≤ f.room ∧ kindAt f.nodes 0 = 2 ∧ (∀ n ∈ f.nodes, nodOk f.nodes n = true) ∧ ∀ k, k < f.nodes.length → TailOk f.nodes k
open Classical in
noncomputable def goodF (f : FsD) : Bool := decide (GoodF f)
theorem goodF_no {f : FsD} (h : ¬ GoodF f) : false = goodF f := by unfold goodF; simp [h]
theorem goodF_yes {f : FsD} (h : GoodF f) : true = goodF f := by unfold goodF; simp [h]
theorem lead_of {ns : List Nod} (h : ∀ n ∈ ns, nodOk ns n = true) : Lead ns := by
 intro n hn e he
 have h1 := h n hn
 have hne : n.list.isEmpty = false := by cases hl : n.list <;> simp_all
 unfold nodOk at h1
 have h2 : entsOk ns n.list = true := by
   split at h1
   · simp [hne] at h1
   · split at h1
     · simp [hne] at h1
     · split at h1
       · simp at h1; exact h1.2.2.2.2.2
       · simp [hne] at h1
 obtain ⟨i, hi, rfl⟩ := List.getElem_of_mem he
 unfold entsOk at h2
 rw [List.all_eq_true] at h2
 have h3 := h2 i (List.mem_range.2 hi)
 unfold entOk at h3
 simp only [Bool.and_eq_true] at h3
 have e1 : n.list.getD i ⟨[], 0⟩ = n.list[i] := by simp [List.getD, hi]
 rw [e1] at h3
 have := inB_t h3.1.2
 omega
theorem l3Good_any (f : FsD) (v : Value) (w : World) (hR : FsA w v f) (hs : szF f ≤ 1048576) : Calls Tryz.prog 93 #[v] w fun e w' => e = .returned (.bool (goodF f)) ∧ Below w.heap.size w w' := by
 have HR := qhZ hR
 obtain ⟨nv, rfl, hN⟩ := hR
 obtain ⟨o, c, rfl, hm, hH⟩ := hN
 have HH := qhZ hH
 clear hH
 unfold maxLen at hm
 have HSZ := qhZ hs
 have hsum : sumD f.nodes ≤ 1048576 := by have := sumD_le f.nodes; unfold szF at hs; omega
 have hl : f.nodes.length ≤ 1048576 := (aG9 hs).1
 have HL : Hid (∀ n ∈ f.nodes, n.list.length ≤ 1048576 ∧ n.data.length ≤ 1048576 ∧ lensE n.list ≤ 1048576) := qhZ (aG9 hs).2
 clear hs
 have hbw : Below w.heap.size w (w.alloc (.cells #[.slice o f.nodes.length c, .int .i64 f.room] 30)) := (Below.refl _ _).alloc (Nat.le_refl _) _
 have hk0 := heap_alloc_new w (.cells #[.slice o f.nodes.length c, .int .i64 f.room] 30)
 go_enter Tryz.func93, Tryz.ntmps93
 go_wp2
 obtain ⟨W1, hW1⟩ : ∃ W1, w.alloc (.cells #[.slice o f.nodes.length c, .int .i64 f.room] 30) = W1 := ⟨_, rfl⟩
 rw [hW1] at hbw hk0 ⊢
 have s0 := (aA9 hk0 0).trans rfl
 have s1 := (aA9 hk0 1).trans rfl
 have z0 := fun d os => cell_regrown (w := W1) s0 d os
 have z1 := fun d os => cell_regrown (w := W1) s1 d os
 have HB1 := qhZ hbw
 have HK1 := qhZ hk0
 have HF1 := qhZ (HR.out.below hbw)
 clear hW1 hbw hk0
 by_cases c1 : inB 1 40 (f.nodes.length : Int) = true
 · have HC1 := qhZ c1
   have hpos : 0 < f.nodes.length := by have := inB_t c1; omega
   by_cases c2 : inB 0 1000 f.room = true
   · have HC2 := qhZ c2
     by_cases c3 : (sumD f.nodes : Int) ≤ f.room
     · obtain ⟨g, off, lv0, rfl, hg, hcc, -, -⟩ := HH.out 0 hpos
       have d0 := (HB1.out.cell (p := ⟨g, off + 0 * 7, none⟩) hg).trans hcc.c0
       rw [Nat.zero_mul, Nat.add_zero] at d0
       obtain ⟨kd, hkd⟩ : ∃ kd, kd = f.nodes[0].kind := ⟨_, rfl⟩
       rw [← hkd] at d0
       have HKD : Hid (kindAt f.nodes 0 = kd) := qhZ (by rw [hkd]; simp [kindAt, List.getD, hpos])
       have z3 := fun d os => cell_regrown (w := W1) d0 d os
       clear hcc hkd c1 c2
       by_cases c4 : kd = 2
       · subst c4
         refine wp_region_quiet_below (by kernel_rfl) (by kernel_rfl) ?_
         repeat (first | go_big_quiet_step ((first | (go_at_call 61; exact Calls.regrown_of (l1In_is (by first | exact HC1.out | exact HC2.out) _)) | (go_at_call 66; exact Calls.regrown_of (l3Bytes_any f _ _ (HF1.out.below (below_regrown _ _ _)) HSZ.out)))) | quiet_step ((first | (go_at_call 61; exact Calls.regrown_of (l1In_is (by first | exact HC1.out | exact HC2.out) _)) | (go_at_call 66; exact Calls.regrown_of (l3Bytes_any f _ _ (HF1.out.below (below_regrown _ _ _)) HSZ.out)))))
         refine wpQuiet_nil ?_
         intro w5 hwq
         have hb5 : Below W1.heap.size W1 w5 := by
           obtain ⟨pp, rfl⟩ := hwq
           exact below_regrown _ _ _
         have HB5 := qhZ (HB1.out.trans (hb5.mono HB1.out.size))
         have HK5 := qhZ ((hb5.block w.heap.size (aB9 HK1.out)).trans HK1.out)
         clear hwq hb5
         have b0 := (aA9 HK5.out 0).trans rfl
         have b1 := (aA9 HK5.out 1).trans rfl
         clear z0 z1 z3 d0 s0 s1
         go_wp2
         go_loopw [38] (fun i wr => ∃ k : Nat, k ≤ f.nodes.length ∧ i = .int .i64 k ∧ Below w.heap.size w wr ∧ wr.heap[w.heap.size]? = some (.cells #[.slice (some ⟨g, off, none⟩) f.nodes.length c, .int .i64 f.room] 30) ∧ ∀ j (hj : j < f.nodes.length), j < k → nodOk f.nodes f.nodes[j] = true) (fun i _ => f.nodes.length - (intOf i).toNat)
         case atStart => exact ⟨0, Nat.zero_le _, rfl, HB5.out, HK5.out, fun j hj h => absurd h (Nat.not_lt_zero _)⟩
         case round =>
           obtain ⟨k, hk, rfl, hB, hb, hj⟩ := hrel
           have HJ := qhZ hj
           clear hj b0 b1
           by_cases hlt : k < f.nodes.length
           · obtain ⟨g3, f3, lv, e3, hg3, hcc, he, hml⟩ := HH.out k hlt
             obtain ⟨rfl, rfl⟩ : g = g3 ∧ off = f3 := by simpa using e3
             obtain ⟨d0, d1, d2, d3, d4, d5, d6⟩ := hcc.below hB hg3
             have hq2 := HL.out f.nodes[k] (List.getElem_mem hlt)
             obtain ⟨q, hqq⟩ : ∃ q, q = f.nodes[k] := ⟨_, rfl⟩
             have HQ := qhZ hqq
             rw [← hqq] at d0 d1 d2 d3 d4 d5 he hq2
             have HE0 := qhZ he
             obtain ⟨o2, c2, rfl, -, -⟩ := id he
             obtain ⟨hq3, hq4, -⟩ := hq2
             have HA1 : Hid (∀ oo, Below w.heap.size w (wr.alloc oo)) := qhZ (fun oo => hB.alloc hB.size oo)
             have hb3 : (wr.alloc (.cells #[.int .i64 q.kind, .int .i64 q.mode, .int .i64 q.uid, .int .i64 q.gid, .int .i64 q.time, .string (bs q.data), .slice o2 q.list.length c2] 55)).heap[w.heap.size]? = some (.cells #[.slice (some ⟨g, off, none⟩) f.nodes.length c, .int .i64 f.room] 30) := (Below.heap_alloc _ _ _ (aB9 hb)).trans hb
             have HB3 := qhZ hb3
             have t0 := (aA9 hb3 0).trans rfl
             have t1 := (aA9 hb3 1).trans rfl
             have b0 := (aA9 hb 0).trans rfl
             have b1 := (aA9 hb 1).trans rfl
             clear hcc hml hqq he hb3 e3
             by_cases hno : nodOk f.nodes q = true
             · have HNO := qhZ hno
               have HJ2 : Hid (∀ j (hj : j < f.nodes.length), j < k + 1 → nodOk f.nodes f.nodes[j] = true) := qhZ (by
                 intro j hj h
                 rcases Nat.lt_succ_iff_lt_or_eq.1 h with h1 | rfl
                 · exact HJ.out j hj h1
                 · rw [← HQ.out]; exact HNO.out)
               go_wp2_with fail
               refine (l3Node_any f q _ _ _ (HR.out.below (HA1.out _)) (HE0.out.below (HA1.out _)) hl hq3 hq4).mono ?_
               rintro e w6 ⟨rfl, hb6⟩
               rw [HNO.out]
               have HB6 := qhZ ((HA1.out _).trans (hb6.mono (HA1.out _).size))
               have HK6 := qhZ ((hb6.block w.heap.size (aB9 HB3.out)).trans HB3.out)
               clear hb6
               go_wp2
               go_roundw
               case rel => exact ⟨k + 1, hlt, by go_num, HB6.out, HK6.out, HJ2.out⟩
               case measure => simp [intOf]; omega
             · have HNO : Hid (nodOk f.nodes q = false) := qhZ (by simpa using hno)
               have HF : Hid (¬ GoodF f) := qhZ (fun h => hno (by rw [HQ.out]; exact h.2.2.2.2.1 _ (List.getElem_mem hlt)))
               go_wp2_with fail
               refine (l3Node_any f q _ _ _ (HR.out.below (HA1.out _)) (HE0.out.below (HA1.out _)) hl hq3 hq4).mono ?_
               rintro e w6 ⟨rfl, hb6⟩
               rw [HNO.out]
               have HB6 := qhZ ((HA1.out _).trans (hb6.mono (HA1.out _).size))
               clear hb6
               go_wp2
               go_ret
               exact ⟨aK9 (goodF_no HF.out), HB6.out⟩
           · have HALL : Hid (∀ n ∈ f.nodes, nodOk f.nodes n = true) := qhZ (by
               intro n hn
               obtain ⟨j, hj, rfl⟩ := List.getElem_of_mem hn
               exact HJ.out j hj (by omega))
             have HLD := qhZ (lead_of HALL.out)
             have b0 := (aA9 hb 0).trans rfl
             have b1 := (aA9 hb 1).trans rfl
             have HB7 := qhZ hB
             go_wp2_with fail
             refine (l3Met_any f HLD.out hl (fun n hn => (HL.out n hn).1) _ [] 0 _ _ _ rfl (HR.out.below hB) (RdI.nil _) ⟨List.nodup_nil, by simp⟩ (by omega) (by omega)).mono ?_
             rintro e w7 ⟨v7, M7, rfl, hR7, hM7, hb7⟩
             have HM7 : Hid (∀ x, x ∈ M7 ↔ Reach f.nodes 0 x) := qhZ hM7.all
             have hl7 := hM7.nums.len
             have HB8 := qhZ (hB.trans (hb7.mono hB.size))
             have HK8 := qhZ ((hb7.block w.heap.size (aB9 hb)).trans hb)
             have HR7 := qhZ hR7
             obtain ⟨o7, c7, rfl, -, -, -, -⟩ := hR7
             have t0 := (aA9 HK8.out 0).trans rfl
             have t1 := (aA9 HK8.out 1).trans rfl
             clear b0 b1 hM7 hb7 hB hb
             go_wp2
             go_loopw [52] (fun i wr => ∃ k : Nat, k ≤ f.nodes.length ∧ i = .int .i64 k ∧ Below w.heap.size w wr ∧ wr.heap[w.heap.size]? = some (.cells #[.slice (some ⟨g, off, none⟩) f.nodes.length c, .int .i64 f.room] 30) ∧ RdI wr (.slice o7 M7.length c7) M7 ∧ ∀ j, j < k → TailOk f.nodes j) (fun i _ => f.nodes.length - (intOf i).toNat)
             case atStart => exact ⟨0, Nat.zero_le _, rfl, HB8.out, HK8.out, HR7.out, fun j h => absurd h (Nat.not_lt_zero _)⟩
             case round =>
               obtain ⟨k, hk, rfl, hB, hb, hRr, hj⟩ := hrel
               have HJ := qhZ hj
               have HRr := qhZ hRr
               clear hj hRr t0 t1
               by_cases hlt : k < f.nodes.length
               · obtain ⟨g3, f3, lv, e3, hg3, hcc, he, hml⟩ := HH.out k hlt
                 obtain ⟨rfl, rfl⟩ : g = g3 ∧ off = f3 := by simpa using e3
                 obtain ⟨d0, d1, d2, d3, d4, d5, d6⟩ := hcc.below hB hg3
                 obtain ⟨q, hqq⟩ : ∃ q, q = f.nodes[k] := ⟨_, rfl⟩
                 have HKq : Hid (kindAt f.nodes (k : Int) = q.kind) := qhZ (by rw [hqq]; simp [kindAt, List.getD, hlt])
                 rw [← hqq] at d0 d1 d2 d3 d4 d5 he
                 obtain ⟨o2, c2, rfl, -, -⟩ := id he
                 have HA1 : Hid (∀ oo, Below w.heap.size w (wr.alloc oo)) := qhZ (fun oo => hB.alloc hB.size oo)
                 have HA2 : Hid (∀ oo, Below wr.heap.size wr (wr.alloc oo)) := qhZ (fun oo => (Below.refl _ _).alloc (Nat.le_refl _) _)
                 have hb3 : (wr.alloc (.cells #[.int .i64 q.kind, .int .i64 q.mode, .int .i64 q.uid, .int .i64 q.gid, .int .i64 q.time, .string (bs q.data), .slice o2 q.list.length c2] 55)).heap[w.heap.size]? = some (.cells #[.slice (some ⟨g, off, none⟩) f.nodes.length c, .int .i64 f.room] 30) := (Below.heap_alloc _ _ _ (aB9 hb)).trans hb
                 have HB3 := qhZ hb3
                 have t0 := (aA9 hb3 0).trans rfl
                 have t1 := (aA9 hb3 1).trans rfl
                 have b0 := (aA9 hb 0).trans rfl
                 have b1 := (aA9 hb 1).trans rfl
                 have hln : links (k : Int) f.nodes ≤ 1048576 := by have h9 := links_le (k : Int) f.nodes; have h8 := HSZ.out; unfold szF at h8; omega
                 obtain ⟨N, hN⟩ : ∃ N, links (k : Int) f.nodes = N := ⟨_, rfl⟩
                 rw [hN] at hln
                 have HN := qhZ hN
                 clear hcc hml hqq he hb3 e3 hN
                 go_wp2_with fail
                 refine (l3Links_any f _ _ _ (HR.out.below (HA1.out _)) HSZ.out).mono ?_
                 rintro e w9 ⟨rfl, hb9⟩
                 rw [HN.out]
                 have HB9 := qhZ ((HA1.out _).trans (hb9.mono (HA1.out _).size))
                 have HK9 := qhZ ((hb9.block w.heap.size (aB9 HB3.out)).trans HB3.out)
                 have HR9 := qhZ ((HRr.out.below (HA2.out _)).below hb9)
                 have y0 := (aA9 ((hb9.block wr.heap.size (by simp)).trans (heap_alloc_new wr (.cells #[.int .i64 q.kind, .int .i64 q.mode, .int .i64 q.uid, .int .i64 q.gid, .int .i64 q.time, .string (bs q.data), .slice o2 q.list.length c2] 55))) 0).trans rfl
                 clear hb9 d0 d1 d2 d3 d4 d5 d6 t0 t1 b0 b1 HA1 HA2
                 rcases Nat.eq_zero_or_pos k with rfl | hpk
                 · by_cases hn0 : N = 0
                   · subst hn0
                     by_cases hz : q.kind = 0
                     · have HT : Hid (TailOk f.nodes (0)) := qhZ ⟨fun _ => HN.out, fun h => absurd h (Nat.lt_irrefl 0), fun h => absurd (HKq.out.trans hz) h⟩
                       have zb : (q.kind != 0) = false := by simpa using hz
                       have zc : (q.kind == 0) = true := by simpa using hz
                       have HJ2 : Hid (∀ i, i < 0 + 1 → TailOk f.nodes i) := qhZ (by
                         intro i h
                         rcases Nat.lt_succ_iff_lt_or_eq.1 h with h1 | rfl
                         · exact HJ.out i h1
                         · exact HT.out)
                       go_wp2
                       go_roundw
                       case rel => exact ⟨0 + 1, hlt, by go_num, HB9.out, HK9.out, HR9.out, HJ2.out⟩
                       case measure => simp [intOf]; omega
                     · have zb : (q.kind != 0) = true := by simpa using hz
                       have zc : (q.kind == 0) = false := by simpa using hz
                       by_cases hh : hasI M7 ((0 : Nat) : Int) = true
                       · have HHAS := qhZ hh
                         have HT : Hid (TailOk f.nodes (0)) := qhZ ⟨fun _ => HN.out, fun h => absurd h (Nat.lt_irrefl 0), fun _ => (HM7.out _).1 (hasI_iff.1 hh)⟩
                         have HJ2 : Hid (∀ i, i < 0 + 1 → TailOk f.nodes i) := qhZ (by
                           intro i h
                           rcases Nat.lt_succ_iff_lt_or_eq.1 h with h1 | rfl
                           · exact HJ.out i h1
                           · exact HT.out)
                         go_wp2_with fail
                         refine (l1Has_any M7 _ _ _ HR9.out (by omega)).mono ?_
                         rintro e w10 ⟨rfl, rfl⟩
                         first | rw [HHAS.out] | rw [show hasI M7 0 = _ from HHAS.out]
                         go_wp2
                         go_roundw
                         case rel => exact ⟨0 + 1, hlt, by go_num, HB9.out, HK9.out, HR9.out, HJ2.out⟩
                         case measure => simp [intOf]; omega
                       · have HHAS : Hid (hasI M7 ((0 : Nat) : Int) = false) := qhZ (by simpa using hh)
                         have HF : Hid (¬ GoodF f) := qhZ (fun h => by have ht := h.2.2.2.2.2 (0) hlt; exact hh (hasI_iff.2 ((HM7.out _).2 (ht.2.2 (by rw [HKq.out]; exact hz)))))
                         go_wp2_with fail
                         refine (l1Has_any M7 _ _ _ HR9.out (by omega)).mono ?_
                         rintro e w10 ⟨rfl, rfl⟩
                         first | rw [HHAS.out] | rw [show hasI M7 0 = _ from HHAS.out]
                         go_wp2
                         go_ret
                         exact ⟨aK9 (goodF_no HF.out), HB9.out⟩
                   · have hn1 : 0 < N := by omega
                     have HF : Hid (¬ GoodF f) := qhZ (fun h => by have ht := h.2.2.2.2.2 (0) hlt; exact hn0 (by rw [← HN.out]; exact ht.1 rfl))
                     go_wp2
                     go_ret
                     exact ⟨aK9 (goodF_no HF.out), HB9.out⟩
                 · obtain ⟨j, rfl⟩ : ∃ j, k = j + 1 := ⟨k - 1, by omega⟩
                   by_cases hk2 : q.kind = 2
                   · have kb : (q.kind == 2) = true := by simpa using hk2
                     by_cases hn1 : N = 1
                     · subst hn1
                       by_cases hz : q.kind = 0
                       · exact absurd (hk2.symm.trans hz) (by decide)
                       · have zb : (q.kind != 0) = true := by simpa using hz
                         have zc : (q.kind == 0) = false := by simpa using hz
                         by_cases hh : hasI M7 ((j + 1 : Nat) : Int) = true
                         · have HHAS := qhZ hh
                           have HT : Hid (TailOk f.nodes (j + 1)) := qhZ ⟨fun h => absurd h (by omega), fun _ _ => HN.out, fun _ => (HM7.out _).1 (hasI_iff.1 hh)⟩
                           have HJ2 : Hid (∀ i, i < j + 1 + 1 → TailOk f.nodes i) := qhZ (by
                             intro i h
                             rcases Nat.lt_succ_iff_lt_or_eq.1 h with h1 | rfl
                             · exact HJ.out i h1
                             · exact HT.out)
                           go_wp2_with fail
                           refine (l1Has_any M7 _ _ _ HR9.out (by omega)).mono ?_
                           rintro e w10 ⟨rfl, rfl⟩
                           first | rw [HHAS.out] | rw [show hasI M7 ((j : Int) + 1) = _ from HHAS.out]
                           go_wp2
                           go_roundw
                           case rel => exact ⟨j + 1 + 1, hlt, by go_num, HB9.out, HK9.out, HR9.out, HJ2.out⟩
                           case measure => simp [intOf]; omega
                         · have HHAS : Hid (hasI M7 ((j + 1 : Nat) : Int) = false) := qhZ (by simpa using hh)
                           have HF : Hid (¬ GoodF f) := qhZ (fun h => by have ht := h.2.2.2.2.2 (j + 1) hlt; exact hh (hasI_iff.2 ((HM7.out _).2 (ht.2.2 (by rw [HKq.out]; exact hz)))))
                           go_wp2_with fail
                           refine (l1Has_any M7 _ _ _ HR9.out (by omega)).mono ?_
                           rintro e w10 ⟨rfl, rfl⟩
                           first | rw [HHAS.out] | rw [show hasI M7 ((j : Int) + 1) = _ from HHAS.out]
                           go_wp2
                           go_ret
                           exact ⟨aK9 (goodF_no HF.out), HB9.out⟩
                     · have nb : ((N : Int) != 1) = true := by rw [bne_iff_ne]; omega
                       have HF : Hid (¬ GoodF f) := qhZ (fun h => by have ht := h.2.2.2.2.2 (j + 1) hlt; exact hn1 (by rw [← HN.out]; exact ht.2.1 (by omega) (HKq.out.trans hk2)))
                       go_wp2
                       go_ret
                       exact ⟨aK9 (goodF_no HF.out), HB9.out⟩
                   · have kb : (q.kind == 2) = false := by simpa using hk2
                     by_cases hz : q.kind = 0
                     · have HT : Hid (TailOk f.nodes (j + 1)) := qhZ ⟨fun h => absurd h (by omega), fun _ h => absurd (HKq.out.symm.trans h) hk2, fun h => absurd (HKq.out.trans hz) h⟩
                       have zb : (q.kind != 0) = false := by simpa using hz
                       have zc : (q.kind == 0) = true := by simpa using hz
                       have HJ2 : Hid (∀ i, i < j + 1 + 1 → TailOk f.nodes i) := qhZ (by
                         intro i h
                         rcases Nat.lt_succ_iff_lt_or_eq.1 h with h1 | rfl
                         · exact HJ.out i h1
                         · exact HT.out)
                       go_wp2
                       go_roundw
                       case rel => exact ⟨j + 1 + 1, hlt, by go_num, HB9.out, HK9.out, HR9.out, HJ2.out⟩
                       case measure => simp [intOf]; omega
                     · have zb : (q.kind != 0) = true := by simpa using hz
                       have zc : (q.kind == 0) = false := by simpa using hz
                       by_cases hh : hasI M7 ((j + 1 : Nat) : Int) = true
                       · have HHAS := qhZ hh
                         have HT : Hid (TailOk f.nodes (j + 1)) := qhZ ⟨fun h => absurd h (by omega), fun _ h => absurd (HKq.out.symm.trans h) hk2, fun _ => (HM7.out _).1 (hasI_iff.1 hh)⟩
                         have HJ2 : Hid (∀ i, i < j + 1 + 1 → TailOk f.nodes i) := qhZ (by
                           intro i h
                           rcases Nat.lt_succ_iff_lt_or_eq.1 h with h1 | rfl
                           · exact HJ.out i h1
                           · exact HT.out)
                         go_wp2_with fail
                         refine (l1Has_any M7 _ _ _ HR9.out (by omega)).mono ?_
                         rintro e w10 ⟨rfl, rfl⟩
                         first | rw [HHAS.out] | rw [show hasI M7 ((j : Int) + 1) = _ from HHAS.out]
                         go_wp2
                         go_roundw
                         case rel => exact ⟨j + 1 + 1, hlt, by go_num, HB9.out, HK9.out, HR9.out, HJ2.out⟩
                         case measure => simp [intOf]; omega
                       · have HHAS : Hid (hasI M7 ((j + 1 : Nat) : Int) = false) := qhZ (by simpa using hh)
                         have HF : Hid (¬ GoodF f) := qhZ (fun h => by have ht := h.2.2.2.2.2 (j + 1) hlt; exact hh (hasI_iff.2 ((HM7.out _).2 (ht.2.2 (by rw [HKq.out]; exact hz)))))
                         go_wp2_with fail
                         refine (l1Has_any M7 _ _ _ HR9.out (by omega)).mono ?_
                         rintro e w10 ⟨rfl, rfl⟩
                         first | rw [HHAS.out] | rw [show hasI M7 ((j : Int) + 1) = _ from HHAS.out]
                         go_wp2
                         go_ret
                         exact ⟨aK9 (goodF_no HF.out), HB9.out⟩
               · go_wp2
                 go_ret
                 exact ⟨aK9 (goodF_yes ⟨HC1.out, HC2.out, c3, HKD.out, HALL.out, fun k h => HJ.out k (by omega)⟩), hB⟩
       · have HF : Hid (¬ GoodF f) := qhZ (fun h => c4 (by rw [← HKD.out]; exact h.2.2.2.1))
         have c4b : (kd == 2) = false := beq_eq_false_iff_ne.2 c4
         have c4d : (kd != 2) = true := by simpa using c4
         refine wp_region_quiet_below (by kernel_rfl) (by kernel_rfl) ?_
         repeat (first | go_big_quiet_step ((first | (go_at_call 61; exact Calls.regrown_of (l1In_is (by first | exact HC1.out | exact HC2.out) _)) | (go_at_call 66; exact Calls.regrown_of (l3Bytes_any f _ _ (HF1.out.below (below_regrown _ _ _)) HSZ.out)))) | quiet_step ((first | (go_at_call 61; exact Calls.regrown_of (l1In_is (by first | exact HC1.out | exact HC2.out) _)) | (go_at_call 66; exact Calls.regrown_of (l3Bytes_any f _ _ (HF1.out.below (below_regrown _ _ _)) HSZ.out)))))
         refine wpQuiet_nil ?_
         intro w5 hwq
         have hb5 : Below W1.heap.size W1 w5 := by
           obtain ⟨pp, rfl⟩ := hwq
           exact below_regrown _ _ _
         have HB5 := qhZ (HB1.out.trans (hb5.mono HB1.out.size))
         have HK5 := qhZ ((hb5.block w.heap.size (aB9 HK1.out)).trans HK1.out)
         clear hwq hb5
         go_wp2
         go_ret
         exact ⟨aK9 (goodF_no HF.out), HB5.out⟩
     · have HF : Hid (¬ GoodF f) := qhZ (fun h => c3 h.2.2.1)
       have HC2 := qhZ c2
       refine wp_region_quiet_below (by kernel_rfl) (by kernel_rfl) ?_
       repeat (first | go_big_quiet_step ((first | (go_at_call 61; exact Calls.regrown_of (l1In_is (by first | exact HC1.out | exact HC2.out) _)) | (go_at_call 66; exact Calls.regrown_of (l3Bytes_any f _ _ (HF1.out.below (below_regrown _ _ _)) HSZ.out)))) | quiet_step ((first | (go_at_call 61; exact Calls.regrown_of (l1In_is (by first | exact HC1.out | exact HC2.out) _)) | (go_at_call 66; exact Calls.regrown_of (l3Bytes_any f _ _ (HF1.out.below (below_regrown _ _ _)) HSZ.out)))))
       refine wpQuiet_nil ?_
       intro w5 hwq
       have hb5 : Below W1.heap.size W1 w5 := by
         obtain ⟨pp, rfl⟩ := hwq
         exact below_regrown _ _ _
       have HB5 := qhZ (HB1.out.trans (hb5.mono HB1.out.size))
       have HK5 := qhZ ((hb5.block w.heap.size (aB9 HK1.out)).trans HK1.out)
       clear hwq hb5
       go_wp2
       go_ret
       exact ⟨aK9 (goodF_no HF.out), HB5.out⟩
   · have HC2 : Hid (inB 0 1000 f.room = false) := qhZ (by simpa using c2)
     have HF : Hid (¬ GoodF f) := qhZ (fun h => c2 h.2.1)
     refine wp_region_quiet_below (by kernel_rfl) (by kernel_rfl) ?_
     repeat (first | go_big_quiet_step ((first | (go_at_call 61; exact Calls.regrown_of (l1In_is (by first | exact HC1.out | exact HC2.out) _)) | (go_at_call 66; exact Calls.regrown_of (l3Bytes_any f _ _ (HF1.out.below (below_regrown _ _ _)) HSZ.out)))) | quiet_step ((first | (go_at_call 61; exact Calls.regrown_of (l1In_is (by first | exact HC1.out | exact HC2.out) _)) | (go_at_call 66; exact Calls.regrown_of (l3Bytes_any f _ _ (HF1.out.below (below_regrown _ _ _)) HSZ.out)))))
     refine wpQuiet_nil ?_
     intro w5 hwq
     have hb5 : Below W1.heap.size W1 w5 := by
       obtain ⟨pp, rfl⟩ := hwq
       exact below_regrown _ _ _
     have HB5 := qhZ (HB1.out.trans (hb5.mono HB1.out.size))
     have HK5 := qhZ ((hb5.block w.heap.size (aB9 HK1.out)).trans HK1.out)
     clear hwq hb5
     go_wp2
     go_ret
     exact ⟨aK9 (goodF_no HF.out), HB5.out⟩
 · have HC1 : Hid (inB 1 40 (f.nodes.length : Int) = false) := qhZ (by simpa using c1)
   have HF : Hid (¬ GoodF f) := qhZ (fun h => c1 h.1)
   have HC2 := HC1
   refine wp_region_quiet_below (by kernel_rfl) (by kernel_rfl) ?_
   repeat (first | go_big_quiet_step ((first | (go_at_call 61; exact Calls.regrown_of (l1In_is (by first | exact HC1.out | exact HC2.out) _)) | (go_at_call 66; exact Calls.regrown_of (l3Bytes_any f _ _ (HF1.out.below (below_regrown _ _ _)) HSZ.out)))) | quiet_step ((first | (go_at_call 61; exact Calls.regrown_of (l1In_is (by first | exact HC1.out | exact HC2.out) _)) | (go_at_call 66; exact Calls.regrown_of (l3Bytes_any f _ _ (HF1.out.below (below_regrown _ _ _)) HSZ.out)))))
   refine wpQuiet_nil ?_
   intro w5 hwq
   have hb5 : Below W1.heap.size W1 w5 := by
     obtain ⟨pp, rfl⟩ := hwq
     exact below_regrown _ _ _
   have HB5 := qhZ (HB1.out.trans (hb5.mono HB1.out.size))
   have HK5 := qhZ ((hb5.block w.heap.size (aB9 HK1.out)).trans HK1.out)
   clear hwq hb5
   go_wp2
   go_ret
   exact ⟨aK9 (goodF_no HF.out), HB5.out⟩
theorem tupIB {a a' : Int} {b b' : Bool} (h1 : a = a') (h2 : b = b') : Ending.returned (.tuple #[.int .i64 a, .bool b]) = .returned (.tuple #[.int .i64 a', .bool b']) := by rw [h1, h2]
noncomputable def freeF (f : FsD) : Int := if goodF f = true ∧ 0 ≤ bE9 f.nodes then bE9 f.nodes else 0
noncomputable def freeK (f : FsD) : Bool := goodF f && decide (0 ≤ bE9 f.nodes)
structure Pl where
 links : Nat
 dir : Nat
 name : List UInt8
def pl0 : Pl := ⟨0, 0, []⟩
def putP (d : Nat) (P : Int → Pl) (e : Ent) : Int → Pl := fun i => if i = e.node then ⟨(P i).links + 1, d, e.name⟩ else P i
def putsP (d : Nat) (P : Int → Pl) (es : List Ent) : Int → Pl := es.foldl (putP d) P
def plc (ns : List Nod) : Nat → Int → Pl
 | 0 => fun _ => pl0
 | k + 1 => putsP k (plc ns k) (ns.getD k ⟨0, 0, 0, 0, 0, [], []⟩).list
def lastN (i : Int) (s : List UInt8) (es : List Ent) : List UInt8 := es.foldl (fun s e => if e.node = i then e.name else s) s
theorem putsP_take {d : Nat} {P : Int → Pl} {es : List Ent} {j : Nat} (h : j < es.length) : putsP d P (es.take (j + 1)) = putP d (putsP d P (es.take j)) es[j] := by
 unfold putsP
 rw [List.take_succ_eq_append_getElem h, List.foldl_append]
 rfl
theorem linksE_cons (i : Int) (e : Ent) (es : List Ent) : linksE i (e :: es) = one i e + linksE i es := by simp [linksE, tot]
theorem puts_links (d : Nat) (i : Int) : ∀ (es : List Ent) (P : Int → Pl), (putsP d P es i).links = (P i).links + linksE i es
 | [], P => by simp [putsP, linksE, tot]
 | e :: es, P => by
   have h := puts_links d i es (putP d P e)
   have h1 : putsP d P (e :: es) = putsP d (putP d P e) es := rfl
   rw [h1, h, linksE_cons]
   unfold putP one
   by_cases he : i = e.node
   · rw [if_pos he, if_pos he.symm]; simp; omega
   · rw [if_neg he, if_neg (fun x => he x.symm)]; omega
theorem puts_none (d : Nat) (i : Int) : ∀ (es : List Ent) (P : Int → Pl), linksE i es = 0 → putsP d P es i = P i
 | [], P, _ => rfl
 | e :: es, P, h => by
   rw [linksE_cons] at h
   have h1 : putsP d P (e :: es) = putsP d (putP d P e) es := rfl
   rw [h1, puts_none d i es _ (by omega)]
   have h2 : one i e = 0 := by omega
   unfold one at h2
   have h3 : ¬ e.node = i := fun x => by rw [if_pos x] at h2; omega
   unfold putP
   rw [if_neg (fun x => h3 x.symm)]
theorem puts_dir (d : Nat) (i : Int) : ∀ (es : List Ent) (P : Int → Pl), 0 < linksE i es → (putsP d P es i).dir = d
 | [], P, h => by simp [linksE, tot] at h
 | e :: es, P, h => by
   have h1 : putsP d P (e :: es) = putsP d (putP d P e) es := rfl
   rw [h1]
   by_cases h2 : 0 < linksE i es
   · exact puts_dir d i es _ h2
   · rw [puts_none d i es _ (by omega)]
     rw [linksE_cons] at h
     have h3 : 0 < one i e := by omega
     unfold one at h3
     by_cases he : e.node = i
     · unfold putP; rw [if_pos he.symm]
     · rw [if_neg he] at h3; omega
theorem puts_name (d : Nat) (i : Int) : ∀ (es : List Ent) (P : Int → Pl), (putsP d P es i).name = lastN i (P i).name es
 | [], P => rfl
 | e :: es, P => by
   have h1 : putsP d P (e :: es) = putsP d (putP d P e) es := rfl
   rw [h1, puts_name d i es]
   unfold lastN
   rw [List.foldl_cons]
   unfold putP
   by_cases he : e.node = i
   · rw [if_pos he.symm, if_pos he]
   · rw [if_neg (fun x => he x.symm), if_neg he]
theorem lastN_any (i : Int) : ∀ (es : List Ent) (s t : List UInt8), 0 < linksE i es → lastN i s es = lastN i t es
 | [], s, t, h => by simp [linksE, tot] at h
 | e :: es, s, t, h => by
   unfold lastN
   rw [List.foldl_cons, List.foldl_cons]
   by_cases he : e.node = i
   · rw [if_pos he, if_pos he]
   · rw [if_neg he, if_neg he]
     rw [linksE_cons] at h
     have : one i e = 0 := by unfold one; rw [if_neg he]
     exact lastN_any i es s t (by omega)
theorem hasE_iff {i : Int} {es : List Ent} : hasE i es = true ↔ 0 < linksE i es := by
 induction es with
 | nil => simp [hasE, linksE, tot]
 | cons e es ih =>
   have h1 : hasE i (e :: es) = ((e.node == i) || hasE i es) := by simp [hasE]
   rw [h1, linksE_cons, Bool.or_eq_true, ih]
   unfold one
   by_cases he : e.node = i
   · rw [if_pos he]; simp [he]; omega
   · rw [if_neg he]; simp [he]
theorem hasE_mem {i : Int} {es : List Ent} : hasE i es = true ↔ ∃ e ∈ es, e.node = i := by simp [hasE]
theorem aR9 {ns : List Nod} {k : Nat} (h : k < ns.length) : ns.getD k ⟨0, 0, 0, 0, 0, [], []⟩ = ns[k] := by simp [List.getD, h]
theorem links_take {ns : List Nod} {k : Nat} (i : Int) (h : k < ns.length) : links i (ns.take (k + 1)) = links i (ns.take k) + linksE i ns[k].list := tot_take _ h
theorem plc_links (ns : List Nod) (i : Int) : ∀ k, k ≤ ns.length → (plc ns k i).links = links i (ns.take k)
 | 0, _ => by simp [plc, pl0, links, tot]
 | k + 1, h => by
   rw [plc, puts_links, plc_links ns i k (by omega), links_take i (by omega), aR9 (by omega)]
theorem plc_none (ns : List Nod) (i : Int) : ∀ k, k ≤ ns.length → links i (ns.take k) = 0 → plc ns k i = pl0
 | 0, _, _ => rfl
 | k + 1, h, h0 => by
   rw [links_take i (by omega)] at h0
   rw [plc, puts_none _ _ _ _ (by rw [aR9 (by omega)]; omega), plc_none ns i k (by omega) (by omega)]
theorem plc_some (ns : List Nod) (i : Int) : ∀ k, k ≤ ns.length → 0 < links i (ns.take k) → ∃ d, ∃ h : d < ns.length, d < k ∧ (plc ns k i).dir = d ∧ 0 < linksE i ns[d].list ∧ (plc ns k i).name = lastN i [] ns[d].list
 | 0, _, h0 => by simp [links, tot] at h0
 | k + 1, h, h0 => by
   by_cases hk : 0 < linksE i (ns[k]'(by omega)).list
   · refine ⟨k, by omega, by omega, ?_, hk, ?_⟩
     · rw [plc]; exact puts_dir _ _ _ _ (by rw [aR9 (by omega)]; exact hk)
     · rw [plc, puts_name, aR9 (by omega)]; exact lastN_any _ _ _ _ hk
   · rw [links_take i (by omega)] at h0
     obtain ⟨d, hd, h1, h2, h3, h4⟩ := plc_some ns i k (by omega) (by omega)
     refine ⟨d, hd, by omega, ?_, h3, ?_⟩
     · rw [plc, puts_none _ _ _ _ (by rw [aR9 (by omega)]; omega)]; exact h2
     · rw [plc, puts_none _ _ _ _ (by rw [aR9 (by omega)]; omega)]; exact h4
theorem take_all (ns : List Nod) : ns.take ns.length = ns := List.take_of_length_le (Nat.le_refl _)
theorem tot_two {α : Type} (g : α → Nat) {l : List α} {a b : Nat} (hb : b < l.length) (hab : a < b) : g (l[a]'(by omega)) + g l[b] ≤ tot g l := by
 have h1 := tot_take g hb
 have h2 := tot_pre g l (b + 1)
 have h3 := tot_take g (l := l) (k := a) (by omega)
 have h4 := tot_pre g (l.take b) (a + 1)
 rw [List.take_take, Nat.min_eq_left (by omega)] at h4
 omega
theorem one_dir {ns : List Nod} {i : Int} (h : links i ns = 1) {a b : Nat} (ha : a < ns.length) (hb : b < ns.length) (h1 : 0 < linksE i ns[a].list) (h2 : 0 < linksE i ns[b].list) : a = b := by
 rcases Nat.lt_trichotomy a b with hab | hab | hab
 · have h3 := tot_two (fun n : Nod => linksE i n.list) hb hab
   have h4 : tot (fun n : Nod => linksE i n.list) ns = 1 := h
   omega
 · exact hab
 · have h3 := tot_two (fun n : Nod => linksE i n.list) ha hab
   have h4 : tot (fun n : Nod => linksE i n.list) ns = 1 := h
   omega
theorem parent_is {ns : List Nod} {i : Int} (h : links i ns = 1) {d : Nat} (hd : d < ns.length) (h1 : 0 < linksE i ns[d].list) : parentOf i ns = d := by
 unfold parentOf
 rw [findIdx_is (p := fun n => hasE i n.list) hd (hasE_iff.2 h1) (fun j hj hjd => by
   cases hh : hasE i ns[j].list with
   | false => rfl
   | true => exact absurd (one_dir h hj hd (hasE_iff.1 hh) h1) (by omega))]
def upN (P : Int → Pl) : Nat → Int → Int
 | 0, i => i
 | n + 1, i => ((P (upN P n i)).dir : Int)
theorem upN_add (P : Int → Pl) (i : Int) (m : Nat) : ∀ n, upN P (n + m) i = upN P n (upN P m i)
 | 0 => by rw [Nat.zero_add]; rfl
 | n + 1 => by
   rw [show n + 1 + m = (n + m) + 1 by omega, upN, upN_add P i m n, upN]
theorem upN_one (P : Int → Pl) (i : Int) (n : Nat) : upN P (n + 1) i = upN P n ((P i).dir : Int) := upN_add P i 1 n
theorem upN_zero {P : Int → Pl} (h : (P 0).dir = 0) : ∀ n, upN P n 0 = 0
 | 0 => rfl
 | n + 1 => by rw [upN, upN_zero h n, h]; rfl
theorem kids_at {ns : List Nod} {d : Nat} (h : d < ns.length) (i : Int) : i ∈ kids ns (d : Int) ↔ 0 < linksE i ns[d].list := by
 rw [← hasE_iff, hasE_mem]
 unfold kids
 rw [show ((d : Int)).toNat = d by simp, aR9 h, List.mem_map]
theorem links_pos {ns : List Nod} {i : Int} {d : Nat} (h : d < ns.length) (h1 : 0 < linksE i ns[d].list) : 0 < links i ns := by
 have h2 := tot_take (fun n : Nod => linksE i n.list) h
 have h3 := tot_pre (fun n : Nod => linksE i n.list) ns (d + 1)
 have h4 : tot (fun n : Nod => linksE i n.list) ns = links i ns := rfl
 omega
def entOkI (count : Int) (es : List Ent) (k : Nat) : Bool :=
 nameB (es.getD k ⟨[], 0⟩).name && (k == 0 || Op.bytesLess (es.getD (k - 1) ⟨[], 0⟩).name (es.getD k ⟨[], 0⟩).name) && inB 0 (count - 1) (es.getD k ⟨[], 0⟩).node
def entsOkI (count : Int) (es : List Ent) : Bool := (List.range es.length).all (entOkI count es)
def bP9 (count : Int) (x : Nod) : Bool :=
 if x.kind = 0 then x.mode == 0 && (x.uid == 0 && (x.gid == 0 && (x.time == 0 && (x.data.isEmpty && x.list.isEmpty))))
 else inB 0 511 x.mode && (inB 0 99 x.uid && (inB 0 99 x.gid && (inB 0 1000000 x.time &&
   (if x.kind = 1 then decide (x.data.length ≤ 60) && x.list.isEmpty
    else if x.kind = 2 then x.data.isEmpty && entsOkI count x.list
    else x.kind == 3 && (goodB x.data && x.list.isEmpty)))))
theorem entsOk_iff {ns : List Nod} {es : List Ent} : entsOk ns es = true ↔ entsOkI ns.length es = true ∧ ∀ e ∈ es, e.node ≠ 0 ∧ kindAt ns e.node ≠ 0 := by
 unfold entsOk entsOkI
 simp only [List.all_eq_true, List.mem_range]
 constructor
 · intro h
   refine ⟨fun k hk => ?_, fun e he => ?_⟩
   · have := h k hk
     unfold entOk at this
     unfold entOkI
     simp only [Bool.and_eq_true] at this ⊢
     refine ⟨this.1.1, ?_⟩
     have h2 := inB_t this.1.2
     exact (inB_mk (by omega) (by omega)).symm
   · obtain ⟨k, hk, rfl⟩ := List.getElem_of_mem he
     have := h k hk
     unfold entOk at this
     simp only [Bool.and_eq_true, List.getD, hk, List.getElem?_eq_getElem, Option.getD_some] at this
     have h2 := inB_t this.1.2
     refine ⟨by omega, ?_⟩
     have h3 := this.2
     simp at h3
     exact h3
 · rintro ⟨h, h2⟩ k hk
   have h1 := h k hk
   obtain ⟨h3, h4⟩ := h2 es[k] (List.getElem_mem hk)
   unfold entOk
   unfold entOkI at h1
   simp only [Bool.and_eq_true] at h1 ⊢
   have e1 : es.getD k ⟨[], 0⟩ = es[k] := by simp [List.getD, hk]
   rw [e1] at h1 ⊢
   have h5 := inB_t h1.2
   refine ⟨⟨h1.1, (inB_mk (by omega) (by omega)).symm⟩, ?_⟩
   simp [h4]
theorem nodOk_iff {ns : List Nod} {x : Nod} : nodOk ns x = true ↔ bP9 ns.length x = true ∧ ∀ e ∈ x.list, e.node ≠ 0 ∧ kindAt ns e.node ≠ 0 := by
 unfold nodOk bP9
 by_cases h0 : x.kind = 0
 · rw [if_pos h0, if_pos h0]
   constructor
   · intro h
     refine ⟨h, fun e he => ?_⟩
     simp only [Bool.and_eq_true, List.isEmpty_iff] at h
     rw [h.2.2.2.2.2] at he; cases he
   · exact fun h => h.1
 · rw [if_neg h0, if_neg h0]
   by_cases h1 : x.kind = 1
   · rw [if_pos h1, if_pos h1]
     constructor
     · intro h
       refine ⟨h, fun e he => ?_⟩
       simp only [Bool.and_eq_true, List.isEmpty_iff] at h
       rw [h.2.2.2.2.2] at he; cases he
     · exact fun h => h.1
   · rw [if_neg h1, if_neg h1]
     by_cases h2 : x.kind = 2
     · rw [if_pos h2, if_pos h2]
       simp only [Bool.and_eq_true, entsOk_iff, and_assoc]
     · rw [if_neg h2, if_neg h2]
       constructor
       · intro h
         refine ⟨h, fun e he => ?_⟩
         simp only [Bool.and_eq_true, List.isEmpty_iff] at h
         rw [h.2.2.2.2.2.2] at he; cases he
       · exact fun h => h.1
theorem nodOkI_dir {c : Int} {x : Nod} (h : bP9 c x = true) (hl : x.list ≠ []) : x.kind = 2 ∧ entsOkI c x.list = true := by
 unfold bP9 at h
 by_cases h0 : x.kind = 0
 · rw [if_pos h0] at h
   simp only [Bool.and_eq_true, List.isEmpty_iff] at h
   exact absurd h.2.2.2.2.2 hl
 · rw [if_neg h0] at h
   by_cases h1 : x.kind = 1
   · rw [if_pos h1] at h
     simp only [Bool.and_eq_true, List.isEmpty_iff] at h
     exact absurd h.2.2.2.2.2 hl
   · rw [if_neg h1] at h
     by_cases h2 : x.kind = 2
     · rw [if_pos h2] at h
       simp only [Bool.and_eq_true] at h
       exact ⟨h2, h.2.2.2.2.2⟩
     · rw [if_neg h2] at h
       simp only [Bool.and_eq_true, List.isEmpty_iff] at h
       exact absurd h.2.2.2.2.2.2 hl
theorem entsOkI_in {c : Int} {es : List Ent} (h : entsOkI c es = true) {e : Ent} (he : e ∈ es) : 0 ≤ e.node ∧ e.node < c := by
 obtain ⟨k, hk, rfl⟩ := List.getElem_of_mem he
 unfold entsOkI at h
 rw [List.all_eq_true] at h
 have h1 := h k (List.mem_range.2 hk)
 unfold entOkI at h1
 simp only [Bool.and_eq_true] at h1
 have e1 : es.getD k ⟨[], 0⟩ = es[k] := by simp [List.getD, hk]
 rw [e1] at h1
 have := inB_t h1.2
 omega
theorem leadI {ns : List Nod} (h : ∀ n ∈ ns, bP9 ns.length n = true) : Lead ns := by
 intro n hn e he
 have h1 := (nodOkI_dir (h n hn) (fun x => by rw [x] at he; cases he)).2
 exact entsOkI_in h1 he
def wellB (ns : List Nod) (P : Int → Pl) (k : Nat) : Bool :=
 if k = 0 ∨ kindAt ns k = 0 then (P k).links == 0
 else if kindAt ns k = 2 then (P k).links == 1 && upN P ns.length k == 0
 else decide (1 ≤ (P k).links)
def bH9 (ns : List Nod) : Int → Pl := plc ns ns.length
def GoodI (f : FsD) : Prop :=
 inB 1 40 (f.nodes.length : Int) = true ∧ inB 0 1000 f.room = true ∧ (∀ n ∈ f.nodes, bP9 f.nodes.length n = true) ∧ kindAt f.nodes 0 = 2 ∧ (∀ k, k < f.nodes.length → wellB f.nodes (bH9 f.nodes) k = true) ∧ (sumD f.nodes : Int) ≤ f.room
theorem pl_links (ns : List Nod) (i : Int) : (bH9 ns i).links = links i ns := by
 unfold bH9; rw [plc_links ns i _ (Nat.le_refl _), take_all]
theorem pl_none {ns : List Nod} {i : Int} (h : links i ns = 0) : bH9 ns i = pl0 := plc_none ns i _ (Nat.le_refl _) (by rw [take_all]; exact h)
theorem pl_some {ns : List Nod} {i : Int} (h : 0 < links i ns) : ∃ d, ∃ h : d < ns.length, (bH9 ns i).dir = d ∧ 0 < linksE i ns[d].list ∧ (bH9 ns i).name = lastN i [] ns[d].list := by
 obtain ⟨d, h1, _, h2⟩ := plc_some ns i _ (Nat.le_refl _) (by rw [take_all]; exact h)
 exact ⟨d, h1, h2⟩
theorem pl_dir_lt {ns : List Nod} (hn : 0 < ns.length) (i : Int) : (bH9 ns i).dir < ns.length := by
 by_cases h : 0 < links i ns
 · obtain ⟨d, hd, e, _⟩ := pl_some h
   rw [e]; exact hd
 · rw [pl_none (by omega)]; exact hn
theorem upN_in {ns : List Nod} (hn : 0 < ns.length) {i : Int} (h0 : 0 ≤ i) (h1 : i < ns.length) : ∀ n, 0 ≤ upN (bH9 ns) n i ∧ upN (bH9 ns) n i < ns.length
 | 0 => ⟨h0, h1⟩
 | n + 1 => by
   have := pl_dir_lt hn (upN (bH9 ns) n i)
   rw [upN]; omega
theorem upN_short {ns : List Nod} (hn : 0 < ns.length) (hz : (bH9 ns 0).dir = 0) {i : Int} (h0 : 0 ≤ i) (h1 : i < ns.length) {m : Nat} (hm : upN (bH9 ns) m i = 0) : upN (bH9 ns) ns.length i = 0 := by
 obtain ⟨P, hP⟩ : ∃ P, P = bH9 ns := ⟨_, rfl⟩
 have hin := upN_in hn h0 h1
 rw [← hP] at hm hz hin ⊢
 have more : ∀ a b, upN P a i = 0 → a ≤ b → upN P b i = 0 := fun a b ha hab => by
   have := upN_add P i a (b - a)
   rw [show b - a + a = b by omega, ha, upN_zero hz] at this
   exact this
 by_cases hfirst : ∃ m, upN P m i = 0 ∧ ∀ j, j < m → upN P j i ≠ 0
 · obtain ⟨m, h2, h3⟩ := hfirst
   have hno : Nums ns.length ((List.range m).map fun j => upN P j i) := by
     refine ⟨?_, fun x hx => ?_⟩
     · rw [List.Nodup, List.pairwise_map]
       refine List.Pairwise.imp_of_mem ?_ (List.pairwise_lt_range (n := m))
       intro a b ha hb hab e
       rw [List.mem_range] at ha hb
       have h4 := upN_add P i a (m - b)
       have h5 := upN_add P i b (m - b)
       rw [← e, ← h4, show m - b + b = m by omega, h2] at h5
       exact h3 (m - b + a) (by omega) h5.symm
     · obtain ⟨j, _, rfl⟩ := List.mem_map.1 hx
       exact hin j
   have := hno.len
   simp at this
   exact more m _ h2 this
 · exfalso
   have all : ∀ k, ∀ j, j < k → upN P j i ≠ 0 := by
     intro k
     induction k with
     | zero => intro j hj; omega
     | succ k ih =>
       intro j hj e
       exact hfirst ⟨j, e, fun a ha => ih a (by omega)⟩
   exact all (m + 1) m (by omega) hm
theorem good_iff (f : FsD) : GoodI f ↔ GoodF f := by
 obtain ⟨ns, room⟩ := f
 constructor
 · rintro ⟨h1, h2, h3, h4, h5, h6⟩
   simp only at h1 h2 h3 h4 h5 h6
   have hn : 0 < ns.length := by have := inB_t h1; omega
   have hlead := leadI h3
   have hw : ∀ k, k < ns.length → (k = 0 ∨ kindAt ns k = 0 → links k ns = 0) ∧ (k ≠ 0 → kindAt ns k = 2 → links k ns = 1 ∧ upN (bH9 ns) ns.length k = 0) ∧ (k ≠ 0 → kindAt ns k ≠ 0 → 1 ≤ links k ns) := by
     intro k hk
     have h := h5 k hk
     unfold wellB at h
     rw [pl_links] at h
     by_cases ha : k = 0 ∨ kindAt ns k = 0
     · rw [if_pos ha] at h
       have h7 : links k ns = 0 := by simpa using h
       refine ⟨fun _ => h7, fun hk0 hk2 => ?_, fun hk0 hkk => ?_⟩
       · rcases ha with ha | ha
         · exact absurd ha hk0
         · rw [ha] at hk2; omega
       · rcases ha with ha | ha
         · exact absurd ha hk0
         · exact absurd ha hkk
     · rw [if_neg ha] at h
       refine ⟨fun hb => absurd hb ha, fun hk0 hk2 => ?_, fun hk0 hkk => ?_⟩
       · rw [if_pos hk2] at h
         simpa using h
       · by_cases hk2 : kindAt ns k = 2
         · rw [if_pos hk2] at h
           have : links k ns = 1 := by simp at h; exact h.1
           omega
         · rw [if_neg hk2] at h
           simpa using h
   have hpos : ∀ n ∈ ns, ∀ e ∈ n.list, 0 < links e.node ns := by
     intro n hn e he
     obtain ⟨d, hd, rfl⟩ := List.getElem_of_mem hn
     exact links_pos hd (hasE_iff.1 (hasE_mem.2 ⟨e, he, rfl⟩))
   have hent : ∀ n ∈ ns, ∀ e ∈ n.list, e.node ≠ 0 ∧ kindAt ns e.node ≠ 0 := by
     intro n hn e he
     obtain ⟨l0, l1⟩ := hlead n hn e he
     have hp := hpos n hn e he
     obtain ⟨k, hk⟩ : ∃ k : Nat, e.node = k := ⟨e.node.toNat, by omega⟩
     rw [hk] at l1 hp ⊢
     have hw0 := (hw k (by omega)).1
     refine ⟨fun h => ?_, fun h => ?_⟩
     · have := hw0 (.inl (by omega)); omega
     · have := hw0 (.inr h); omega
   have hnod : ∀ n ∈ ns, nodOk ns n = true := fun n hn => nodOk_iff.2 ⟨h3 n hn, hent n hn⟩
   have h00 : links 0 ns = 0 := (hw 0 hn).1 (.inl rfl)
   have climb : ∀ m, ∀ k : Nat, k < ns.length → kindAt ns k ≠ 0 → upN (bH9 ns) m k = 0 → Reach ns 0 k := by
     intro m
     induction m with
     | zero =>
       intro k hk _ h
       rw [upN] at h
       rw [h]; exact .refl
     | succ m ih =>
       intro k hk hkk h
       by_cases hk0 : k = 0
       · subst hk0; exact .refl
       · have hl := (hw k hk).2.2 hk0 hkk
         obtain ⟨d, hd, e1, e2, _⟩ := pl_some (ns := ns) (i := k) (by omega)
         rw [upN_one, e1] at h
         have hdir : ns[d].kind = 2 := (nodOkI_dir (h3 _ (List.getElem_mem hd)) (fun x => by rw [x] at e2; simp [linksE, tot] at e2)).1
         have hdk : kindAt ns d = 2 := by rw [← hdir]; simp [kindAt, List.getD, hd]
         exact .step (ih d hd (by omega) h) ((kids_at hd _).2 e2)
   refine ⟨h1, h2, h6, h4, hnod, fun k hk => ⟨fun h => by subst h; exact h00, fun hk0 hk2 => ((hw k hk).2.1 (by omega) hk2).1, fun hkk => ?_⟩⟩
   by_cases hk0 : k = 0
   · subst hk0; exact .refl
   · by_cases hk2 : kindAt ns k = 2
     · exact climb _ k hk hkk ((hw k hk).2.1 hk0 hk2).2
     · have hl := (hw k hk).2.2 hk0 hkk
       obtain ⟨d, hd, e1, e2, _⟩ := pl_some (ns := ns) (i := k) (by omega)
       have hdir : ns[d].kind = 2 := (nodOkI_dir (h3 _ (List.getElem_mem hd)) (fun x => by rw [x] at e2; simp [linksE, tot] at e2)).1
       have hdk : kindAt ns d = 2 := by rw [← hdir]; simp [kindAt, List.getD, hd]
       refine .step (b := d) ?_ ((kids_at hd _).2 e2)
       by_cases hd0 : d = 0
       · subst hd0; exact .refl
       · exact climb _ d hd (by omega) ((hw d hd).2.1 hd0 hdk).2
 · rintro ⟨h1, h2, h3, h4, h5, h6⟩
   simp only at h1 h2 h3 h4 h5 h6
   have hn : 0 < ns.length := by have := inB_t h1; omega
   have h00 : links 0 ns = 0 := (h6 0 hn).1 rfl
   have hz : (bH9 ns 0).dir = 0 := by rw [pl_none h00]; rfl
   have hfree : ∀ k : Nat, k < ns.length → kindAt ns k = 0 → links k ns = 0 := by
     intro k hk hkk
     rcases Nat.eq_zero_or_pos (links k ns) with h | h
     · exact h
     · obtain ⟨d, hd, _, e2, _⟩ := pl_some h
       obtain ⟨e, he, hek⟩ := hasE_mem.1 (hasE_iff.2 e2)
       have := ((nodOk_iff.1 (h5 _ (List.getElem_mem hd))).2 e he).2
       rw [hek] at this
       exact absurd hkk this
   have hdirs : ∀ d : Nat, ∀ h : d < ns.length, ns[d].list ≠ [] → kindAt ns d = 2 := by
     intro d hd hl
     have := (nodOkI_dir ((nodOk_iff.1 (h5 _ (List.getElem_mem hd))).1) hl).1
     rw [← this]; simp [kindAt, List.getD, hd]
   have hlead := leadI (ns := ns) (fun n hn => (nodOk_iff.1 (h5 n hn)).1)
   have down : ∀ x, Reach ns 0 x → (x = 0 ∨ links x ns = 1) → ∃ m, upN (bH9 ns) m x = 0 := by
     intro x hr
     induction hr with
     | refl => exact fun _ => ⟨0, rfl⟩
     | @step b c hb hc ih =>
       intro hx
       rcases hx with hx | hx
       · subst hx; exact ⟨0, rfl⟩
       · -- b is a directory
         have hbd : ∃ d : Nat, ∃ h : d < ns.length, b = d := by
           cases hb with
           | refl => exact ⟨0, hn, rfl⟩
           | @step b' _ hb' hbk =>
             unfold kids at hbk
             obtain ⟨e, he, heb⟩ := List.mem_map.1 hbk
             have hlt : b'.toNat < ns.length := by
               by_cases hq : b'.toNat < ns.length
               · exact hq
               · have : ns.getD b'.toNat ⟨0, 0, 0, 0, 0, [], []⟩ = ⟨0, 0, 0, 0, 0, [], []⟩ := by simp [List.getD, List.getElem?_eq_none (Nat.le_of_not_lt hq)]
                 rw [this] at he; cases he
             rw [aR9 hlt] at he
             obtain ⟨l0, l1⟩ := hlead _ (List.getElem_mem hlt) e he
             exact ⟨b.toNat, by omega, by omega⟩
         obtain ⟨d, hd, rfl⟩ := hbd
         have e2 := (kids_at hd c).1 hc
         have hdk := hdirs d hd (fun x => by rw [x] at e2; simp [linksE, tot] at e2)
         obtain ⟨d2, hd2, e3, e4, _⟩ := pl_some (ns := ns) (i := c) (by omega)
         have hdd := one_dir hx hd2 hd e4 e2
         subst hdd
         obtain ⟨m, hm⟩ := ih (by
           by_cases hd0 : d2 = 0
           · exact .inl (by omega)
           · exact .inr ((h6 d2 hd).2.1 (by omega) hdk))
         exact ⟨m + 1, by rw [upN_one, e3]; exact hm⟩
   refine ⟨h1, h2, fun n hn => (nodOk_iff.1 (h5 n hn)).1, h4, fun k hk => ?_, h3⟩
   simp only at hk ⊢
   unfold wellB
   rw [pl_links]
   by_cases ha : k = 0 ∨ kindAt ns k = 0
   · rw [if_pos ha]
     rcases ha with ha | ha
     · subst ha; simpa using h00
     · simpa using hfree k hk ha
   · rw [if_neg ha]
     have hk0 : k ≠ 0 := fun h => ha (.inl h)
     have hkk : kindAt ns k ≠ 0 := fun h => ha (.inr h)
     have hreach := (h6 k hk).2.2 hkk
     by_cases hk2 : kindAt ns k = 2
     · rw [if_pos hk2]
       have hl := (h6 k hk).2.1 (by omega) hk2
       obtain ⟨m, hm⟩ := down k hreach (.inr hl)
       have := upN_short hn hz (by omega) (by omega) hm
       simp [hl, this]
     · rw [if_neg hk2]
       cases hreach with
       | refl => exact absurd rfl hk0
       | @step b _ hb hbk =>
         unfold kids at hbk
         obtain ⟨e, he, heb⟩ := List.mem_map.1 hbk
         have hlt : b.toNat < ns.length := by
           by_cases hq : b.toNat < ns.length
           · exact hq
           · have : ns.getD b.toNat ⟨0, 0, 0, 0, 0, [], []⟩ = ⟨0, 0, 0, 0, 0, [], []⟩ := by simp [List.getD, List.getElem?_eq_none (Nat.le_of_not_lt hq)]
             rw [this] at he; cases he
         rw [aR9 hlt] at he
         have := links_pos (i := k) hlt (hasE_iff.1 (hasE_mem.2 ⟨e, he, heb⟩))
         simp; omega
theorem goodF_of {f : FsD} (h : GoodI f) : true = goodF f := goodF_yes ((good_iff f).1 h)
theorem goodF_not {f : FsD} (h : ¬ GoodI f) : false = goodF f := goodF_no (fun x => h ((good_iff f).2 x))
theorem isMode_any (n : Int) (w : World) : Calls Tryz.prog 69 #[.int .i64 n] w fun e w' => e = .returned (.bool (inB 0 511 n)) ∧ w = w' := by
 by_cases h0 : 0 ≤ n
 · by_cases h1 : n ≤ 511
   · go_enter Tryz.func69, Tryz.ntmps69
     go_wp2
     go_ret
     exact ⟨aK9 (inB_mk h0 h1), rfl⟩
   · go_enter Tryz.func69, Tryz.ntmps69
     go_wp2
     go_ret
     exact ⟨aK9 (inB_no (by omega)), rfl⟩
 · go_enter Tryz.func69, Tryz.ntmps69
   go_wp2
   go_ret
   exact ⟨aK9 (inB_no (by omega)), rfl⟩
theorem triples (m : Int) (w : World) (h0 : 0 ≤ m) (h1 : m ≤ 511) :
   Calls Tryz.prog 188 #[.int .i64 m] w fun e w' => e = .returned (.tuple #[.int .i64 (m / 64), .int .i64 (m / 8 % 8), .int .i64 (m % 8)]) ∧ w = w' := by
 have H1 := and7 (m / 64) (by omega) (by omega)
 have H2 := and7 (m / 8) (by omega) (by omega)
 have H3 := and7 m (by omega) (by omega)
 have H4 : m / 64 % 8 = m / 64 := by omega
 go_enter Tryz.func188, Tryz.ntmps188
 go_wp2
 go_ret3
 exact ⟨rfl, rfl⟩
theorem isId_any (n : Int) (w : World) : Calls Tryz.prog 135 #[.int .i64 n] w fun e w' => e = .returned (.bool (inB 0 99 n)) ∧ w = w' := by
 by_cases h0 : 0 ≤ n
 · by_cases h1 : n ≤ 99
   · go_enter Tryz.func135, Tryz.ntmps135
     go_wp2
     go_ret
     exact ⟨aK9 (inB_mk h0 h1), rfl⟩
   · go_enter Tryz.func135, Tryz.ntmps135
     go_wp2
     go_ret
     exact ⟨aK9 (inB_no (by omega)), rfl⟩
 · go_enter Tryz.func135, Tryz.ntmps135
   go_wp2
   go_ret
   exact ⟨aK9 (inB_no (by omega)), rfl⟩
theorem isTriple_any (n : Int) (w : World) : Calls Tryz.prog 183 #[.int .i64 n] w fun e w' => e = .returned (.bool (inB 0 7 n)) ∧ w = w' := by
 by_cases h0 : 0 ≤ n
 · by_cases h1 : n ≤ 7
   · go_enter Tryz.func183, Tryz.ntmps183
     go_wp2
     go_ret
     exact ⟨aK9 (inB_mk h0 h1), rfl⟩
   · go_enter Tryz.func183, Tryz.ntmps183
     go_wp2
     go_ret
     exact ⟨aK9 (inB_no (by omega)), rfl⟩
 · go_enter Tryz.func183, Tryz.ntmps183
   go_wp2
   go_ret
   exact ⟨aK9 (inB_no (by omega)), rfl⟩
def credB (u g : Int) : Bool := inB 0 99 u && inB 0 99 g
theorem goodCred_any (u g : Int) (w : World) : Calls Tryz.prog 97 #[.agg #[.int .i64 u, .int .i64 g]] w fun e w' => e = .returned (.bool (credB u g)) ∧ Below w.heap.size w w' := by
 by_cases h0 : inB 0 99 u = true
 · go_enter Tryz.func97, Tryz.ntmps97
   go_wp2_with (go_at_call 135; refine (isId_any _ _).mono ?_; rintro e w' ⟨rfl, rfl⟩)
   go_ret
   exact ⟨aK9 (by simp [credB, h0]), by go_grown⟩
 · have h0' : inB 0 99 u = false := by simpa using h0
   go_enter Tryz.func97, Tryz.ntmps97
   go_wp2_with (go_at_call 135; refine (isId_any _ _).mono ?_; rintro e w' ⟨rfl, rfl⟩)
   go_ret
   exact ⟨aK9 (by simp [credB, h0']), by go_grown⟩
theorem l1Cred_any (u g : Int) (w : World) : Calls Tryz.prog 94 #[.agg #[.int .i64 u, .int .i64 g]] w fun e w' => e = .returned (.bool (credB u g)) ∧ Below w.heap.size w w' := by
 by_cases h0 : inB 0 99 u = true
 · go_enter Tryz.func94, Tryz.ntmps94
   go_wp2_with (go_at_call 61; refine (l1In_any _ _ _ _).mono ?_; rintro e w' ⟨rfl, rfl⟩)
   go_ret
   exact ⟨aK9 (by simp [credB, h0]), by go_grown⟩
 · have h0' : inB 0 99 u = false := by simpa using h0
   go_enter Tryz.func94, Tryz.ntmps94
   go_wp2_with (go_at_call 61; refine (l1In_any _ _ _ _).mono ?_; rintro e w' ⟨rfl, rfl⟩)
   go_ret
   exact ⟨aK9 (by simp [credB, h0']), by go_grown⟩
def tri (u g m uid gid : Int) : Int := if u = uid then m / 64 else if g = gid then m / 8 % 8 else m % 8
theorem tri_own {u g m uid gid : Int} (h : u = uid) : tri u g m uid gid = m / 64 := by simp [tri, h]
theorem tri_grp {u g m uid gid : Int} (h : u ≠ uid) (k : g = gid) : tri u g m uid gid = m / 8 % 8 := by simp [tri, h, k]
theorem tri_oth {u g m uid gid : Int} (h : u ≠ uid) (k : g ≠ gid) : tri u g m uid gid = m % 8 := by simp [tri, h, k]
theorem tripleFor_any (u g m uid gid : Int) (w : World) (h0 : 0 ≤ m) (h1 : m ≤ 511) :
   Calls Tryz.prog 184 #[.agg #[.int .i64 u, .int .i64 g], .int .i64 m, .int .i64 uid, .int .i64 gid] w fun e w' => e = .returned (.int .i64 (tri u g m uid gid)) ∧ Below w.heap.size w w' := by
 by_cases hu : u = uid
 · have hb : (u == uid) = true := by simpa using hu
   have HU := qhZ hu
   clear hu
   go_enter Tryz.func184, Tryz.ntmps184
   go_wp2_with (go_at_call 188; refine (triples _ _ h0 h1).mono ?_; rintro e w' ⟨rfl, rfl⟩)
   go_ret
   exact ⟨ret_int (tri_own HU.out).symm, by go_grown⟩
 · have hb : (u == uid) = false := by simpa using hu
   have HU := qhZ hu
   clear hu
   by_cases hg : g = gid
   · have hb2 : (g == gid) = true := by simpa using hg
     have HG := qhZ hg
     clear hg
     go_enter Tryz.func184, Tryz.ntmps184
     go_wp2_with (go_at_call 188; refine (triples _ _ h0 h1).mono ?_; rintro e w' ⟨rfl, rfl⟩)
     go_ret
     exact ⟨ret_int (tri_grp HU.out HG.out).symm, by go_grown⟩
   · have hb2 : (g == gid) = false := by simpa using hg
     have HG := qhZ hg
     clear hg
     go_enter Tryz.func184, Tryz.ntmps184
     go_wp2_with (go_at_call 188; refine (triples _ _ h0 h1).mono ?_; rintro e w' ⟨rfl, rfl⟩)
     go_ret
     exact ⟨ret_int (tri_oth HU.out HG.out).symm, by go_grown⟩
def mayB (u g m uid gid want : Int) : Bool := u == 0 || bits BinOp.and IntKind.i64 (tri u g m uid gid) want == want
theorem mayB_zero {u g m uid gid want : Int} (h : u = 0) : mayB u g m uid gid want = true := by simp [mayB, h]
theorem mayB_else {u g m uid gid want : Int} (h : u ≠ 0) : mayB u g m uid gid want = (bits BinOp.and IntKind.i64 (tri u g m uid gid) want == want) := by simp [mayB, h]
theorem l1May_any (u g m uid gid want : Int) (w : World) (h0 : 0 ≤ m) (h1 : m ≤ 511) :
   Calls Tryz.prog 142 #[.agg #[.int .i64 u, .int .i64 g], .int .i64 m, .int .i64 uid, .int .i64 gid, .int .i64 want] w fun e w' => e = .returned (.bool (mayB u g m uid gid want)) ∧ Below w.heap.size w w' := by
 have H2 := and7 (m / 8) (by omega) (by omega)
 have H3 := and7 m (by omega) (by omega)
 by_cases hz : u = 0
 · have hz1 : (u == 0) = true := by simpa using hz
   have HZ := qhZ hz
   clear hz
   go_enter Tryz.func142, Tryz.ntmps142
   go_wp2
   go_ret
   exact ⟨aK9 (mayB_zero HZ.out).symm, by go_grown⟩
 · have hz1 : (u == 0) = false := by simpa using hz
   have HZ := qhZ hz
   clear hz
   by_cases hu : u = uid
   · have hb : (u == uid) = true := by simpa using hu
     have HU := qhZ hu
     clear hu
     go_enter Tryz.func142, Tryz.ntmps142
     go_wp2
     go_ret
     exact ⟨aK9 (by rw [mayB_else HZ.out, tri_own HU.out]), by go_grown⟩
   · have hb : (u == uid) = false := by simpa using hu
     have HU := qhZ hu
     clear hu
     by_cases hg : g = gid
     · have hb2 : (g == gid) = true := by simpa using hg
       have HG := qhZ hg
       clear hg
       go_enter Tryz.func142, Tryz.ntmps142
       go_wp2
       go_ret
       exact ⟨aK9 (by rw [mayB_else HZ.out, tri_grp HU.out HG.out]), by go_grown⟩
     · have hb2 : (g == gid) = false := by simpa using hg
       have HG := qhZ hg
       clear hg
       go_enter Tryz.func142, Tryz.ntmps142
       go_wp2
       go_ret
       exact ⟨aK9 (by rw [mayB_else HZ.out, tri_oth HU.out HG.out]), by go_grown⟩
def aC9 (ns : List Nod) (i : Nat) : Nod := ns.getD i ⟨0, 0, 0, 0, 0, [], []⟩
def atE : List Ent → List UInt8 → Int
 | [], _ => -1
 | e :: es, p => if e.name = p then e.node else atE es p
structure Lk where
 node : Nat
 parts : List (List UInt8)
 hops : Nat
def lkStep (ns : List Nod) (u g : Int) (fol : Bool) (node : Nat) (p : List UInt8) (r : List (List UInt8)) (hops : Nat) : Int × Lk :=
 if (aC9 ns node).kind ≠ 2 then (3, ⟨0, [], 0⟩)
 else if mayB u g (aC9 ns node).mode (aC9 ns node).uid (aC9 ns node).gid 1 = false then (4, ⟨0, [], 0⟩)
 else if p = [46] then (0, ⟨node, r, hops⟩)
 else if p = [46, 46] then (0, ⟨parentOf (node : Int) ns, r, hops⟩)
 else if atE (aC9 ns node).list p < 0 then (2, ⟨0, [], 0⟩)
 else if (aC9 ns (atE (aC9 ns node).list p).toNat).kind ≠ 3 ∨ (r = [] ∧ fol = false) then (0, ⟨(atE (aC9 ns node).list p).toNat, r, hops⟩)
 else if hops = 8 then (5, ⟨0, [], 0⟩)
 else (0, ⟨if wholeB (aC9 ns (atE (aC9 ns node).list p).toNat).data = true then 0 else node, parts (aC9 ns (atE (aC9 ns node).list p).toNat).data ++ r, hops + 1⟩)
def lkRun (ns : List Nod) (u g : Int) (fol : Bool) : Nat → Lk → Int × Nat
 | 0, s => (0, s.node)
 | n + 1, ⟨node, [], _⟩ => (0, node)
 | n + 1, ⟨node, p :: r, hops⟩ => if (lkStep ns u g fol node p r hops).1 ≠ 0 then ((lkStep ns u g fol node p r hops).1, 0) else lkRun ns u g fol n (lkStep ns u g fol node p r hops).2
def lkW (s : Lk) : Nat := (8 - s.hops) * 64 + s.parts.length
def lkGo (ns : List Nod) (u g : Int) (fol : Bool) (s : Lk) : Int × Nat := lkRun ns u g fol (lkW s + 1) s
def LinksFit (ns : List Nod) : Prop := ∀ i, (aC9 ns i).kind = 3 → (parts (aC9 ns i).data).length ≤ 61
theorem step_less {ns : List Nod} (hf : LinksFit ns) {u g : Int} {fol : Bool} {node : Nat} {p : List UInt8} {r : List (List UInt8)} {hops : Nat} (hh : hops ≤ 8) (h0 : (lkStep ns u g fol node p r hops).1 = 0) :
   lkW (lkStep ns u g fol node p r hops).2 < lkW ⟨node, p :: r, hops⟩ ∧ (lkStep ns u g fol node p r hops).2.hops ≤ 8 := by
 unfold lkStep at h0 ⊢
 by_cases h1 : (aC9 ns node).kind ≠ 2
 · rw [if_pos h1] at h0; simp at h0
 rw [if_neg h1] at h0 ⊢
 by_cases h2 : mayB u g (aC9 ns node).mode (aC9 ns node).uid (aC9 ns node).gid 1 = false
 · rw [if_pos h2] at h0; simp at h0
 rw [if_neg h2] at h0 ⊢
 by_cases h3 : p = [46]
 · rw [if_pos h3]; simp [lkW]; omega
 rw [if_neg h3] at h0 ⊢
 by_cases h4 : p = [46, 46]
 · rw [if_pos h4]; simp [lkW]; omega
 rw [if_neg h4] at h0 ⊢
 by_cases h5 : atE (aC9 ns node).list p < 0
 · rw [if_pos h5] at h0; simp at h0
 rw [if_neg h5] at h0 ⊢
 by_cases h6 : (aC9 ns (atE (aC9 ns node).list p).toNat).kind ≠ 3 ∨ (r = [] ∧ fol = false)
 · rw [if_pos h6]; simp [lkW]; omega
 rw [if_neg h6] at h0 ⊢
 by_cases h7 : hops = 8
 · rw [if_pos h7] at h0; simp at h0
 rw [if_neg h7]
 have h8 := hf (atE (aC9 ns node).list p).toNat (by
   by_cases hk : (aC9 ns (atE (aC9 ns node).list p).toNat).kind = 3
   · exact hk
   · exact absurd (.inl hk) h6)
 simp [lkW]
 omega
theorem lkRun_more {ns : List Nod} (hf : LinksFit ns) (u g : Int) (fol : Bool) : ∀ (n m : Nat) (s : Lk), s.hops ≤ 8 → lkW s < n → lkW s < m → lkRun ns u g fol n s = lkRun ns u g fol m s
 | 0, _, _, _, h, _ => absurd h (Nat.not_lt_zero _)
 | n + 1, 0, _, _, _, h => absurd h (Nat.not_lt_zero _)
 | n + 1, m + 1, ⟨node, [], hops⟩, _, _, _ => rfl
 | n + 1, m + 1, ⟨node, p :: r, hops⟩, hh, hn, hm => by
   rw [lkRun, lkRun]
   by_cases h0 : (lkStep ns u g fol node p r hops).1 = 0
   · rw [if_neg (by rw [h0]; simp), if_neg (by rw [h0]; simp)]
     obtain ⟨h1, h2⟩ := step_less (hops := hops) hf (show hops ≤ 8 from hh) h0
     exact lkRun_more hf u g fol n m _ h2 (by omega) (by omega)
   · rw [if_pos h0, if_pos h0]
theorem lkGo_nil (ns : List Nod) (u g : Int) (fol : Bool) (node hops : Nat) : lkGo ns u g fol ⟨node, [], hops⟩ = (0, node) := rfl
theorem lkGo_stop {ns : List Nod} {u g : Int} {fol : Bool} {node : Nat} {p : List UInt8} {r : List (List UInt8)} {hops : Nat} (h : (lkStep ns u g fol node p r hops).1 ≠ 0) :
   lkGo ns u g fol ⟨node, p :: r, hops⟩ = ((lkStep ns u g fol node p r hops).1, 0) := by
 unfold lkGo
 rw [lkRun, if_pos h]
theorem lkGo_step {ns : List Nod} (hf : LinksFit ns) {u g : Int} {fol : Bool} {node : Nat} {p : List UInt8} {r : List (List UInt8)} {hops : Nat} (hh : hops ≤ 8) (h : (lkStep ns u g fol node p r hops).1 = 0) :
   lkGo ns u g fol ⟨node, p :: r, hops⟩ = lkGo ns u g fol (lkStep ns u g fol node p r hops).2 := by
 obtain ⟨h1, h2⟩ := step_less hf hh h
 unfold lkGo
 rw [lkRun, if_neg (by rw [h]; simp)]
 exact lkRun_more hf u g fol _ _ _ h2 (by omega) (by omega)
def slashB (l : List UInt8) : Bool := l.getLast? == some 47
def bK9 (ns : List Nod) (u g : Int) (l : List UInt8) (fol : Bool) : Int × Nat :=
 if goodB l = true ∧ wholeB l = true then
   if (lkGo ns u g (fol || slashB l) ⟨0, parts l, 0⟩).1 ≠ 0 then ((lkGo ns u g (fol || slashB l) ⟨0, parts l, 0⟩).1, 0)
   else if slashB l = true ∧ (aC9 ns (lkGo ns u g (fol || slashB l) ⟨0, parts l, 0⟩).2).kind ≠ 2 then (3, 0)
   else (0, (lkGo ns u g (fol || slashB l) ⟨0, parts l, 0⟩).2)
 else (1, 0)
theorem linksFit_of {ns : List Nod} (h : ∀ n ∈ ns, bP9 ns.length n = true) : LinksFit ns := by
 intro i hk
 have hi : i < ns.length := by
   by_cases hi : i < ns.length
   · exact hi
   · unfold aC9 at hk
     simp [List.getD, List.getElem?_eq_none (Nat.le_of_not_lt hi)] at hk
 have e : aC9 ns i = ns[i] := aR9 hi
 rw [e] at hk ⊢
 have h1 := h _ (List.getElem_mem hi)
 unfold bP9 at h1
 rw [if_neg (by omega), if_neg (by omega), if_neg (by omega)] at h1
 simp only [Bool.and_eq_true] at h1
 have h2 : goodB ns[i].data = true := h1.2.2.2.2.2.1
 have h3 : ns[i].data.length ≤ 60 := by simp [goodB] at h2; exact h2.1.2
 have := parts_le ns[i].data
 omega
end Go.Proofs.YtknhacblialboaaGreatDoor
