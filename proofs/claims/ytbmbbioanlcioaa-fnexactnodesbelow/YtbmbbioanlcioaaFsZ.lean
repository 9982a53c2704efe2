
/-
  The model's l3Good: when a file system is good.
  Conditions: at most 2^20 values and letters together.
-/
import Derived.Test.YtbmbbioanlcioaaFsY
namespace Go.Proofs.Ytbmbbioanlcioaa
open Go.ChangeShapes Go.WideShapes Go.ChangeAt Go.RowKit Go.Joins
set_option linter.unusedVariables false

/-- What the last test asks of node k. -/
def TailOk (ns : List Nod) (k : Nat) : Prop := (k = 0 → links 0 ns = 0) ∧ (0 < k → kindAt ns k = 2 → links k ns = 1) ∧ (kindAt ns k ≠ 0 → Reach ns 0 k)
def GoodF (f : FsD) : Prop :=
  inB 1 40 (f.nodes.length : Int) = true ∧ inB 0 1000 f.room = true ∧ (sumD f.nodes : Int) ≤ f.room ∧ kindAt f.nodes 0 = 2 ∧ (∀ n ∈ f.nodes, nodOk f.nodes n = true) ∧ ∀ k, k < f.nodes.length → TailOk f.nodes k
open Classical in
noncomputable def goodF (f : FsD) : Bool := decide (GoodF f)
theorem goodF_no {f : FsD} (h : ¬ GoodF f) : false = goodF f := by unfold goodF; simp [h]
theorem goodF_yes {f : FsD} (h : GoodF f) : true = goodF f := by unfold goodF; simp [h]

theorem lead_of {ns : List Nod} (h : ∀ n ∈ ns, nodOk ns n = true) : Lead ns := by
  intro n hn e he
  have h1 := h n hn
  have hne : n.list.isEmpty = false := by cases hl : n.list <;> simp_all
  unfold nodOk at h1
  have h2 : entsOk ns n.list = true := by
    split at h1
    · simp [hne] at h1
    · split at h1
      · simp [hne] at h1
      · split at h1
        · simp at h1; exact h1.2.2.2.2.2
        · simp [hne] at h1
  obtain ⟨i, hi, rfl⟩ := List.getElem_of_mem he
  unfold entsOk at h2
  rw [List.all_eq_true] at h2
  have h3 := h2 i (List.mem_range.2 hi)
  unfold entOk at h3
  simp only [Bool.and_eq_true] at h3
  have e1 : n.list.getD i ⟨[], 0⟩ = n.list[i] := by simp [List.getD, hi]
  rw [e1] at h3
  have := inB_t h3.1.2
  omega

set_option maxHeartbeats 8000000 in
theorem l3Good_any (f : FsD) (v : Value) (w : World) (hR : FsA w v f) (hs : szF f ≤ 1048576) : Calls Try.prog 43 #[v] w fun e w' => e = .returned (.bool (goodF f)) ∧ Below w.heap.size w w' := by
  have HR := Lib.hid hR
  obtain ⟨nv, rfl, hN⟩ := hR
  obtain ⟨o, c, rfl, hm, hH⟩ := hN
  have HH := Lib.hid hH
  clear hH
  unfold maxLen at hm
  have HSZ := Lib.hid hs
  have hsum : sumD f.nodes ≤ 1048576 := by have := sumD_le f.nodes; unfold szF at hs; omega
  have hl : f.nodes.length ≤ 1048576 := (lists_small hs).1
  have HL : Hid (∀ n ∈ f.nodes, n.list.length ≤ 1048576 ∧ n.data.length ≤ 1048576 ∧ lensE n.list ≤ 1048576) := Lib.hid (lists_small hs).2
  clear hs
  have hbw : Below w.heap.size w (w.alloc (.cells #[.slice o f.nodes.length c, .int .i64 f.room] 31)) := (Below.refl _ _).alloc (Nat.le_refl _) _
  have hk0 := heap_alloc_new w (.cells #[.slice o f.nodes.length c, .int .i64 f.room] 31)
  go_enter Try.func43, Try.ntmps43
  go_wp2
  obtain ⟨W1, hW1⟩ : ∃ W1, w.alloc (.cells #[.slice o f.nodes.length c, .int .i64 f.room] 31) = W1 := ⟨_, rfl⟩
  rw [hW1] at hbw hk0 ⊢
  have s0 := (cell_blk hk0 0).trans rfl
  have s1 := (cell_blk hk0 1).trans rfl
  have z0 := fun d os => cell_regrown (w := W1) s0 d os
  have z1 := fun d os => cell_regrown (w := W1) s1 d os
  have HB1 := Lib.hid hbw
  have HK1 := Lib.hid hk0
  have HF1 := Lib.hid (HR.out.below hbw)
  clear hW1 hbw hk0
  by_cases c1 : inB 1 40 (f.nodes.length : Int) = true
  · have HC1 := Lib.hid c1
    have hpos : 0 < f.nodes.length := by have := inB_t c1; omega
    by_cases c2 : inB 0 1000 f.room = true
    · have HC2 := Lib.hid c2
      by_cases c3 : (sumD f.nodes : Int) ≤ f.room
      · obtain ⟨g, off, lv0, rfl, hg, hcc, -, -⟩ := HH.out 0 hpos
        have d0 := (HB1.out.cell (p := ⟨g, off + 0 * 7, none⟩) hg).trans hcc.c0
        rw [Nat.zero_mul, Nat.add_zero] at d0
        obtain ⟨kd, hkd⟩ : ∃ kd, kd = f.nodes[0].kind := ⟨_, rfl⟩
        rw [← hkd] at d0
        have HKD : Hid (kindAt f.nodes 0 = kd) := Lib.hid (by rw [hkd]; simp [kindAt, List.getD, hpos])
        have z3 := fun d os => cell_regrown (w := W1) d0 d os
        clear hcc hkd c1 c2
        by_cases c4 : kd = 2
        · subst c4
          refine wp_region_quiet_below (by kernel_rfl) (by kernel_rfl) ?_
          repeat (first | go_big_quiet_step ((first | (go_at_call 57; exact Calls.regrown_of (l1In_is (by first | exact HC1.out | exact HC2.out) _)) | (go_at_call 58; exact Calls.regrown_of (l3Bytes_any f _ _ (HF1.out.below (below_regrown _ _ _)) HSZ.out)))) | quiet_step ((first | (go_at_call 57; exact Calls.regrown_of (l1In_is (by first | exact HC1.out | exact HC2.out) _)) | (go_at_call 58; exact Calls.regrown_of (l3Bytes_any f _ _ (HF1.out.below (below_regrown _ _ _)) HSZ.out)))))
          refine wpQuiet_nil ?_
          intro w5 hwq
          have hb5 : Below W1.heap.size W1 w5 := by
            obtain ⟨pp, rfl⟩ := hwq
            exact below_regrown _ _ _
          have HB5 := Lib.hid (HB1.out.trans (hb5.mono HB1.out.size))
          have HK5 := Lib.hid ((hb5.block w.heap.size (lt_of_heap HK1.out)).trans HK1.out)
          clear hwq hb5
          have b0 := (cell_blk HK5.out 0).trans rfl
          have b1 := (cell_blk HK5.out 1).trans rfl
          clear z0 z1 z3 d0 s0 s1
          go_wp2
          go_loopw [38] (fun i wr => ∃ k : Nat, k ≤ f.nodes.length ∧ i = .int .i64 k ∧ Below w.heap.size w wr ∧ wr.heap[w.heap.size]? = some (.cells #[.slice (some ⟨g, off, none⟩) f.nodes.length c, .int .i64 f.room] 31) ∧ ∀ j (hj : j < f.nodes.length), j < k → nodOk f.nodes f.nodes[j] = true) (fun i _ => f.nodes.length - (intOf i).toNat)
          case atStart => exact ⟨0, Nat.zero_le _, rfl, HB5.out, HK5.out, fun j hj h => absurd h (Nat.not_lt_zero _)⟩
          case round =>
            obtain ⟨k, hk, rfl, hB, hb, hj⟩ := hrel
            have HJ := Lib.hid hj
            clear hj b0 b1
            by_cases hlt : k < f.nodes.length
            · obtain ⟨g3, f3, lv, e3, hg3, hcc, he, hml⟩ := HH.out k hlt
              obtain ⟨rfl, rfl⟩ : g = g3 ∧ off = f3 := by simpa using e3
              obtain ⟨d0, d1, d2, d3, d4, d5, d6⟩ := hcc.below hB hg3
              have hq2 := HL.out f.nodes[k] (List.getElem_mem hlt)
              obtain ⟨q, hqq⟩ : ∃ q, q = f.nodes[k] := ⟨_, rfl⟩
              have HQ := Lib.hid hqq
              rw [← hqq] at d0 d1 d2 d3 d4 d5 he hq2
              have HE0 := Lib.hid he
              obtain ⟨o2, c2, rfl, -, -⟩ := id he
              obtain ⟨hq3, hq4, -⟩ := hq2
              have HA1 : Hid (∀ oo, Below w.heap.size w (wr.alloc oo)) := Lib.hid (fun oo => hB.alloc hB.size oo)
              have hb3 : (wr.alloc (.cells #[.int .i64 q.kind, .int .i64 q.mode, .int .i64 q.uid, .int .i64 q.gid, .int .i64 q.time, .string (bs q.data), .slice o2 q.list.length c2] 65)).heap[w.heap.size]? = some (.cells #[.slice (some ⟨g, off, none⟩) f.nodes.length c, .int .i64 f.room] 31) := (Below.heap_alloc _ _ _ (lt_of_heap hb)).trans hb
              have HB3 := Lib.hid hb3
              have t0 := (cell_blk hb3 0).trans rfl
              have t1 := (cell_blk hb3 1).trans rfl
              have b0 := (cell_blk hb 0).trans rfl
              have b1 := (cell_blk hb 1).trans rfl
              clear hcc hml hqq he hb3 e3
              by_cases hno : nodOk f.nodes q = true
              · have HNO := Lib.hid hno
                have HJ2 : Hid (∀ j (hj : j < f.nodes.length), j < k + 1 → nodOk f.nodes f.nodes[j] = true) := Lib.hid (by
                  intro j hj h
                  rcases Nat.lt_succ_iff_lt_or_eq.1 h with h1 | rfl
                  · exact HJ.out j hj h1
                  · rw [← HQ.out]; exact HNO.out)
                go_wp2_with fail
                refine (l3Node_any f q _ _ _ (HR.out.below (HA1.out _)) (HE0.out.below (HA1.out _)) hl hq3 hq4).mono ?_
                rintro e w6 ⟨rfl, hb6⟩
                rw [HNO.out]
                have HB6 := Lib.hid ((HA1.out _).trans (hb6.mono (HA1.out _).size))
                have HK6 := Lib.hid ((hb6.block w.heap.size (lt_of_heap HB3.out)).trans HB3.out)
                clear hb6
                go_wp2
                go_roundw
                case rel => exact ⟨k + 1, hlt, by go_num, HB6.out, HK6.out, HJ2.out⟩
                case measure => simp [intOf]; omega
              · have HNO : Hid (nodOk f.nodes q = false) := Lib.hid (by simpa using hno)
                have HF : Hid (¬ GoodF f) := Lib.hid (fun h => hno (by rw [HQ.out]; exact h.2.2.2.2.1 _ (List.getElem_mem hlt)))
                go_wp2_with fail
                refine (l3Node_any f q _ _ _ (HR.out.below (HA1.out _)) (HE0.out.below (HA1.out _)) hl hq3 hq4).mono ?_
                rintro e w6 ⟨rfl, hb6⟩
                rw [HNO.out]
                have HB6 := Lib.hid ((HA1.out _).trans (hb6.mono (HA1.out _).size))
                clear hb6
                go_wp2
                go_ret
                exact ⟨ret_bool (goodF_no HF.out), HB6.out⟩
            · have HALL : Hid (∀ n ∈ f.nodes, nodOk f.nodes n = true) := Lib.hid (by
                intro n hn
                obtain ⟨j, hj, rfl⟩ := List.getElem_of_mem hn
                exact HJ.out j hj (by omega))
              have HLD := Lib.hid (lead_of HALL.out)
              have b0 := (cell_blk hb 0).trans rfl
              have b1 := (cell_blk hb 1).trans rfl
              have HB7 := Lib.hid hB
              go_wp2_with fail
              refine (l3Met_any f HLD.out hl (fun n hn => (HL.out n hn).1) _ [] 0 _ _ _ rfl (HR.out.below hB) (RdI.nil _) ⟨List.nodup_nil, by simp⟩ (by omega) (by omega)).mono ?_
              rintro e w7 ⟨v7, M7, rfl, hR7, hM7, hb7⟩
              have HM7 : Hid (∀ x, x ∈ M7 ↔ Reach f.nodes 0 x) := Lib.hid hM7.all
              have hl7 := hM7.nums.len
              have HB8 := Lib.hid (hB.trans (hb7.mono hB.size))
              have HK8 := Lib.hid ((hb7.block w.heap.size (lt_of_heap hb)).trans hb)
              have HR7 := Lib.hid hR7
              obtain ⟨o7, c7, rfl, -, -, -, -⟩ := hR7
              have t0 := (cell_blk HK8.out 0).trans rfl
              have t1 := (cell_blk HK8.out 1).trans rfl
              clear b0 b1 hM7 hb7 hB hb
              go_wp2
              go_loopw [52] (fun i wr => ∃ k : Nat, k ≤ f.nodes.length ∧ i = .int .i64 k ∧ Below w.heap.size w wr ∧ wr.heap[w.heap.size]? = some (.cells #[.slice (some ⟨g, off, none⟩) f.nodes.length c, .int .i64 f.room] 31) ∧ RdI wr (.slice o7 M7.length c7) M7 ∧ ∀ j, j < k → TailOk f.nodes j) (fun i _ => f.nodes.length - (intOf i).toNat)
              case atStart => exact ⟨0, Nat.zero_le _, rfl, HB8.out, HK8.out, HR7.out, fun j h => absurd h (Nat.not_lt_zero _)⟩
              case round =>
                obtain ⟨k, hk, rfl, hB, hb, hRr, hj⟩ := hrel
                have HJ := Lib.hid hj
                have HRr := Lib.hid hRr
                clear hj hRr t0 t1
                by_cases hlt : k < f.nodes.length
                · obtain ⟨g3, f3, lv, e3, hg3, hcc, he, hml⟩ := HH.out k hlt
                  obtain ⟨rfl, rfl⟩ : g = g3 ∧ off = f3 := by simpa using e3
                  obtain ⟨d0, d1, d2, d3, d4, d5, d6⟩ := hcc.below hB hg3
                  obtain ⟨q, hqq⟩ : ∃ q, q = f.nodes[k] := ⟨_, rfl⟩
                  have HKq : Hid (kindAt f.nodes (k : Int) = q.kind) := Lib.hid (by rw [hqq]; simp [kindAt, List.getD, hlt])
                  rw [← hqq] at d0 d1 d2 d3 d4 d5 he
                  obtain ⟨o2, c2, rfl, -, -⟩ := id he
                  have HA1 : Hid (∀ oo, Below w.heap.size w (wr.alloc oo)) := Lib.hid (fun oo => hB.alloc hB.size oo)
                  have HA2 : Hid (∀ oo, Below wr.heap.size wr (wr.alloc oo)) := Lib.hid (fun oo => (Below.refl _ _).alloc (Nat.le_refl _) _)
                  have hb3 : (wr.alloc (.cells #[.int .i64 q.kind, .int .i64 q.mode, .int .i64 q.uid, .int .i64 q.gid, .int .i64 q.time, .string (bs q.data), .slice o2 q.list.length c2] 65)).heap[w.heap.size]? = some (.cells #[.slice (some ⟨g, off, none⟩) f.nodes.length c, .int .i64 f.room] 31) := (Below.heap_alloc _ _ _ (lt_of_heap hb)).trans hb
                  have HB3 := Lib.hid hb3
                  have t0 := (cell_blk hb3 0).trans rfl
                  have t1 := (cell_blk hb3 1).trans rfl
                  have b0 := (cell_blk hb 0).trans rfl
                  have b1 := (cell_blk hb 1).trans rfl
                  have hln : links (k : Int) f.nodes ≤ 1048576 := by have h9 := links_le (k : Int) f.nodes; have h8 := HSZ.out; unfold szF at h8; omega
                  obtain ⟨N, hN⟩ : ∃ N, links (k : Int) f.nodes = N := ⟨_, rfl⟩
                  rw [hN] at hln
                  have HN := Lib.hid hN
                  clear hcc hml hqq he hb3 e3 hN
                  go_wp2_with fail
                  refine (l3Links_any f _ _ _ (HR.out.below (HA1.out _)) HSZ.out).mono ?_
                  rintro e w9 ⟨rfl, hb9⟩
                  rw [HN.out]
                  have HB9 := Lib.hid ((HA1.out _).trans (hb9.mono (HA1.out _).size))
                  have HK9 := Lib.hid ((hb9.block w.heap.size (lt_of_heap HB3.out)).trans HB3.out)
                  have HR9 := Lib.hid ((HRr.out.below (HA2.out _)).below hb9)
                  have y0 := (cell_blk ((hb9.block wr.heap.size (by simp)).trans (heap_alloc_new wr (.cells #[.int .i64 q.kind, .int .i64 q.mode, .int .i64 q.uid, .int .i64 q.gid, .int .i64 q.time, .string (bs q.data), .slice o2 q.list.length c2] 65))) 0).trans rfl
                  clear hb9 d0 d1 d2 d3 d4 d5 d6 t0 t1 b0 b1 HA1 HA2
                  rcases Nat.eq_zero_or_pos k with rfl | hpk
                  · by_cases hn0 : N = 0
                    · subst hn0
                      by_cases hz : q.kind = 0
                      · have HT : Hid (TailOk f.nodes (0)) := Lib.hid ⟨fun _ => HN.out, fun h => absurd h (Nat.lt_irrefl 0), fun h => absurd (HKq.out.trans hz) h⟩
                        have zb : (q.kind != 0) = false := by simpa using hz
                        have zc : (q.kind == 0) = true := by simpa using hz
                        have HJ2 : Hid (∀ i, i < 0 + 1 → TailOk f.nodes i) := Lib.hid (by
                          intro i h
                          rcases Nat.lt_succ_iff_lt_or_eq.1 h with h1 | rfl
                          · exact HJ.out i h1
                          · exact HT.out)
                        go_wp2
                        go_roundw
                        case rel => exact ⟨0 + 1, hlt, by go_num, HB9.out, HK9.out, HR9.out, HJ2.out⟩
                        case measure => simp [intOf]; omega
                      · have zb : (q.kind != 0) = true := by simpa using hz
                        have zc : (q.kind == 0) = false := by simpa using hz
                        by_cases hh : hasI M7 ((0 : Nat) : Int) = true
                        · have HHAS := Lib.hid hh
                          have HT : Hid (TailOk f.nodes (0)) := Lib.hid ⟨fun _ => HN.out, fun h => absurd h (Nat.lt_irrefl 0), fun _ => (HM7.out _).1 (hasI_iff.1 hh)⟩
                          have HJ2 : Hid (∀ i, i < 0 + 1 → TailOk f.nodes i) := Lib.hid (by
                            intro i h
                            rcases Nat.lt_succ_iff_lt_or_eq.1 h with h1 | rfl
                            · exact HJ.out i h1
                            · exact HT.out)
                          go_wp2_with fail
                          refine (l1Has_any M7 _ _ _ HR9.out (by omega)).mono ?_
                          rintro e w10 ⟨rfl, rfl⟩
                          first | rw [HHAS.out] | rw [show hasI M7 0 = _ from HHAS.out]
                          go_wp2
                          go_roundw
                          case rel => exact ⟨0 + 1, hlt, by go_num, HB9.out, HK9.out, HR9.out, HJ2.out⟩
                          case measure => simp [intOf]; omega
                        · have HHAS : Hid (hasI M7 ((0 : Nat) : Int) = false) := Lib.hid (by simpa using hh)
                          have HF : Hid (¬ GoodF f) := Lib.hid (fun h => by have ht := h.2.2.2.2.2 (0) hlt; exact hh (hasI_iff.2 ((HM7.out _).2 (ht.2.2 (by rw [HKq.out]; exact hz)))))
                          go_wp2_with fail
                          refine (l1Has_any M7 _ _ _ HR9.out (by omega)).mono ?_
                          rintro e w10 ⟨rfl, rfl⟩
                          first | rw [HHAS.out] | rw [show hasI M7 0 = _ from HHAS.out]
                          go_wp2
                          go_ret
                          exact ⟨ret_bool (goodF_no HF.out), HB9.out⟩
                    · have hn1 : 0 < N := by omega
                      have HF : Hid (¬ GoodF f) := Lib.hid (fun h => by have ht := h.2.2.2.2.2 (0) hlt; exact hn0 (by rw [← HN.out]; exact ht.1 rfl))
                      go_wp2
                      go_ret
                      exact ⟨ret_bool (goodF_no HF.out), HB9.out⟩
                  · obtain ⟨j, rfl⟩ : ∃ j, k = j + 1 := ⟨k - 1, by omega⟩
                    by_cases hk2 : q.kind = 2
                    · have kb : (q.kind == 2) = true := by simpa using hk2
                      by_cases hn1 : N = 1
                      · subst hn1
                        by_cases hz : q.kind = 0
                        · exact absurd (hk2.symm.trans hz) (by decide)
                        · have zb : (q.kind != 0) = true := by simpa using hz
                          have zc : (q.kind == 0) = false := by simpa using hz
                          by_cases hh : hasI M7 ((j + 1 : Nat) : Int) = true
                          · have HHAS := Lib.hid hh
                            have HT : Hid (TailOk f.nodes (j + 1)) := Lib.hid ⟨fun h => absurd h (by omega), fun _ _ => HN.out, fun _ => (HM7.out _).1 (hasI_iff.1 hh)⟩
                            have HJ2 : Hid (∀ i, i < j + 1 + 1 → TailOk f.nodes i) := Lib.hid (by
                              intro i h
                              rcases Nat.lt_succ_iff_lt_or_eq.1 h with h1 | rfl
                              · exact HJ.out i h1
                              · exact HT.out)
                            go_wp2_with fail
                            refine (l1Has_any M7 _ _ _ HR9.out (by omega)).mono ?_
                            rintro e w10 ⟨rfl, rfl⟩
                            first | rw [HHAS.out] | rw [show hasI M7 ((j : Int) + 1) = _ from HHAS.out]
                            go_wp2
                            go_roundw
                            case rel => exact ⟨j + 1 + 1, hlt, by go_num, HB9.out, HK9.out, HR9.out, HJ2.out⟩
                            case measure => simp [intOf]; omega
                          · have HHAS : Hid (hasI M7 ((j + 1 : Nat) : Int) = false) := Lib.hid (by simpa using hh)
                            have HF : Hid (¬ GoodF f) := Lib.hid (fun h => by have ht := h.2.2.2.2.2 (j + 1) hlt; exact hh (hasI_iff.2 ((HM7.out _).2 (ht.2.2 (by rw [HKq.out]; exact hz)))))
                            go_wp2_with fail
                            refine (l1Has_any M7 _ _ _ HR9.out (by omega)).mono ?_
                            rintro e w10 ⟨rfl, rfl⟩
                            first | rw [HHAS.out] | rw [show hasI M7 ((j : Int) + 1) = _ from HHAS.out]
                            go_wp2
                            go_ret
                            exact ⟨ret_bool (goodF_no HF.out), HB9.out⟩
                      · have nb : ((N : Int) != 1) = true := by rw [bne_iff_ne]; omega
                        have HF : Hid (¬ GoodF f) := Lib.hid (fun h => by have ht := h.2.2.2.2.2 (j + 1) hlt; exact hn1 (by rw [← HN.out]; exact ht.2.1 (by omega) (HKq.out.trans hk2)))
                        go_wp2
                        go_ret
                        exact ⟨ret_bool (goodF_no HF.out), HB9.out⟩
                    · have kb : (q.kind == 2) = false := by simpa using hk2
                      by_cases hz : q.kind = 0
                      · have HT : Hid (TailOk f.nodes (j + 1)) := Lib.hid ⟨fun h => absurd h (by omega), fun _ h => absurd (HKq.out.symm.trans h) hk2, fun h => absurd (HKq.out.trans hz) h⟩
                        have zb : (q.kind != 0) = false := by simpa using hz
                        have zc : (q.kind == 0) = true := by simpa using hz
                        have HJ2 : Hid (∀ i, i < j + 1 + 1 → TailOk f.nodes i) := Lib.hid (by
                          intro i h
                          rcases Nat.lt_succ_iff_lt_or_eq.1 h with h1 | rfl
                          · exact HJ.out i h1
                          · exact HT.out)
                        go_wp2
                        go_roundw
                        case rel => exact ⟨j + 1 + 1, hlt, by go_num, HB9.out, HK9.out, HR9.out, HJ2.out⟩
                        case measure => simp [intOf]; omega
                      · have zb : (q.kind != 0) = true := by simpa using hz
                        have zc : (q.kind == 0) = false := by simpa using hz
                        by_cases hh : hasI M7 ((j + 1 : Nat) : Int) = true
                        · have HHAS := Lib.hid hh
                          have HT : Hid (TailOk f.nodes (j + 1)) := Lib.hid ⟨fun h => absurd h (by omega), fun _ h => absurd (HKq.out.symm.trans h) hk2, fun _ => (HM7.out _).1 (hasI_iff.1 hh)⟩
                          have HJ2 : Hid (∀ i, i < j + 1 + 1 → TailOk f.nodes i) := Lib.hid (by
                            intro i h
                            rcases Nat.lt_succ_iff_lt_or_eq.1 h with h1 | rfl
                            · exact HJ.out i h1
                            · exact HT.out)
                          go_wp2_with fail
                          refine (l1Has_any M7 _ _ _ HR9.out (by omega)).mono ?_
                          rintro e w10 ⟨rfl, rfl⟩
                          first | rw [HHAS.out] | rw [show hasI M7 ((j : Int) + 1) = _ from HHAS.out]
                          go_wp2
                          go_roundw
                          case rel => exact ⟨j + 1 + 1, hlt, by go_num, HB9.out, HK9.out, HR9.out, HJ2.out⟩
                          case measure => simp [intOf]; omega
                        · have HHAS : Hid (hasI M7 ((j + 1 : Nat) : Int) = false) := Lib.hid (by simpa using hh)
                          have HF : Hid (¬ GoodF f) := Lib.hid (fun h => by have ht := h.2.2.2.2.2 (j + 1) hlt; exact hh (hasI_iff.2 ((HM7.out _).2 (ht.2.2 (by rw [HKq.out]; exact hz)))))
                          go_wp2_with fail
                          refine (l1Has_any M7 _ _ _ HR9.out (by omega)).mono ?_
                          rintro e w10 ⟨rfl, rfl⟩
                          first | rw [HHAS.out] | rw [show hasI M7 ((j : Int) + 1) = _ from HHAS.out]
                          go_wp2
                          go_ret
                          exact ⟨ret_bool (goodF_no HF.out), HB9.out⟩
                · go_wp2
                  go_ret
                  exact ⟨ret_bool (goodF_yes ⟨HC1.out, HC2.out, c3, HKD.out, HALL.out, fun k h => HJ.out k (by omega)⟩), hB⟩
        · have HF : Hid (¬ GoodF f) := Lib.hid (fun h => c4 (by rw [← HKD.out]; exact h.2.2.2.1))
          have c4b : (kd == 2) = false := beq_eq_false_iff_ne.2 c4
          have c4d : (kd != 2) = true := by simpa using c4
          refine wp_region_quiet_below (by kernel_rfl) (by kernel_rfl) ?_
          repeat (first | go_big_quiet_step ((first | (go_at_call 57; exact Calls.regrown_of (l1In_is (by first | exact HC1.out | exact HC2.out) _)) | (go_at_call 58; exact Calls.regrown_of (l3Bytes_any f _ _ (HF1.out.below (below_regrown _ _ _)) HSZ.out)))) | quiet_step ((first | (go_at_call 57; exact Calls.regrown_of (l1In_is (by first | exact HC1.out | exact HC2.out) _)) | (go_at_call 58; exact Calls.regrown_of (l3Bytes_any f _ _ (HF1.out.below (below_regrown _ _ _)) HSZ.out)))))
          refine wpQuiet_nil ?_
          intro w5 hwq
          have hb5 : Below W1.heap.size W1 w5 := by
            obtain ⟨pp, rfl⟩ := hwq
            exact below_regrown _ _ _
          have HB5 := Lib.hid (HB1.out.trans (hb5.mono HB1.out.size))
          have HK5 := Lib.hid ((hb5.block w.heap.size (lt_of_heap HK1.out)).trans HK1.out)
          clear hwq hb5
          go_wp2
          go_ret
          exact ⟨ret_bool (goodF_no HF.out), HB5.out⟩
      · have HF : Hid (¬ GoodF f) := Lib.hid (fun h => c3 h.2.2.1)
        have HC2 := Lib.hid c2
        refine wp_region_quiet_below (by kernel_rfl) (by kernel_rfl) ?_
        repeat (first | go_big_quiet_step ((first | (go_at_call 57; exact Calls.regrown_of (l1In_is (by first | exact HC1.out | exact HC2.out) _)) | (go_at_call 58; exact Calls.regrown_of (l3Bytes_any f _ _ (HF1.out.below (below_regrown _ _ _)) HSZ.out)))) | quiet_step ((first | (go_at_call 57; exact Calls.regrown_of (l1In_is (by first | exact HC1.out | exact HC2.out) _)) | (go_at_call 58; exact Calls.regrown_of (l3Bytes_any f _ _ (HF1.out.below (below_regrown _ _ _)) HSZ.out)))))
        refine wpQuiet_nil ?_
        intro w5 hwq
        have hb5 : Below W1.heap.size W1 w5 := by
          obtain ⟨pp, rfl⟩ := hwq
          exact below_regrown _ _ _
        have HB5 := Lib.hid (HB1.out.trans (hb5.mono HB1.out.size))
        have HK5 := Lib.hid ((hb5.block w.heap.size (lt_of_heap HK1.out)).trans HK1.out)
        clear hwq hb5
        go_wp2
        go_ret
        exact ⟨ret_bool (goodF_no HF.out), HB5.out⟩
    · have HC2 : Hid (inB 0 1000 f.room = false) := Lib.hid (by simpa using c2)
      have HF : Hid (¬ GoodF f) := Lib.hid (fun h => c2 h.2.1)
      refine wp_region_quiet_below (by kernel_rfl) (by kernel_rfl) ?_
      repeat (first | go_big_quiet_step ((first | (go_at_call 57; exact Calls.regrown_of (l1In_is (by first | exact HC1.out | exact HC2.out) _)) | (go_at_call 58; exact Calls.regrown_of (l3Bytes_any f _ _ (HF1.out.below (below_regrown _ _ _)) HSZ.out)))) | quiet_step ((first | (go_at_call 57; exact Calls.regrown_of (l1In_is (by first | exact HC1.out | exact HC2.out) _)) | (go_at_call 58; exact Calls.regrown_of (l3Bytes_any f _ _ (HF1.out.below (below_regrown _ _ _)) HSZ.out)))))
      refine wpQuiet_nil ?_
      intro w5 hwq
      have hb5 : Below W1.heap.size W1 w5 := by
        obtain ⟨pp, rfl⟩ := hwq
        exact below_regrown _ _ _
      have HB5 := Lib.hid (HB1.out.trans (hb5.mono HB1.out.size))
      have HK5 := Lib.hid ((hb5.block w.heap.size (lt_of_heap HK1.out)).trans HK1.out)
      clear hwq hb5
      go_wp2
      go_ret
      exact ⟨ret_bool (goodF_no HF.out), HB5.out⟩
  · have HC1 : Hid (inB 1 40 (f.nodes.length : Int) = false) := Lib.hid (by simpa using c1)
    have HF : Hid (¬ GoodF f) := Lib.hid (fun h => c1 h.1)
    have HC2 := HC1
    refine wp_region_quiet_below (by kernel_rfl) (by kernel_rfl) ?_
    repeat (first | go_big_quiet_step ((first | (go_at_call 57; exact Calls.regrown_of (l1In_is (by first | exact HC1.out | exact HC2.out) _)) | (go_at_call 58; exact Calls.regrown_of (l3Bytes_any f _ _ (HF1.out.below (below_regrown _ _ _)) HSZ.out)))) | quiet_step ((first | (go_at_call 57; exact Calls.regrown_of (l1In_is (by first | exact HC1.out | exact HC2.out) _)) | (go_at_call 58; exact Calls.regrown_of (l3Bytes_any f _ _ (HF1.out.below (below_regrown _ _ _)) HSZ.out)))))
    refine wpQuiet_nil ?_
    intro w5 hwq
    have hb5 : Below W1.heap.size W1 w5 := by
      obtain ⟨pp, rfl⟩ := hwq
      exact below_regrown _ _ _
    have HB5 := Lib.hid (HB1.out.trans (hb5.mono HB1.out.size))
    have HK5 := Lib.hid ((hb5.block w.heap.size (lt_of_heap HK1.out)).trans HK1.out)
    clear hwq hb5
    go_wp2
    go_ret
    exact ⟨ret_bool (goodF_no HF.out), HB5.out⟩

end Go.Proofs.Ytbmbbioanlcioaa
