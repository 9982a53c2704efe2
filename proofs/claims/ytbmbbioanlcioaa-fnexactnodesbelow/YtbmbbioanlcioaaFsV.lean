
/-
  The model's l3Entries: a directory's list is in order, its names and nodes are good.
  Conditions: at most 2^20 values and letters together.
-/
import Derived.Test.YtbmbbioanlcioaaFsU
import Derived.Test.YtbmbbioanlcioaaNameD
import Derived.Laws.Cover1
namespace Go.Proofs.Ytbmbbioanlcioaa
open Go.ChangeShapes Go.WideShapes Go.ChangeAt Go.RowKit Go.Joins
set_option linter.unusedVariables false

def kindAt (ns : List Nod) (i : Int) : Int := (ns.getD i.toNat ⟨0, 0, 0, 0, 0, [], []⟩).kind
def entOk (ns : List Nod) (es : List Ent) (k : Nat) : Bool :=
  nameB (es.getD k ⟨[], 0⟩).name && (k == 0 || Op.bytesLess (es.getD (k - 1) ⟨[], 0⟩).name (es.getD k ⟨[], 0⟩).name) && inB 1 ((ns.length : Int) - 1) (es.getD k ⟨[], 0⟩).node && !(kindAt ns (es.getD k ⟨[], 0⟩).node == 0)
def entsOk (ns : List Nod) (es : List Ent) : Bool := (List.range es.length).all (entOk ns es)

theorem bsl (l : List UInt8) : (bs l).toList = l := by rw [ByteArray.toList_eq]; simp [bs]
theorem entsOk_no {ns : List Nod} {es : List Ent} {k : Nat} (hk : k < es.length) (h : entOk ns es k = false) : entsOk ns es = false := by
  unfold entsOk
  rw [List.all_eq_false]
  exact ⟨k, List.mem_range.2 hk, by rw [h]; simp⟩
theorem entsOk_yes {ns : List Nod} {es : List Ent} (h : ∀ k, k < es.length → entOk ns es k = true) : entsOk ns es = true := by
  unfold entsOk
  rw [List.all_eq_true]
  exact fun k hk => h k (List.mem_range.1 hk)

theorem l1In_is {n lo hi : Int} {b : Bool} (h : inB lo hi n = b) (w : World) : Calls Try.prog 57 #[.int .i64 n, .int .i64 lo, .int .i64 hi] w fun e w' => e = .returned (.bool b) ∧ Below w.heap.size w w' :=
  (l1In_any n lo hi w).mono fun e w' ⟨h1, h2⟩ => ⟨by rw [h1, h], by rw [← h2]; exact Below.refl _ _⟩
theorem l2Name_is {l : List UInt8} {b : Bool} (h : nameB l = b) (hl : l.length ≤ maxLen) (s : ByteArray) (hs : s = bs l) (w : World) : Calls Try.prog 100 #[.string s] w fun e w' => e = .returned (.bool b) ∧ Below w.heap.size w w' :=
  (l2Name_any s w (by rw [hs, bs_size]; exact hl)).mono fun e w' ⟨h1, h2⟩ => ⟨by rw [h1, hs, ← h]; simp [bs], by rw [← h2]; exact Below.refl _ _⟩

set_option maxHeartbeats 4000000 in
theorem l3Entries_any (f : FsD) (es : List Ent) (v lv : Value) (w : World) (hR : FsA w v f) (hE0 : EntsA w lv es) (hs : f.nodes.length ≤ 1048576) (hs2 : es.length ≤ 1048576) : Calls Try.prog 81 #[v, lv] w fun e w' => e = .returned (.bool (entsOk f.nodes es)) ∧ Below w.heap.size w w' := by
  obtain ⟨nv, rfl, hN⟩ := hR
  obtain ⟨o, c, rfl, hm, hH⟩ := hN
  have HH := Lib.hid hH
  obtain ⟨o2, c2, rfl, -, hE⟩ := hE0
  have HE := Lib.hid hE
  clear hH hE
  unfold maxLen at hm
  have hbw : Below w.heap.size w (w.alloc (.cells #[.slice o f.nodes.length c, .int .i64 f.room] 31)) := (Below.refl _ _).alloc (Nat.le_refl _) _
  have hk0 := heap_alloc_new w (.cells #[.slice o f.nodes.length c, .int .i64 f.room] 31)
  go_enter Try.func81, Try.ntmps81
  go_wp2
  go_loopw [9] (fun i wr => ∃ k : Nat, k ≤ es.length ∧ i = .int .i64 k ∧ Below w.heap.size w wr ∧ wr.heap[w.heap.size]? = some (.cells #[.slice o f.nodes.length c, .int .i64 f.room] 31) ∧ ∀ j, j < k → entOk f.nodes es j = true) (fun i _ => es.length - (intOf i).toNat)
  case atStart => exact ⟨0, Nat.zero_le _, rfl, hbw, hk0, fun j h => absurd h (Nat.not_lt_zero _)⟩
  case round =>
    obtain ⟨k, hk, rfl, hB, hb, hj⟩ := hrel
    have HJ := Lib.hid hj
    clear hj hbw hk0
    by_cases hlt : k < es.length
    · obtain ⟨g2, f2, rfl, q2, x2, y2, hn⟩ := HE.out k hlt
      have HK : Hid (es.getD k ⟨[], 0⟩ = es[k]) := Lib.hid (by simp [List.getD, hlt])
      have a1 := (hB.cell (p := ⟨g2, f2 + k * 2, none⟩) q2).trans x2
      have a2 := (hB.cell (p := ⟨g2, f2 + k * 2 + 1, none⟩) q2).trans y2
      obtain ⟨z, hzz⟩ : ∃ z, z = es[k] := ⟨_, rfl⟩
      rw [← hzz] at a1 a2 HK hn
      obtain ⟨y, hyy⟩ : ∃ y, y = bs z.name := ⟨_, rfl⟩
      have HY := Lib.hid hyy
      rw [← hyy] at a1
      obtain ⟨r, hr⟩ : ∃ r, r = z.node := ⟨_, rfl⟩
      have HR := Lib.hid hr
      rw [← hr] at a2
      have HNL := Lib.hid hn
      have HB1 : Hid (∀ oo, Below w.heap.size w (wr.alloc oo)) := Lib.hid (fun oo => hB.alloc hB.size oo)
      have HW : Hid (∀ oo, (wr.alloc oo).heap[w.heap.size]? = some (.cells #[.slice o f.nodes.length c, .int .i64 f.room] 31)) := Lib.hid (fun oo => (Below.heap_alloc _ _ _ (lt_of_heap hb)).trans hb)
      have e0 := cell_blk (heap_alloc_new wr (.cells #[.string y, .int .i64 r] 67)) 0
      have e1 := cell_blk (heap_alloc_new wr (.cells #[.string y, .int .i64 r] 67)) 1
      have s0 := cell_blk (HW.out (.cells #[.string y, .int .i64 r] 67)) 0
      clear x2 y2 hzz hyy hr hn
      go_wp2
      have HB2 := Lib.hid (HB1.out (.cells #[.string y, .int .i64 r] 67))
      have HW2 := Lib.hid (HW.out (.cells #[.string y, .int .i64 r] 67))
      obtain ⟨W2, hW2⟩ : ∃ W2, wr.alloc (.cells #[.string y, .int .i64 r] 67) = W2 := ⟨_, rfl⟩
      rw [hW2] at e0 e1 s0 HB2 HW2 ⊢
      have e0' := e0.trans rfl
      have e1' := e1.trans rfl
      have s0' := s0.trans rfl
      clear hW2 HW HB1 e0 e1 s0
      have z0 := fun d os => cell_regrown (w := W2) e0' d os
      have z1 := fun d os => cell_regrown (w := W2) e1' d os
      have z2 := fun d os => cell_regrown (w := W2) s0' d os
      by_cases hna : nameB z.name = true
      · have HA := Lib.hid hna
        clear hna
        rcases Nat.eq_zero_or_pos k with rfl | hpos
        · skip
          by_cases hc : inB 1 ((f.nodes.length : Int) - 1) r = true
          · have HC := Lib.hid hc
            obtain ⟨r1, r2⟩ := inB_t hc
            obtain ⟨m, rfl⟩ : ∃ m : Nat, r = m := ⟨r.toNat, by omega⟩
            have hml : m < f.nodes.length := by omega
            obtain ⟨g, off, nl, rfl, hg, hcc, -, -⟩ := HH.out m hml
            have d0 := (HB2.out.cell (p := ⟨g, off + m * 7, none⟩) hg).trans hcc.c0
            obtain ⟨kd, hkd⟩ : ∃ kd, kd = f.nodes[m].kind := ⟨_, rfl⟩
            rw [← hkd] at d0
            have HKD : Hid (kindAt f.nodes (m : Int) = kd) := Lib.hid (by rw [hkd]; simp [kindAt, List.getD, hml])
            have z3 := fun d os => cell_regrown (w := W2) d0 d os
            clear hcc hkd hc
            by_cases hz : kd = 0
            · have HF : Hid (entsOk f.nodes es = false) := Lib.hid (entsOk_no hlt (by unfold entOk; rw [HK.out, HA.out, ← HR.out, HKD.out, hz]; simp))
              subst hz
              refine wp_region_quiet_below (by kernel_rfl) (by kernel_rfl) ?_
              repeat (first | go_big_quiet_step ((first | (go_at_call 100; exact Calls.regrown_of (l2Name_is HA.out HNL.out _ HY.out _)) | (go_at_call 57; exact Calls.regrown_of (l1In_is HC.out _)))) | quiet_step ((first | (go_at_call 100; exact Calls.regrown_of (l2Name_is HA.out HNL.out _ HY.out _)) | (go_at_call 57; exact Calls.regrown_of (l1In_is HC.out _)))))
              refine wpQuiet_nil ?_
              intro w5 hwq
              have hb5 : Below W2.heap.size W2 w5 := by
                obtain ⟨pp, rfl⟩ := hwq
                exact below_regrown _ _ _
              have HB5 := Lib.hid (HB2.out.trans (hb5.mono HB2.out.size))
              have HW5 := Lib.hid ((hb5.block w.heap.size (lt_of_heap HW2.out)).trans HW2.out)
              clear hwq hb5
              go_wp2
              go_ret
              exact ⟨ret_bool HF.out.symm, HB5.out⟩
            · have HO : Hid (entOk f.nodes es (0) = true) := Lib.hid (by unfold entOk; rw [HK.out, HA.out, ← HR.out, HKD.out, HC.out]; simp [hz])
              have HJ2 : Hid (∀ i, i < 0 + 1 → entOk f.nodes es i = true) := Lib.hid (by
                intro i h
                rcases Nat.lt_succ_iff_lt_or_eq.1 h with h1 | rfl
                · exact HJ.out i h1
                · exact HO.out)
              refine wp_region_quiet_below (by kernel_rfl) (by kernel_rfl) ?_
              repeat (first | go_big_quiet_step ((first | (go_at_call 100; exact Calls.regrown_of (l2Name_is HA.out HNL.out _ HY.out _)) | (go_at_call 57; exact Calls.regrown_of (l1In_is HC.out _)))) | quiet_step ((first | (go_at_call 100; exact Calls.regrown_of (l2Name_is HA.out HNL.out _ HY.out _)) | (go_at_call 57; exact Calls.regrown_of (l1In_is HC.out _)))))
              refine wpQuiet_nil ?_
              intro w5 hwq
              have hb5 : Below W2.heap.size W2 w5 := by
                obtain ⟨pp, rfl⟩ := hwq
                exact below_regrown _ _ _
              have HB5 := Lib.hid (HB2.out.trans (hb5.mono HB2.out.size))
              have HW5 := Lib.hid ((hb5.block w.heap.size (lt_of_heap HW2.out)).trans HW2.out)
              clear hwq hb5
              go_wp2
              go_roundw
              case rel => exact ⟨_, hlt, by go_num, HB5.out, HW5.out, HJ2.out⟩
              case measure => simp [intOf]; omega
          · have HC : Hid (inB 1 ((f.nodes.length : Int) - 1) r = false) := Lib.hid (by simpa using hc)
            have HF : Hid (entsOk f.nodes es = false) := Lib.hid (entsOk_no hlt (by unfold entOk; rw [HK.out, HA.out, ← HR.out, HC.out]; simp))
            clear hc
            refine wp_region_quiet_below (by kernel_rfl) (by kernel_rfl) ?_
            repeat (first | go_big_quiet_step ((first | (go_at_call 100; exact Calls.regrown_of (l2Name_is HA.out HNL.out _ HY.out _)) | (go_at_call 57; exact Calls.regrown_of (l1In_is HC.out _)))) | quiet_step ((first | (go_at_call 100; exact Calls.regrown_of (l2Name_is HA.out HNL.out _ HY.out _)) | (go_at_call 57; exact Calls.regrown_of (l1In_is HC.out _)))))
            refine wpQuiet_nil ?_
            intro w5 hwq
            have hb5 : Below W2.heap.size W2 w5 := by
              obtain ⟨pp, rfl⟩ := hwq
              exact below_regrown _ _ _
            have HB5 := Lib.hid (HB2.out.trans (hb5.mono HB2.out.size))
            have HW5 := Lib.hid ((hb5.block w.heap.size (lt_of_heap HW2.out)).trans HW2.out)
            clear hwq hb5
            go_wp2
            go_ret
            exact ⟨ret_bool HF.out.symm, HB5.out⟩
        · obtain ⟨j, rfl⟩ : ∃ j, k = j + 1 := ⟨k - 1, by omega⟩
          obtain ⟨g3, f3, e3, -, x3, -, -⟩ := HE.out j (by omega)
          obtain ⟨rfl, rfl⟩ : g2 = g3 ∧ f2 = f3 := by simpa using e3
          have p0 := (HB2.out.cell (p := ⟨g2, f2 + j * 2, none⟩) q2).trans x3
          obtain ⟨x, hx⟩ : ∃ x, x = bs es[j].name := ⟨_, rfl⟩
          rw [← hx] at p0
          have z4 := fun d os => cell_regrown (w := W2) p0 d os
          have HLT : Hid (Op.bytesLess (es.getD (j + 1 - 1) ⟨[], 0⟩).name z.name = Op.bytesLess x.toList y.toList) := Lib.hid (by
            have h1 : es.getD (j + 1 - 1) ⟨[], 0⟩ = es[j] := by simp [List.getD, show j < es.length by omega]
            rw [h1, hx, HY.out, bsl, bsl])
          clear x3 hx e3
          by_cases hl : Op.bytesLess x.toList y.toList = true
          · have HL : Hid (Op.bytesLess (es.getD (j + 1 - 1) ⟨[], 0⟩).name z.name = true) := Lib.hid (HLT.out.trans hl)
            by_cases hc : inB 1 ((f.nodes.length : Int) - 1) r = true
            · have HC := Lib.hid hc
              obtain ⟨r1, r2⟩ := inB_t hc
              obtain ⟨m, rfl⟩ : ∃ m : Nat, r = m := ⟨r.toNat, by omega⟩
              have hml : m < f.nodes.length := by omega
              obtain ⟨g, off, nl, rfl, hg, hcc, -, -⟩ := HH.out m hml
              have d0 := (HB2.out.cell (p := ⟨g, off + m * 7, none⟩) hg).trans hcc.c0
              obtain ⟨kd, hkd⟩ : ∃ kd, kd = f.nodes[m].kind := ⟨_, rfl⟩
              rw [← hkd] at d0
              have HKD : Hid (kindAt f.nodes (m : Int) = kd) := Lib.hid (by rw [hkd]; simp [kindAt, List.getD, hml])
              have z3 := fun d os => cell_regrown (w := W2) d0 d os
              clear hcc hkd hc
              by_cases hz : kd = 0
              · have HF : Hid (entsOk f.nodes es = false) := Lib.hid (entsOk_no hlt (by unfold entOk; rw [HK.out, HA.out, ← HR.out, HL.out, HKD.out, hz]; simp))
                subst hz
                refine wp_region_quiet_below (by kernel_rfl) (by kernel_rfl) ?_
                repeat (first | go_big_quiet_step ((first | (go_at_call 100; exact Calls.regrown_of (l2Name_is HA.out HNL.out _ HY.out _)) | (go_at_call 57; exact Calls.regrown_of (l1In_is HC.out _)))) | quiet_step ((first | (go_at_call 100; exact Calls.regrown_of (l2Name_is HA.out HNL.out _ HY.out _)) | (go_at_call 57; exact Calls.regrown_of (l1In_is HC.out _)))))
                refine wpQuiet_nil ?_
                intro w5 hwq
                have hb5 : Below W2.heap.size W2 w5 := by
                  obtain ⟨pp, rfl⟩ := hwq
                  exact below_regrown _ _ _
                have HB5 := Lib.hid (HB2.out.trans (hb5.mono HB2.out.size))
                have HW5 := Lib.hid ((hb5.block w.heap.size (lt_of_heap HW2.out)).trans HW2.out)
                clear hwq hb5
                go_wp2
                go_ret
                exact ⟨ret_bool HF.out.symm, HB5.out⟩
              · have HO : Hid (entOk f.nodes es (j + 1) = true) := Lib.hid (by unfold entOk; rw [HK.out, HA.out, ← HR.out, HL.out, HKD.out, HC.out]; simp [hz])
                have HJ2 : Hid (∀ i, i < j + 1 + 1 → entOk f.nodes es i = true) := Lib.hid (by
                  intro i h
                  rcases Nat.lt_succ_iff_lt_or_eq.1 h with h1 | rfl
                  · exact HJ.out i h1
                  · exact HO.out)
                refine wp_region_quiet_below (by kernel_rfl) (by kernel_rfl) ?_
                repeat (first | go_big_quiet_step ((first | (go_at_call 100; exact Calls.regrown_of (l2Name_is HA.out HNL.out _ HY.out _)) | (go_at_call 57; exact Calls.regrown_of (l1In_is HC.out _)))) | quiet_step ((first | (go_at_call 100; exact Calls.regrown_of (l2Name_is HA.out HNL.out _ HY.out _)) | (go_at_call 57; exact Calls.regrown_of (l1In_is HC.out _)))))
                refine wpQuiet_nil ?_
                intro w5 hwq
                have hb5 : Below W2.heap.size W2 w5 := by
                  obtain ⟨pp, rfl⟩ := hwq
                  exact below_regrown _ _ _
                have HB5 := Lib.hid (HB2.out.trans (hb5.mono HB2.out.size))
                have HW5 := Lib.hid ((hb5.block w.heap.size (lt_of_heap HW2.out)).trans HW2.out)
                clear hwq hb5
                go_wp2
                go_roundw
                case rel => exact ⟨_, hlt, by go_num, HB5.out, HW5.out, HJ2.out⟩
                case measure => simp [intOf]; omega
            · have HC : Hid (inB 1 ((f.nodes.length : Int) - 1) r = false) := Lib.hid (by simpa using hc)
              have HF : Hid (entsOk f.nodes es = false) := Lib.hid (entsOk_no hlt (by unfold entOk; rw [HK.out, HA.out, ← HR.out, HL.out, HC.out]; simp))
              clear hc
              refine wp_region_quiet_below (by kernel_rfl) (by kernel_rfl) ?_
              repeat (first | go_big_quiet_step ((first | (go_at_call 100; exact Calls.regrown_of (l2Name_is HA.out HNL.out _ HY.out _)) | (go_at_call 57; exact Calls.regrown_of (l1In_is HC.out _)))) | quiet_step ((first | (go_at_call 100; exact Calls.regrown_of (l2Name_is HA.out HNL.out _ HY.out _)) | (go_at_call 57; exact Calls.regrown_of (l1In_is HC.out _)))))
              refine wpQuiet_nil ?_
              intro w5 hwq
              have hb5 : Below W2.heap.size W2 w5 := by
                obtain ⟨pp, rfl⟩ := hwq
                exact below_regrown _ _ _
              have HB5 := Lib.hid (HB2.out.trans (hb5.mono HB2.out.size))
              have HW5 := Lib.hid ((hb5.block w.heap.size (lt_of_heap HW2.out)).trans HW2.out)
              clear hwq hb5
              go_wp2
              go_ret
              exact ⟨ret_bool HF.out.symm, HB5.out⟩
          · have hl2 : Op.bytesLess x.toList y.toList = false := by simpa using hl
            have HF : Hid (entsOk f.nodes es = false) := Lib.hid (entsOk_no hlt (by unfold entOk; rw [HK.out, HLT.out, hl2]; simp))
            clear hl
            refine wp_region_quiet_below (by kernel_rfl) (by kernel_rfl) ?_
            repeat (first | go_big_quiet_step ((go_at_call 100; exact Calls.regrown_of (l2Name_is HA.out HNL.out _ HY.out _))) | quiet_step ((go_at_call 100; exact Calls.regrown_of (l2Name_is HA.out HNL.out _ HY.out _))))
            refine wpQuiet_nil ?_
            intro w5 hwq
            have hb5 : Below W2.heap.size W2 w5 := by
              obtain ⟨pp, rfl⟩ := hwq
              exact below_regrown _ _ _
            have HB5 := Lib.hid (HB2.out.trans (hb5.mono HB2.out.size))
            have HW5 := Lib.hid ((hb5.block w.heap.size (lt_of_heap HW2.out)).trans HW2.out)
            clear hwq hb5
            go_wp2
            go_ret
            exact ⟨ret_bool HF.out.symm, HB5.out⟩
      · have HA : Hid (nameB z.name = false) := Lib.hid (by simpa using hna)
        have HF : Hid (entsOk f.nodes es = false) := Lib.hid (entsOk_no hlt (by unfold entOk; rw [HK.out, HA.out]; simp))
        clear hna
        refine wp_region_quiet_below (by kernel_rfl) (by kernel_rfl) ?_
        repeat (first | go_big_quiet_step ((go_at_call 100; exact Calls.regrown_of (l2Name_is HA.out HNL.out _ HY.out _))) | quiet_step ((go_at_call 100; exact Calls.regrown_of (l2Name_is HA.out HNL.out _ HY.out _))))
        refine wpQuiet_nil ?_
        intro w5 hwq
        have hb5 : Below W2.heap.size W2 w5 := by
          obtain ⟨pp, rfl⟩ := hwq
          exact below_regrown _ _ _
        have HB5 := Lib.hid (HB2.out.trans (hb5.mono HB2.out.size))
        have HW5 := Lib.hid ((hb5.block w.heap.size (lt_of_heap HW2.out)).trans HW2.out)
        clear hwq hb5
        go_wp2
        go_ret
        exact ⟨ret_bool HF.out.symm, HB5.out⟩
    · go_wp2
      go_ret
      exact ⟨ret_bool (entsOk_yes fun j h => HJ.out j (by omega)).symm, hB⟩
end Go.Proofs.Ytbmbbioanlcioaa
