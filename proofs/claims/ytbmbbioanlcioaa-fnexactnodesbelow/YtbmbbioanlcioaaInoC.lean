
/-
  Contracts of the other kinds' isGood and of isGoodNode.
  Conditions: the node's cells read as plain data; a list of at most 2^20 entries.
-/
import Derived.Test.YtbmbbioanlcioaaInoB
import Derived.Test.YtbmbbioanlcioaaPlcM
namespace Go.Proofs.Ytbmbbioanlcioaa
open Go.ChangeShapes Go.WideShapes Go.ChangeAt Go.RowKit Go.Joins
set_option linter.unusedVariables false
set_option linter.unusedSimpArgs false

theorem goodPath_is {l : List UInt8} {b : Bool} (h : goodB l = b) (s : ByteArray) (hs : s = bs l) (hm : l.length ≤ maxLen) (w : World) : Calls Try.prog 109 #[.string s] w fun e w' => e = .returned (.bool b) ∧ Below w.heap.size w w' :=
  (goodPath_any s w (by rw [hs, bs_size]; exact hm)).mono fun e w' ⟨h1, h2⟩ => ⟨by rw [h1, hs, ← h]; simp [bs], h2⟩

set_option maxHeartbeats 2000000 in
theorem fileGood_any (q : Nod) (lv : Value) (g p : Nat) (w : World) (hg : g < w.heap.size) (hc : NodC w g p lv q) (hE : EntsA w lv q.list) (hd : q.data.length ≤ 1048576) : Calls Try.prog 89 #[.agg #[.pointer (some ⟨g, p, none⟩)]] w fun e w' => e = .returned (.bool (attrB q && (decide (q.data.length ≤ 60) && q.list.isEmpty))) ∧ Below w.heap.size w w' := by
  have hb0 : Below w.heap.size w (w.alloc (.cells #[.pointer (some ⟨g, p, none⟩)] 124)) := (Below.refl _ _).alloc (Nat.le_refl _) _
  have HB0 := Lib.hid hb0
  have HK0 := Lib.hid (heap_alloc_new w (.cells #[.pointer (some ⟨g, p, none⟩)] 124))
  have HC := Lib.hid hc
  have HE := Lib.hid hE
  clear hb0 hc hE
  have HZ : Hid ((bs q.data).size = q.data.length) := Lib.hid (bs_size _)
  obtain ⟨x, hx⟩ : ∃ x, x = bs q.data := ⟨_, rfl⟩
  have HX := Lib.hid hx
  rw [← hx] at HZ
  clear hx
  by_cases h1 : attrB q = true
  · have H1 := Lib.hid h1
    by_cases h2 : q.data.length ≤ 60
    · have HF : Hid ((attrB q && (decide (q.data.length ≤ 60) && q.list.isEmpty)) = q.list.isEmpty) := Lib.hid (by rw [h1]; simp [h2])
      have h3 : x.size ≤ 60 := by rw [HZ.out]; exact h2
      clear h1 h2
      go_enter Try.func89, Try.ntmps89
      go_wp2_with fail
      refine (hasAttr_any q _ g p _ (Nat.lt_of_lt_of_le hg HB0.out.size) (HC.out.below HB0.out hg)).mono ?_
      rintro e w1 ⟨rfl, hb1⟩
      rw [H1.out]
      have HB1 := Lib.hid (HB0.out.trans (hb1.mono HB0.out.size))
      have HK1 := Lib.hid ((hb1.block w.heap.size (lt_of_heap HK0.out)).trans HK0.out)
      have x1c0 := (cell_blk HK1.out 0).trans rfl
      clear hb1
      have d5 := (HB1.out.cell (p := ⟨g, p + 5, none⟩) hg).trans HC.out.c5
      rw [← HX.out] at d5
      go_wp2_with fail
      refine (hasList_any q _ g p _ (Nat.lt_of_lt_of_le hg HB1.out.size) (HC.out.below HB1.out hg) (HE.out.below HB1.out)).mono ?_
      rintro e w2 ⟨rfl, hb2⟩
      have HB2 := Lib.hid (HB1.out.trans (hb2.mono HB1.out.size))
      have HK2 := Lib.hid ((hb2.block w.heap.size (lt_of_heap HK1.out)).trans HK1.out)
      have x2c0 := (cell_blk HK2.out 0).trans rfl
      clear hb2
      go_wp2
      go_ret
      exact ⟨ret_bool (by rw [HF.out]; try simp), HB2.out⟩
    · have HF : Hid ((attrB q && (decide (q.data.length ≤ 60) && q.list.isEmpty)) = false) := Lib.hid (by simp [h2])
      have h3 : ¬ x.size ≤ 60 := by rw [HZ.out]; exact h2
      have h4 : x.size ≤ 1048576 := by rw [HZ.out]; exact hd
      clear h1 h2
      go_enter Try.func89, Try.ntmps89
      go_wp2_with fail
      refine (hasAttr_any q _ g p _ (Nat.lt_of_lt_of_le hg HB0.out.size) (HC.out.below HB0.out hg)).mono ?_
      rintro e w1 ⟨rfl, hb1⟩
      rw [H1.out]
      have HB1 := Lib.hid (HB0.out.trans (hb1.mono HB0.out.size))
      have HK1 := Lib.hid ((hb1.block w.heap.size (lt_of_heap HK0.out)).trans HK0.out)
      have x1c0 := (cell_blk HK1.out 0).trans rfl
      clear hb1
      have d5 := (HB1.out.cell (p := ⟨g, p + 5, none⟩) hg).trans HC.out.c5
      rw [← HX.out] at d5
      go_wp2
      go_ret
      exact ⟨ret_bool HF.out.symm, HB1.out⟩
  · have H1 : Hid (attrB q = false) := Lib.hid (by simpa using h1)
    have HF : Hid ((attrB q && (decide (q.data.length ≤ 60) && q.list.isEmpty)) = false) := Lib.hid (by rw [H1.out]; rfl)
    clear h1
    go_enter Try.func89, Try.ntmps89
    go_wp2_with fail
    refine (hasAttr_any q _ g p _ (Nat.lt_of_lt_of_le hg HB0.out.size) (HC.out.below HB0.out hg)).mono ?_
    rintro e w1 ⟨rfl, hb1⟩
    rw [H1.out]
    have HB1 := Lib.hid (HB0.out.trans (hb1.mono HB0.out.size))
    have HK1 := Lib.hid ((hb1.block w.heap.size (lt_of_heap HK0.out)).trans HK0.out)
    have x1c0 := (cell_blk HK1.out 0).trans rfl
    clear hb1
    go_wp2
    go_ret
    exact ⟨ret_bool HF.out.symm, HB1.out⟩

set_option maxHeartbeats 2000000 in
theorem linkGood_any (q : Nod) (lv : Value) (g p : Nat) (w : World) (hg : g < w.heap.size) (hc : NodC w g p lv q) (hE : EntsA w lv q.list) (hm : q.data.length ≤ maxLen) : Calls Try.prog 91 #[.agg #[.pointer (some ⟨g, p, none⟩)]] w fun e w' => e = .returned (.bool (attrB q && (goodB q.data && q.list.isEmpty))) ∧ Below w.heap.size w w' := by
  have hb0 : Below w.heap.size w (w.alloc (.cells #[.pointer (some ⟨g, p, none⟩)] 126)) := (Below.refl _ _).alloc (Nat.le_refl _) _
  have HB0 := Lib.hid hb0
  have HK0 := Lib.hid (heap_alloc_new w (.cells #[.pointer (some ⟨g, p, none⟩)] 126))
  have HC := Lib.hid hc
  have HE := Lib.hid hE
  clear hb0 hc hE
  obtain ⟨x, hx⟩ : ∃ x, x = bs q.data := ⟨_, rfl⟩
  have HX := Lib.hid hx
  clear hx
  by_cases h1 : attrB q = true
  · have H1 := Lib.hid h1
    by_cases h2 : goodB q.data = true
    · have HP := Lib.hid h2
      have HF : Hid ((attrB q && (goodB q.data && q.list.isEmpty)) = q.list.isEmpty) := Lib.hid (by rw [h1, h2]; rfl)
      clear h1 h2
      go_enter Try.func91, Try.ntmps91
      go_wp2_with fail
      refine (hasAttr_any q _ g p _ (Nat.lt_of_lt_of_le hg HB0.out.size) (HC.out.below HB0.out hg)).mono ?_
      rintro e w1 ⟨rfl, hb1⟩
      rw [H1.out]
      have HB1 := Lib.hid (HB0.out.trans (hb1.mono HB0.out.size))
      have HK1 := Lib.hid ((hb1.block w.heap.size (lt_of_heap HK0.out)).trans HK0.out)
      have x1c0 := (cell_blk HK1.out 0).trans rfl
      clear hb1
      have d5 := (HB1.out.cell (p := ⟨g, p + 5, none⟩) hg).trans HC.out.c5
      rw [← HX.out] at d5
      go_wp2_with fail
      refine (goodPath_is HP.out _ HX.out hm _).mono ?_
      rintro e w2 ⟨rfl, hb2⟩
      have HB2 := Lib.hid (HB1.out.trans (hb2.mono HB1.out.size))
      have HK2 := Lib.hid ((hb2.block w.heap.size (lt_of_heap HK1.out)).trans HK1.out)
      have x2c0 := (cell_blk HK2.out 0).trans rfl
      clear hb2
      go_wp2_with fail
      refine (hasList_any q _ g p _ (Nat.lt_of_lt_of_le hg HB2.out.size) (HC.out.below HB2.out hg) (HE.out.below HB2.out)).mono ?_
      rintro e w3 ⟨rfl, hb3⟩
      have HB3 := Lib.hid (HB2.out.trans (hb3.mono HB2.out.size))
      have HK3 := Lib.hid ((hb3.block w.heap.size (lt_of_heap HK2.out)).trans HK2.out)
      have x3c0 := (cell_blk HK3.out 0).trans rfl
      clear hb3
      go_wp2
      go_ret
      exact ⟨ret_bool (by rw [HF.out]; try simp), HB3.out⟩
    · have HP : Hid (goodB q.data = false) := Lib.hid (by simpa using h2)
      have HF : Hid ((attrB q && (goodB q.data && q.list.isEmpty)) = false) := Lib.hid (by rw [HP.out]; simp)
      clear h1 h2
      go_enter Try.func91, Try.ntmps91
      go_wp2_with fail
      refine (hasAttr_any q _ g p _ (Nat.lt_of_lt_of_le hg HB0.out.size) (HC.out.below HB0.out hg)).mono ?_
      rintro e w1 ⟨rfl, hb1⟩
      rw [H1.out]
      have HB1 := Lib.hid (HB0.out.trans (hb1.mono HB0.out.size))
      have HK1 := Lib.hid ((hb1.block w.heap.size (lt_of_heap HK0.out)).trans HK0.out)
      have x1c0 := (cell_blk HK1.out 0).trans rfl
      clear hb1
      have d5 := (HB1.out.cell (p := ⟨g, p + 5, none⟩) hg).trans HC.out.c5
      rw [← HX.out] at d5
      go_wp2_with fail
      refine (goodPath_is HP.out _ HX.out hm _).mono ?_
      rintro e w2 ⟨rfl, hb2⟩
      have HB2 := Lib.hid (HB1.out.trans (hb2.mono HB1.out.size))
      have HK2 := Lib.hid ((hb2.block w.heap.size (lt_of_heap HK1.out)).trans HK1.out)
      have x2c0 := (cell_blk HK2.out 0).trans rfl
      clear hb2
      go_wp2
      go_ret
      exact ⟨ret_bool HF.out.symm, HB2.out⟩
  · have H1 : Hid (attrB q = false) := Lib.hid (by simpa using h1)
    have HF : Hid ((attrB q && (goodB q.data && q.list.isEmpty)) = false) := Lib.hid (by rw [H1.out]; rfl)
    clear h1
    go_enter Try.func91, Try.ntmps91
    go_wp2_with fail
    refine (hasAttr_any q _ g p _ (Nat.lt_of_lt_of_le hg HB0.out.size) (HC.out.below HB0.out hg)).mono ?_
    rintro e w1 ⟨rfl, hb1⟩
    rw [H1.out]
    have HB1 := Lib.hid (HB0.out.trans (hb1.mono HB0.out.size))
    have HK1 := Lib.hid ((hb1.block w.heap.size (lt_of_heap HK0.out)).trans HK0.out)
    have x1c0 := (cell_blk HK1.out 0).trans rfl
    clear hb1
    go_wp2
    go_ret
    exact ⟨ret_bool HF.out.symm, HB1.out⟩

theorem isGoodEntry_is {e : Ent} {count : Int} {b : Bool} (h : (nameB e.name && inB 0 (count - 1) e.node) = b) (s : ByteArray) (w : World) (hs : s = bs e.name) : Calls Try.prog 108 #[.agg #[.string s, .int .i64 e.node], .int .i64 count] w fun x w' => x = .returned (.bool b) ∧ Below w.heap.size w w' :=
  (isGoodEntry_any e count s w hs).mono fun x w' ⟨h1, h2⟩ => ⟨by rw [h1, h], h2⟩
def entGoodB (count : Int) (e : Ent) : Bool := nameB e.name && inB 0 (count - 1) e.node
theorem entOkI_is {count : Int} {es : List Ent} {k : Nat} (h : k < es.length) : entOkI count es k = (entGoodB count es[k] && (k == 0 || Op.bytesLess (es.getD (k - 1) ⟨[], 0⟩).name es[k].name)) := by
  have e1 : es.getD k ⟨[], 0⟩ = es[k] := by simp [List.getD, h]
  unfold entOkI entGoodB
  rw [e1]
  cases nameB es[k].name <;> cases inB 0 (count - 1) es[k].node <;> simp
theorem entsOkI_no {count : Int} {es : List Ent} {k : Nat} (hk : k < es.length) (h : entOkI count es k = false) : entsOkI count es = false := by
  unfold entsOkI
  rw [List.all_eq_false]
  exact ⟨k, List.mem_range.2 hk, by rw [h]; simp⟩
theorem entsOkI_yes {count : Int} {es : List Ent} (h : ∀ k, k < es.length → entOkI count es k = true) : entsOkI count es = true := by
  unfold entsOkI
  rw [List.all_eq_true]
  exact fun k hk => h k (List.mem_range.1 hk)

set_option maxHeartbeats 4000000 in
theorem dirGood_any (q : Nod) (lv : Value) (g p : Nat) (count : Int) (w : World) (hg : g < w.heap.size) (hc : NodC w g p lv q) (hE : EntsA w lv q.list) (hs : q.list.length ≤ 1048576) : Calls Try.prog 90 #[.agg #[.pointer (some ⟨g, p, none⟩)], .int .i64 count] w fun e w' => e = .returned (.bool (attrB q && (q.data.isEmpty && entsOkI count q.list))) ∧ Below w.heap.size w w' := by
  have hb0 : Below w.heap.size w (w.alloc (.cells #[.pointer (some ⟨g, p, none⟩)] 125)) := (Below.refl _ _).alloc (Nat.le_refl _) _
  have HB0 := Lib.hid hb0
  have HK0 := Lib.hid (heap_alloc_new w (.cells #[.pointer (some ⟨g, p, none⟩)] 125))
  have HC := Lib.hid hc
  have HE := Lib.hid hE
  clear hb0 hc hE
  by_cases h1 : attrB q = true
  · have H1 := Lib.hid h1
    by_cases h2 : q.data.isEmpty = true
    · have H2 : Hid ((!q.data.isEmpty) = false) := Lib.hid (by rw [h2]; rfl)
      have HF : Hid ((attrB q && (q.data.isEmpty && entsOkI count q.list)) = entsOkI count q.list) := Lib.hid (by rw [h1, h2]; rfl)
      obtain ⟨o2, c2, rfl, -, hH⟩ := id HE.out
      have HH := Lib.hid hH
      clear h1 h2 hH
      go_enter Try.func90, Try.ntmps90
      go_wp2_with fail
      refine (hasAttr_any q _ g p _ (Nat.lt_of_lt_of_le hg HB0.out.size) (HC.out.below HB0.out hg)).mono ?_
      rintro e w1 ⟨rfl, hb1⟩
      rw [H1.out]
      have HB1 := Lib.hid (HB0.out.trans (hb1.mono HB0.out.size))
      have HK1 := Lib.hid ((hb1.block w.heap.size (lt_of_heap HK0.out)).trans HK0.out)
      have x1c0 := (cell_blk HK1.out 0).trans rfl
      clear hb1
      go_wp2_with fail
      refine (hasData_any q _ g p _ (Nat.lt_of_lt_of_le hg HB1.out.size) (HC.out.below HB1.out hg)).mono ?_
      rintro e w2 ⟨rfl, hb2⟩
      rw [H2.out]
      have HB2 := Lib.hid (HB1.out.trans (hb2.mono HB1.out.size))
      have HK2 := Lib.hid ((hb2.block w.heap.size (lt_of_heap HK1.out)).trans HK1.out)
      have x2c0 := (cell_blk HK2.out 0).trans rfl
      clear hb2
      have d6 := (HB2.out.cell (p := ⟨g, p + 6, none⟩) hg).trans HC.out.c6
      go_wp2
      go_loopw [23] (fun i wr => ∃ j : Nat, j ≤ q.list.length ∧ i = .int .i64 j ∧ Below w.heap.size w wr ∧ wr.heap[w.heap.size]? = some (.cells #[.pointer (some ⟨g, p, none⟩)] 125) ∧ ∀ k, k < j → entOkI count q.list k = true) (fun i _ => q.list.length - (intOf i).toNat)
      case atStart => exact ⟨0, Nat.zero_le _, rfl, HB2.out, HK2.out, fun j h => absurd h (Nat.not_lt_zero _)⟩
      case round =>
        obtain ⟨j, hj, rfl, hB, hb, hJ⟩ := hrel
        have HJ := Lib.hid hJ
        clear hJ
        by_cases hlt : j < q.list.length
        · obtain ⟨g2, f2, rfl, q2, y1, y2, hn⟩ := HH.out j hlt
          have a1 := (hB.cell (p := ⟨g2, f2 + j * 2, none⟩) q2).trans y1
          have a2 := (hB.cell (p := ⟨g2, f2 + j * 2 + 1, none⟩) q2).trans y2
          have HO := Lib.hid (entOkI_is (count := count) hlt)
          obtain ⟨y, hyy⟩ : ∃ y, y = bs q.list[j].name := ⟨_, rfl⟩
          have HY := Lib.hid hyy
          rw [← hyy] at a1
          have HA : Hid (∀ oo, Below w.heap.size w (wr.alloc oo)) := Lib.hid (fun oo => hB.alloc hB.size oo)
          have HW : Hid (∀ oo, (wr.alloc oo).heap[w.heap.size]? = some (.cells #[.pointer (some ⟨g, p, none⟩)] 125)) := Lib.hid (fun oo => (Below.heap_alloc _ _ _ (lt_of_heap hb)).trans hb)
          have e0 := cell_blk (heap_alloc_new wr (.cells #[.string y, .int .i64 q.list[j].node] 67)) 0
          have e1 := cell_blk (heap_alloc_new wr (.cells #[.string y, .int .i64 q.list[j].node] 67)) 1
          have s0 := cell_blk (HW.out (.cells #[.string y, .int .i64 q.list[j].node] 67)) 0
          clear y1 y2 hyy hn
          go_wp2
          have HB2 := Lib.hid (HA.out (.cells #[.string y, .int .i64 q.list[j].node] 67))
          have HW2 := Lib.hid (HW.out (.cells #[.string y, .int .i64 q.list[j].node] 67))
          obtain ⟨W2, hW2⟩ : ∃ W2, wr.alloc (.cells #[.string y, .int .i64 q.list[j].node] 67) = W2 := ⟨_, rfl⟩
          rw [hW2] at e0 e1 s0 HB2 HW2 ⊢
          have e0' := e0.trans rfl
          have e1' := e1.trans rfl
          have s0' := s0.trans rfl
          have d6' := (HB2.out.cell (p := ⟨g, p + 6, none⟩) hg).trans HC.out.c6
          clear hW2 HW HA e0 e1 s0
          have z0 := fun d os => cell_regrown (w := W2) e0' d os
          have z1 := fun d os => cell_regrown (w := W2) e1' d os
          have z2 := fun d os => cell_regrown (w := W2) s0' d os
          have z3 := fun d os => cell_regrown (w := W2) d6' d os
          by_cases hgd : entGoodB count q.list[j] = true
          · have HG : Hid ((nameB q.list[j].name && inB 0 (count - 1) q.list[j].node) = true) := Lib.hid hgd
            rcases Nat.eq_zero_or_pos j with rfl | hpos
            · have HJ2 : Hid (∀ i, i < 0 + 1 → entOkI count q.list i = true) := Lib.hid (by
                intro i h
                obtain rfl : i = 0 := by omega
                rw [HO.out, hgd]; rfl)
              refine wp_region_quiet_below (by kernel_rfl) (by kernel_rfl) ?_
              repeat (first | go_big_quiet_step ((go_at_call 108; exact Calls.regrown_of (isGoodEntry_is HG.out y _ HY.out))) | quiet_step ((go_at_call 108; exact Calls.regrown_of (isGoodEntry_is HG.out y _ HY.out))))
              refine wpQuiet_nil ?_
              intro w5 hwq
              have hb5 : Below W2.heap.size W2 w5 := by
                obtain ⟨pp, rfl⟩ := hwq
                exact below_regrown _ _ _
              have HB5 := Lib.hid (HB2.out.trans (hb5.mono HB2.out.size))
              have HW5 := Lib.hid ((hb5.block w.heap.size (lt_of_heap HW2.out)).trans HW2.out)
              clear hwq hb5
              go_wp2
              go_roundw
              case rel => exact ⟨0 + 1, hlt, by go_num, HB5.out, HW5.out, HJ2.out⟩
              case measure => simp [intOf]; omega
            · obtain ⟨m, rfl⟩ : ∃ m, j = m + 1 := ⟨j - 1, by omega⟩
              obtain ⟨g3, f3, e3, -, y3, -, -⟩ := HH.out m (by omega)
              obtain ⟨rfl, rfl⟩ : g2 = g3 ∧ f2 = f3 := by simpa using e3
              have p0 := (HB2.out.cell (p := ⟨g2, f2 + m * 2, none⟩) q2).trans y3
              obtain ⟨x, hx⟩ : ∃ x, x = bs q.list[m].name := ⟨_, rfl⟩
              rw [← hx] at p0
              have z4 := fun d os => cell_regrown (w := W2) p0 d os
              have HLT : Hid (Op.bytesLess (q.list.getD (m + 1 - 1) ⟨[], 0⟩).name q.list[m + 1].name = Op.bytesLess x.toList y.toList) := Lib.hid (by
                have h1 : q.list.getD (m + 1 - 1) ⟨[], 0⟩ = q.list[m] := by simp [List.getD, show m < q.list.length by omega]
                rw [h1, hx, HY.out, bsl, bsl])
              clear y3 hx e3
              by_cases hl : Op.bytesLess x.toList y.toList = true
              · have HJ2 : Hid (∀ i, i < m + 1 + 1 → entOkI count q.list i = true) := Lib.hid (by
                  intro i h
                  rcases Nat.lt_succ_iff_lt_or_eq.1 h with h1 | rfl
                  · exact HJ.out i h1
                  · rw [HO.out, hgd, HLT.out, hl]; simp)
                refine wp_region_quiet_below (by kernel_rfl) (by kernel_rfl) ?_
                repeat (first | go_big_quiet_step ((go_at_call 108; exact Calls.regrown_of (isGoodEntry_is HG.out y _ HY.out))) | quiet_step ((go_at_call 108; exact Calls.regrown_of (isGoodEntry_is HG.out y _ HY.out))))
                refine wpQuiet_nil ?_
                intro w5 hwq
                have hb5 : Below W2.heap.size W2 w5 := by
                  obtain ⟨pp, rfl⟩ := hwq
                  exact below_regrown _ _ _
                have HB5 := Lib.hid (HB2.out.trans (hb5.mono HB2.out.size))
                have HW5 := Lib.hid ((hb5.block w.heap.size (lt_of_heap HW2.out)).trans HW2.out)
                clear hwq hb5
                go_wp2
                go_roundw
                case rel => exact ⟨m + 1 + 1, hlt, by go_num, HB5.out, HW5.out, HJ2.out⟩
                case measure => simp [intOf]; omega
              · have HNO : Hid (entsOkI count q.list = false) := Lib.hid (entsOkI_no hlt (by rw [HO.out, HLT.out]; simp [hl]))
                refine wp_region_quiet_below (by kernel_rfl) (by kernel_rfl) ?_
                repeat (first | go_big_quiet_step ((go_at_call 108; exact Calls.regrown_of (isGoodEntry_is HG.out y _ HY.out))) | quiet_step ((go_at_call 108; exact Calls.regrown_of (isGoodEntry_is HG.out y _ HY.out))))
                refine wpQuiet_nil ?_
                intro w5 hwq
                have hb5 : Below W2.heap.size W2 w5 := by
                  obtain ⟨pp, rfl⟩ := hwq
                  exact below_regrown _ _ _
                have HB5 := Lib.hid (HB2.out.trans (hb5.mono HB2.out.size))
                have HW5 := Lib.hid ((hb5.block w.heap.size (lt_of_heap HW2.out)).trans HW2.out)
                clear hwq hb5
                go_wp2
                go_ret
                exact ⟨ret_bool (by rw [HF.out, HNO.out]), HB5.out⟩
          · have HG : Hid ((nameB q.list[j].name && inB 0 (count - 1) q.list[j].node) = false) := Lib.hid (show entGoodB count q.list[j] = false by simpa using hgd)
            have HNO : Hid (entsOkI count q.list = false) := Lib.hid (entsOkI_no hlt (by rw [HO.out, show entGoodB count q.list[j] = false from HG.out]; rfl))
            refine wp_region_quiet_below (by kernel_rfl) (by kernel_rfl) ?_
            repeat (first | go_big_quiet_step ((go_at_call 108; exact Calls.regrown_of (isGoodEntry_is HG.out y _ HY.out))) | quiet_step ((go_at_call 108; exact Calls.regrown_of (isGoodEntry_is HG.out y _ HY.out))))
            refine wpQuiet_nil ?_
            intro w5 hwq
            have hb5 : Below W2.heap.size W2 w5 := by
              obtain ⟨pp, rfl⟩ := hwq
              exact below_regrown _ _ _
            have HB5 := Lib.hid (HB2.out.trans (hb5.mono HB2.out.size))
            have HW5 := Lib.hid ((hb5.block w.heap.size (lt_of_heap HW2.out)).trans HW2.out)
            clear hwq hb5
            go_wp2
            go_ret
            exact ⟨ret_bool (by rw [HF.out, HNO.out]), HB5.out⟩
        · have HYES : Hid (entsOkI count q.list = true) := Lib.hid (entsOkI_yes (fun k hk => HJ.out k (by omega)))
          go_wp2
          go_ret
          exact ⟨ret_bool (by rw [HF.out, HYES.out]), hB⟩
    · have H2 : Hid ((!q.data.isEmpty) = true) := Lib.hid (by simpa using h2)
      have HF : Hid ((attrB q && (q.data.isEmpty && entsOkI count q.list)) = false) := Lib.hid (by rw [show q.data.isEmpty = false by simpa using h2]; simp)
      clear h1 h2
      go_enter Try.func90, Try.ntmps90
      go_wp2_with fail
      refine (hasAttr_any q _ g p _ (Nat.lt_of_lt_of_le hg HB0.out.size) (HC.out.below HB0.out hg)).mono ?_
      rintro e w1 ⟨rfl, hb1⟩
      rw [H1.out]
      have HB1 := Lib.hid (HB0.out.trans (hb1.mono HB0.out.size))
      have HK1 := Lib.hid ((hb1.block w.heap.size (lt_of_heap HK0.out)).trans HK0.out)
      have x1c0 := (cell_blk HK1.out 0).trans rfl
      clear hb1
      go_wp2_with fail
      refine (hasData_any q _ g p _ (Nat.lt_of_lt_of_le hg HB1.out.size) (HC.out.below HB1.out hg)).mono ?_
      rintro e w2 ⟨rfl, hb2⟩
      rw [H2.out]
      have HB2 := Lib.hid (HB1.out.trans (hb2.mono HB1.out.size))
      have HK2 := Lib.hid ((hb2.block w.heap.size (lt_of_heap HK1.out)).trans HK1.out)
      have x2c0 := (cell_blk HK2.out 0).trans rfl
      clear hb2
      go_wp2
      go_ret
      exact ⟨ret_bool HF.out.symm, HB2.out⟩
  · have H1 : Hid (attrB q = false) := Lib.hid (by simpa using h1)
    have HF : Hid ((attrB q && (q.data.isEmpty && entsOkI count q.list)) = false) := Lib.hid (by rw [H1.out]; rfl)
    clear h1
    go_enter Try.func90, Try.ntmps90
    go_wp2_with fail
    refine (hasAttr_any q _ g p _ (Nat.lt_of_lt_of_le hg HB0.out.size) (HC.out.below HB0.out hg)).mono ?_
    rintro e w1 ⟨rfl, hb1⟩
    rw [H1.out]
    have HB1 := Lib.hid (HB0.out.trans (hb1.mono HB0.out.size))
    have HK1 := Lib.hid ((hb1.block w.heap.size (lt_of_heap HK0.out)).trans HK0.out)
    have x1c0 := (cell_blk HK1.out 0).trans rfl
    clear hb1
    go_wp2
    go_ret
    exact ⟨ret_bool HF.out.symm, HB1.out⟩

theorem nodOkI_free {c : Int} {q : Nod} (h : q.kind = 0) : nodOkI c q = (noneB q && (q.data.isEmpty && q.list.isEmpty)) := by
  unfold nodOkI noneB
  rw [if_pos h]
  simp only [Bool.and_assoc]
theorem nodOkI_file {c : Int} {q : Nod} (h : q.kind = 1) : nodOkI c q = (attrB q && (decide (q.data.length ≤ 60) && q.list.isEmpty)) := by
  unfold nodOkI attrB
  rw [if_neg (by omega), if_pos h]
  simp only [Bool.and_assoc]
theorem nodOkI_dirs {c : Int} {q : Nod} (h : q.kind = 2) : nodOkI c q = (attrB q && (q.data.isEmpty && entsOkI c q.list)) := by
  unfold nodOkI attrB
  rw [if_neg (by omega), if_neg (by omega), if_pos h]
  simp only [Bool.and_assoc]
theorem nodOkI_link {c : Int} {q : Nod} (h : q.kind = 3) : nodOkI c q = (attrB q && (goodB q.data && q.list.isEmpty)) := by
  unfold nodOkI attrB
  rw [if_neg (by omega), if_neg (by omega), if_neg (by omega), h]
  simp [Bool.and_assoc]
theorem nodOkI_else {c : Int} {q : Nod} (h0 : q.kind ≠ 0) (h1 : q.kind ≠ 1) (h2 : q.kind ≠ 2) (h3 : q.kind ≠ 3) : nodOkI c q = false := by
  unfold nodOkI
  rw [if_neg h0, if_neg h1, if_neg h2]
  simp [h3]

set_option maxHeartbeats 2000000 in
theorem isGoodNode_any (q : Nod) (lv : Value) (g p : Nat) (count : Int) (w : World) (hg : g < w.heap.size) (hc : NodC w g p lv q) (hE : EntsA w lv q.list) (hs : q.list.length ≤ 1048576) (hd : q.data.length ≤ 1048576) : Calls Try.prog 65 #[.pointer (some ⟨g, p, none⟩), .int .i64 count] w fun e w' => e = .returned (.bool (nodOkI count q)) ∧ Below w.heap.size w w' := by
  have hb0 : Below w.heap.size w (w.alloc (.cells #[.pointer (some ⟨g, p, none⟩)] 120)) := (Below.refl _ _).alloc (Nat.le_refl _) _
  have HB := Lib.hid hb0
  have HK := Lib.hid (heap_alloc_new w (.cells #[.pointer (some ⟨g, p, none⟩)] 120))
  have HC := Lib.hid hc
  have HE := Lib.hid hE
  have d0 := (hb0.cell (p := ⟨g, p, none⟩) hg).trans hc.c0
  obtain ⟨kd, hkd⟩ : ∃ kd, kd = q.kind := ⟨_, rfl⟩
  rw [← hkd] at d0
  have HQ := Lib.hid hkd
  clear hb0 hc hE hkd
  by_cases h0 : kd = 0
  · have HF := Lib.hid (nodOkI_free (c := count) (q := q) (by rw [← HQ.out]; exact h0))
    subst h0
    go_enter Try.func65, Try.ntmps65
    go_wp2_with fail
    refine (freeGood_any q lv g p _ (Nat.lt_of_lt_of_le hg HB.out.size) (HC.out.below HB.out hg) (HE.out.below HB.out)).mono ?_
    rintro e w1 ⟨rfl, hb1⟩
    have HB1 := Lib.hid (HB.out.trans (hb1.mono HB.out.size))
    clear hb1
    go_wp2
    go_ret
    exact ⟨ret_bool HF.out.symm, HB1.out⟩
  by_cases h1 : kd = 1
  · have HF := Lib.hid (nodOkI_file (c := count) (q := q) (by rw [← HQ.out]; exact h1))
    subst h1
    go_enter Try.func65, Try.ntmps65
    go_wp2_with fail
    refine (fileGood_any q lv g p _ (Nat.lt_of_lt_of_le hg HB.out.size) (HC.out.below HB.out hg) (HE.out.below HB.out) hd).mono ?_
    rintro e w1 ⟨rfl, hb1⟩
    have HB1 := Lib.hid (HB.out.trans (hb1.mono HB.out.size))
    clear hb1
    go_wp2
    go_ret
    exact ⟨ret_bool HF.out.symm, HB1.out⟩
  by_cases h2 : kd = 2
  · have HF := Lib.hid (nodOkI_dirs (c := count) (q := q) (by rw [← HQ.out]; exact h2))
    subst h2
    go_enter Try.func65, Try.ntmps65
    go_wp2_with fail
    refine (dirGood_any q lv g p count _ (Nat.lt_of_lt_of_le hg HB.out.size) (HC.out.below HB.out hg) (HE.out.below HB.out) hs).mono ?_
    rintro e w1 ⟨rfl, hb1⟩
    have HB1 := Lib.hid (HB.out.trans (hb1.mono HB.out.size))
    clear hb1
    go_wp2
    go_ret
    exact ⟨ret_bool HF.out.symm, HB1.out⟩
  by_cases h3 : kd = 3
  · have HF := Lib.hid (nodOkI_link (c := count) (q := q) (by rw [← HQ.out]; exact h3))
    subst h3
    go_enter Try.func65, Try.ntmps65
    go_wp2_with fail
    refine (linkGood_any q lv g p _ (Nat.lt_of_lt_of_le hg HB.out.size) (HC.out.below HB.out hg) (HE.out.below HB.out) (by unfold maxLen; omega)).mono ?_
    rintro e w1 ⟨rfl, hb1⟩
    have HB1 := Lib.hid (HB.out.trans (hb1.mono HB.out.size))
    clear hb1
    go_wp2
    go_ret
    exact ⟨ret_bool HF.out.symm, HB1.out⟩
  · have HF := Lib.hid (nodOkI_else (c := count) (q := q) (by rw [← HQ.out]; exact h0) (by rw [← HQ.out]; exact h1) (by rw [← HQ.out]; exact h2) (by rw [← HQ.out]; exact h3))
    go_enter Try.func65, Try.ntmps65
    go_wp2
    go_ret
    exact ⟨ret_bool HF.out.symm, HB.out⟩
end Go.Proofs.Ytbmbbioanlcioaa
