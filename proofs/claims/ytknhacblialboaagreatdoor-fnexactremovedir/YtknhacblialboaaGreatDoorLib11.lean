/-
  Joined: InoC InoD SrcA MayD DirC.
  Conditions: as each states.
-/
import Derived.Lib.QuietBelow
import Derived.Test.YtknhacblialboaaGreatDoorLib3
import Derived.Test.YtknhacblialboaaGreatDoorLib6
import Derived.Test.YtknhacblialboaaGreatDoorLib7
import Derived.Test.YtknhacblialboaaGreatDoorLib10
namespace Go.Proofs.YtknhacblialboaaGreatDoor
open Go.ChangeShapes Go.WideShapes Go.ChangeAt Go.RowKit Go.Joins
set_option linter.unusedVariables false
set_option linter.unusedSimpArgs false
set_option maxHeartbeats 16000000
theorem goodPath_is {l : List UInt8} {b : Bool} (h : goodB l = b) (s : ByteArray) (hs : s = bs l) (hm : l.length ≤ maxLen) (w : World) : Calls Tryz.prog 148 #[.string s] w fun e w' => e = .returned (.bool b) ∧ Below w.heap.size w w' :=
 (goodPath_any s w (by rw [hs, bs_size]; exact hm)).mono fun e w' ⟨h1, h2⟩ => ⟨by rw [h1, hs, ← h]; simp [bs], h2⟩
theorem fileGood_any (q : Nod) (lv : Value) (g p : Nat) (cn : Int) (w : World) (hg : g < w.heap.size) (hc : NodC w g p lv q) (hE : EntsA w lv q.list) (hd : q.data.length ≤ 1048576) : Calls Tryz.prog 228 #[.agg #[.pointer (some ⟨g, p, none⟩)], .int .i64 cn] w fun e w' => e = .returned (.bool (attrB q && (decide (q.data.length ≤ 60) && q.list.isEmpty))) ∧ Below w.heap.size w w' := by
 have hb0 : Below w.heap.size w (w.alloc (.cells #[.pointer (some ⟨g, p, none⟩)] 222)) := (Below.refl _ _).alloc (Nat.le_refl _) _
 have HB0 := qhZ hb0
 have HK0 := qhZ (heap_alloc_new w (.cells #[.pointer (some ⟨g, p, none⟩)] 222))
 have HC := qhZ hc
 have HE := qhZ hE
 clear hb0 hc hE
 have HZ : Hid ((bs q.data).size = q.data.length) := qhZ (bs_size _)
 obtain ⟨x, hx⟩ : ∃ x, x = bs q.data := ⟨_, rfl⟩
 have HX := qhZ hx
 rw [← hx] at HZ
 clear hx
 by_cases h1 : attrB q = true
 · have H1 := qhZ h1
   by_cases h2 : q.data.length ≤ 60
   · have HF : Hid ((attrB q && (decide (q.data.length ≤ 60) && q.list.isEmpty)) = q.list.isEmpty) := qhZ (by rw [h1]; simp [h2])
     have h3 : x.size ≤ 60 := by rw [HZ.out]; exact h2
     clear h1 h2
     go_enter Tryz.func228, Tryz.ntmps228
     go_wp2_with fail
     refine (hasAttr_any q _ g p _ (Nat.lt_of_lt_of_le hg HB0.out.size) (HC.out.below HB0.out hg)).mono ?_
     rintro e w1 ⟨rfl, hb1⟩
     rw [H1.out]
     have HB1 := qhZ (HB0.out.trans (hb1.mono HB0.out.size))
     have HK1 := qhZ ((hb1.block w.heap.size (aB9 HK0.out)).trans HK0.out)
     have x1c0 := (aA9 HK1.out 0).trans rfl
     clear hb1
     have d5 := (HB1.out.cell (p := ⟨g, p + 5, none⟩) hg).trans HC.out.c5
     rw [← HX.out] at d5
     go_wp2_with fail
     refine (hasList_any q _ g p _ (Nat.lt_of_lt_of_le hg HB1.out.size) (HC.out.below HB1.out hg) (HE.out.below HB1.out)).mono ?_
     rintro e w2 ⟨rfl, hb2⟩
     have HB2 := qhZ (HB1.out.trans (hb2.mono HB1.out.size))
     have HK2 := qhZ ((hb2.block w.heap.size (aB9 HK1.out)).trans HK1.out)
     have x2c0 := (aA9 HK2.out 0).trans rfl
     clear hb2
     go_wp2
     go_ret
     exact ⟨aK9 (by rw [HF.out]; try simp), HB2.out⟩
   · have HF : Hid ((attrB q && (decide (q.data.length ≤ 60) && q.list.isEmpty)) = false) := qhZ (by simp [h2])
     have h3 : ¬ x.size ≤ 60 := by rw [HZ.out]; exact h2
     have h4 : x.size ≤ 1048576 := by rw [HZ.out]; exact hd
     clear h1 h2
     go_enter Tryz.func228, Tryz.ntmps228
     go_wp2_with fail
     refine (hasAttr_any q _ g p _ (Nat.lt_of_lt_of_le hg HB0.out.size) (HC.out.below HB0.out hg)).mono ?_
     rintro e w1 ⟨rfl, hb1⟩
     rw [H1.out]
     have HB1 := qhZ (HB0.out.trans (hb1.mono HB0.out.size))
     have HK1 := qhZ ((hb1.block w.heap.size (aB9 HK0.out)).trans HK0.out)
     have x1c0 := (aA9 HK1.out 0).trans rfl
     clear hb1
     have d5 := (HB1.out.cell (p := ⟨g, p + 5, none⟩) hg).trans HC.out.c5
     rw [← HX.out] at d5
     go_wp2
     go_ret
     exact ⟨aK9 HF.out.symm, HB1.out⟩
 · have H1 : Hid (attrB q = false) := qhZ (by simpa using h1)
   have HF : Hid ((attrB q && (decide (q.data.length ≤ 60) && q.list.isEmpty)) = false) := qhZ (by rw [H1.out]; rfl)
   clear h1
   go_enter Tryz.func228, Tryz.ntmps228
   go_wp2_with fail
   refine (hasAttr_any q _ g p _ (Nat.lt_of_lt_of_le hg HB0.out.size) (HC.out.below HB0.out hg)).mono ?_
   rintro e w1 ⟨rfl, hb1⟩
   rw [H1.out]
   have HB1 := qhZ (HB0.out.trans (hb1.mono HB0.out.size))
   have HK1 := qhZ ((hb1.block w.heap.size (aB9 HK0.out)).trans HK0.out)
   have x1c0 := (aA9 HK1.out 0).trans rfl
   clear hb1
   go_wp2
   go_ret
   exact ⟨aK9 HF.out.symm, HB1.out⟩
theorem linkGood_any (q : Nod) (lv : Value) (g p : Nat) (cn : Int) (w : World) (hg : g < w.heap.size) (hc : NodC w g p lv q) (hE : EntsA w lv q.list) (hm : q.data.length ≤ maxLen) : Calls Tryz.prog 231 #[.agg #[.pointer (some ⟨g, p, none⟩)], .int .i64 cn] w fun e w' => e = .returned (.bool (attrB q && (goodB q.data && q.list.isEmpty))) ∧ Below w.heap.size w w' := by
 have hb0 : Below w.heap.size w (w.alloc (.cells #[.pointer (some ⟨g, p, none⟩)] 224)) := (Below.refl _ _).alloc (Nat.le_refl _) _
 have HB0 := qhZ hb0
 have HK0 := qhZ (heap_alloc_new w (.cells #[.pointer (some ⟨g, p, none⟩)] 224))
 have HC := qhZ hc
 have HE := qhZ hE
 clear hb0 hc hE
 obtain ⟨x, hx⟩ : ∃ x, x = bs q.data := ⟨_, rfl⟩
 have HX := qhZ hx
 clear hx
 by_cases h1 : attrB q = true
 · have H1 := qhZ h1
   by_cases h2 : goodB q.data = true
   · have HP := qhZ h2
     have HF : Hid ((attrB q && (goodB q.data && q.list.isEmpty)) = q.list.isEmpty) := qhZ (by rw [h1, h2]; rfl)
     clear h1 h2
     go_enter Tryz.func231, Tryz.ntmps231
     go_wp2_with fail
     refine (hasAttr_any q _ g p _ (Nat.lt_of_lt_of_le hg HB0.out.size) (HC.out.below HB0.out hg)).mono ?_
     rintro e w1 ⟨rfl, hb1⟩
     rw [H1.out]
     have HB1 := qhZ (HB0.out.trans (hb1.mono HB0.out.size))
     have HK1 := qhZ ((hb1.block w.heap.size (aB9 HK0.out)).trans HK0.out)
     have x1c0 := (aA9 HK1.out 0).trans rfl
     clear hb1
     have d5 := (HB1.out.cell (p := ⟨g, p + 5, none⟩) hg).trans HC.out.c5
     rw [← HX.out] at d5
     go_wp2_with fail
     refine (goodPath_is HP.out _ HX.out hm _).mono ?_
     rintro e w2 ⟨rfl, hb2⟩
     have HB2 := qhZ (HB1.out.trans (hb2.mono HB1.out.size))
     have HK2 := qhZ ((hb2.block w.heap.size (aB9 HK1.out)).trans HK1.out)
     have x2c0 := (aA9 HK2.out 0).trans rfl
     clear hb2
     go_wp2_with fail
     refine (hasList_any q _ g p _ (Nat.lt_of_lt_of_le hg HB2.out.size) (HC.out.below HB2.out hg) (HE.out.below HB2.out)).mono ?_
     rintro e w3 ⟨rfl, hb3⟩
     have HB3 := qhZ (HB2.out.trans (hb3.mono HB2.out.size))
     have HK3 := qhZ ((hb3.block w.heap.size (aB9 HK2.out)).trans HK2.out)
     have x3c0 := (aA9 HK3.out 0).trans rfl
     clear hb3
     go_wp2
     go_ret
     exact ⟨aK9 (by rw [HF.out]; try simp), HB3.out⟩
   · have HP : Hid (goodB q.data = false) := qhZ (by simpa using h2)
     have HF : Hid ((attrB q && (goodB q.data && q.list.isEmpty)) = false) := qhZ (by rw [HP.out]; simp)
     clear h1 h2
     go_enter Tryz.func231, Tryz.ntmps231
     go_wp2_with fail
     refine (hasAttr_any q _ g p _ (Nat.lt_of_lt_of_le hg HB0.out.size) (HC.out.below HB0.out hg)).mono ?_
     rintro e w1 ⟨rfl, hb1⟩
     rw [H1.out]
     have HB1 := qhZ (HB0.out.trans (hb1.mono HB0.out.size))
     have HK1 := qhZ ((hb1.block w.heap.size (aB9 HK0.out)).trans HK0.out)
     have x1c0 := (aA9 HK1.out 0).trans rfl
     clear hb1
     have d5 := (HB1.out.cell (p := ⟨g, p + 5, none⟩) hg).trans HC.out.c5
     rw [← HX.out] at d5
     go_wp2_with fail
     refine (goodPath_is HP.out _ HX.out hm _).mono ?_
     rintro e w2 ⟨rfl, hb2⟩
     have HB2 := qhZ (HB1.out.trans (hb2.mono HB1.out.size))
     have HK2 := qhZ ((hb2.block w.heap.size (aB9 HK1.out)).trans HK1.out)
     have x2c0 := (aA9 HK2.out 0).trans rfl
     clear hb2
     go_wp2
     go_ret
     exact ⟨aK9 HF.out.symm, HB2.out⟩
 · have H1 : Hid (attrB q = false) := qhZ (by simpa using h1)
   have HF : Hid ((attrB q && (goodB q.data && q.list.isEmpty)) = false) := qhZ (by rw [H1.out]; rfl)
   clear h1
   go_enter Tryz.func231, Tryz.ntmps231
   go_wp2_with fail
   refine (hasAttr_any q _ g p _ (Nat.lt_of_lt_of_le hg HB0.out.size) (HC.out.below HB0.out hg)).mono ?_
   rintro e w1 ⟨rfl, hb1⟩
   rw [H1.out]
   have HB1 := qhZ (HB0.out.trans (hb1.mono HB0.out.size))
   have HK1 := qhZ ((hb1.block w.heap.size (aB9 HK0.out)).trans HK0.out)
   have x1c0 := (aA9 HK1.out 0).trans rfl
   clear hb1
   go_wp2
   go_ret
   exact ⟨aK9 HF.out.symm, HB1.out⟩
theorem isGoodEntry_is {e : Ent} {count : Int} {b : Bool} (h : (nameB e.name && inB 0 (count - 1) e.node) = b) (s : ByteArray) (w : World) (hs : s = bs e.name) : Calls Tryz.prog 230 #[.agg #[.string s, .int .i64 e.node], .int .i64 count] w fun x w' => x = .returned (.bool b) ∧ Below w.heap.size w w' :=
 (isGoodEntry_any e count s w hs).mono fun x w' ⟨h1, h2⟩ => ⟨by rw [h1, h], h2⟩
def entGoodB (count : Int) (e : Ent) : Bool := nameB e.name && inB 0 (count - 1) e.node
theorem entOkI_is {count : Int} {es : List Ent} {k : Nat} (h : k < es.length) : entOkI count es k = (entGoodB count es[k] && (k == 0 || Op.bytesLess (es.getD (k - 1) ⟨[], 0⟩).name es[k].name)) := by
 have e1 : es.getD k ⟨[], 0⟩ = es[k] := by simp [List.getD, h]
 unfold entOkI entGoodB
 rw [e1]
 cases nameB es[k].name <;> cases inB 0 (count - 1) es[k].node <;> simp
theorem entsOkI_no {count : Int} {es : List Ent} {k : Nat} (hk : k < es.length) (h : entOkI count es k = false) : entsOkI count es = false := by
 unfold entsOkI
 rw [List.all_eq_false]
 exact ⟨k, List.mem_range.2 hk, by rw [h]; simp⟩
theorem entsOkI_yes {count : Int} {es : List Ent} (h : ∀ k, k < es.length → entOkI count es k = true) : entsOkI count es = true := by
 unfold entsOkI
 rw [List.all_eq_true]
 exact fun k hk => h k (List.mem_range.1 hk)
theorem dirGood_any (q : Nod) (lv : Value) (g p : Nat) (count : Int) (w : World) (hg : g < w.heap.size) (hc : NodC w g p lv q) (hE : EntsA w lv q.list) (hs : q.list.length ≤ 1048576) : Calls Tryz.prog 229 #[.agg #[.pointer (some ⟨g, p, none⟩)], .int .i64 count] w fun e w' => e = .returned (.bool (attrB q && (q.data.isEmpty && entsOkI count q.list))) ∧ Below w.heap.size w w' := by
 have hb0 : Below w.heap.size w (w.alloc (.cells #[.pointer (some ⟨g, p, none⟩)] 223)) := (Below.refl _ _).alloc (Nat.le_refl _) _
 have HB0 := qhZ hb0
 have HK0 := qhZ (heap_alloc_new w (.cells #[.pointer (some ⟨g, p, none⟩)] 223))
 have HC := qhZ hc
 have HE := qhZ hE
 clear hb0 hc hE
 by_cases h1 : attrB q = true
 · have H1 := qhZ h1
   by_cases h2 : q.data.isEmpty = true
   · have H2 : Hid ((!q.data.isEmpty) = false) := qhZ (by rw [h2]; rfl)
     have HF : Hid ((attrB q && (q.data.isEmpty && entsOkI count q.list)) = entsOkI count q.list) := qhZ (by rw [h1, h2]; rfl)
     obtain ⟨o2, c2, rfl, -, hH⟩ := id HE.out
     have HH := qhZ hH
     clear h1 h2 hH
     go_enter Tryz.func229, Tryz.ntmps229
     go_wp2_with fail
     refine (hasAttr_any q _ g p _ (Nat.lt_of_lt_of_le hg HB0.out.size) (HC.out.below HB0.out hg)).mono ?_
     rintro e w1 ⟨rfl, hb1⟩
     rw [H1.out]
     have HB1 := qhZ (HB0.out.trans (hb1.mono HB0.out.size))
     have HK1 := qhZ ((hb1.block w.heap.size (aB9 HK0.out)).trans HK0.out)
     have x1c0 := (aA9 HK1.out 0).trans rfl
     clear hb1
     go_wp2_with fail
     refine (hasData_any q _ g p _ (Nat.lt_of_lt_of_le hg HB1.out.size) (HC.out.below HB1.out hg)).mono ?_
     rintro e w2 ⟨rfl, hb2⟩
     rw [H2.out]
     have HB2 := qhZ (HB1.out.trans (hb2.mono HB1.out.size))
     have HK2 := qhZ ((hb2.block w.heap.size (aB9 HK1.out)).trans HK1.out)
     have x2c0 := (aA9 HK2.out 0).trans rfl
     clear hb2
     have d6 := (HB2.out.cell (p := ⟨g, p + 6, none⟩) hg).trans HC.out.c6
     go_wp2
     go_loopw [23] (fun i wr => ∃ j : Nat, j ≤ q.list.length ∧ i = .int .i64 j ∧ Below w.heap.size w wr ∧ wr.heap[w.heap.size]? = some (.cells #[.pointer (some ⟨g, p, none⟩)] 223) ∧ ∀ k, k < j → entOkI count q.list k = true) (fun i _ => q.list.length - (intOf i).toNat)
     case atStart => exact ⟨0, Nat.zero_le _, rfl, HB2.out, HK2.out, fun j h => absurd h (Nat.not_lt_zero _)⟩
     case round =>
       obtain ⟨j, hj, rfl, hB, hb, hJ⟩ := hrel
       have HJ := qhZ hJ
       clear hJ
       by_cases hlt : j < q.list.length
       · obtain ⟨g2, f2, rfl, q2, y1, y2, hn⟩ := HH.out j hlt
         have a1 := (hB.cell (p := ⟨g2, f2 + j * 2, none⟩) q2).trans y1
         have a2 := (hB.cell (p := ⟨g2, f2 + j * 2 + 1, none⟩) q2).trans y2
         have HO := qhZ (entOkI_is (count := count) hlt)
         obtain ⟨y, hyy⟩ : ∃ y, y = bs q.list[j].name := ⟨_, rfl⟩
         have HY := qhZ hyy
         rw [← hyy] at a1
         have HA : Hid (∀ oo, Below w.heap.size w (wr.alloc oo)) := qhZ (fun oo => hB.alloc hB.size oo)
         have HW : Hid (∀ oo, (wr.alloc oo).heap[w.heap.size]? = some (.cells #[.pointer (some ⟨g, p, none⟩)] 223)) := qhZ (fun oo => (Below.heap_alloc _ _ _ (aB9 hb)).trans hb)
         have e0 := aA9 (heap_alloc_new wr (.cells #[.string y, .int .i64 q.list[j].node] 126)) 0
         have e1 := aA9 (heap_alloc_new wr (.cells #[.string y, .int .i64 q.list[j].node] 126)) 1
         have s0 := aA9 (HW.out (.cells #[.string y, .int .i64 q.list[j].node] 126)) 0
         clear y1 y2 hyy hn
         go_wp2
         have HB2 := qhZ (HA.out (.cells #[.string y, .int .i64 q.list[j].node] 126))
         have HW2 := qhZ (HW.out (.cells #[.string y, .int .i64 q.list[j].node] 126))
         obtain ⟨W2, hW2⟩ : ∃ W2, wr.alloc (.cells #[.string y, .int .i64 q.list[j].node] 126) = W2 := ⟨_, rfl⟩
         rw [hW2] at e0 e1 s0 HB2 HW2 ⊢
         have e0' := e0.trans rfl
         have e1' := e1.trans rfl
         have s0' := s0.trans rfl
         have d6' := (HB2.out.cell (p := ⟨g, p + 6, none⟩) hg).trans HC.out.c6
         clear hW2 HW HA e0 e1 s0
         have z0 := fun d os => cell_regrown (w := W2) e0' d os
         have z1 := fun d os => cell_regrown (w := W2) e1' d os
         have z2 := fun d os => cell_regrown (w := W2) s0' d os
         have z3 := fun d os => cell_regrown (w := W2) d6' d os
         by_cases hgd : entGoodB count q.list[j] = true
         · have HG : Hid ((nameB q.list[j].name && inB 0 (count - 1) q.list[j].node) = true) := qhZ hgd
           rcases Nat.eq_zero_or_pos j with rfl | hpos
           · have HJ2 : Hid (∀ i, i < 0 + 1 → entOkI count q.list i = true) := qhZ (by
               intro i h
               obtain rfl : i = 0 := by omega
               rw [HO.out, hgd]; rfl)
             refine wp_region_quiet_below (by kernel_rfl) (by kernel_rfl) ?_
             repeat (first | go_big_quiet_step ((go_at_call 230; exact Calls.regrown_of (isGoodEntry_is HG.out y _ HY.out))) | quiet_step ((go_at_call 230; exact Calls.regrown_of (isGoodEntry_is HG.out y _ HY.out))))
             refine wpQuiet_nil ?_
             intro w5 hwq
             have hb5 : Below W2.heap.size W2 w5 := by
               obtain ⟨pp, rfl⟩ := hwq
               exact below_regrown _ _ _
             have HB5 := qhZ (HB2.out.trans (hb5.mono HB2.out.size))
             have HW5 := qhZ ((hb5.block w.heap.size (aB9 HW2.out)).trans HW2.out)
             clear hwq hb5
             go_wp2
             go_roundw
             case rel => exact ⟨0 + 1, hlt, by go_num, HB5.out, HW5.out, HJ2.out⟩
             case measure => simp [intOf]; omega
           · obtain ⟨m, rfl⟩ : ∃ m, j = m + 1 := ⟨j - 1, by omega⟩
             obtain ⟨g3, f3, e3, -, y3, -, -⟩ := HH.out m (by omega)
             obtain ⟨rfl, rfl⟩ : g2 = g3 ∧ f2 = f3 := by simpa using e3
             have p0 := (HB2.out.cell (p := ⟨g2, f2 + m * 2, none⟩) q2).trans y3
             obtain ⟨x, hx⟩ : ∃ x, x = bs q.list[m].name := ⟨_, rfl⟩
             rw [← hx] at p0
             have z4 := fun d os => cell_regrown (w := W2) p0 d os
             have HLT : Hid (Op.bytesLess (q.list.getD (m + 1 - 1) ⟨[], 0⟩).name q.list[m + 1].name = Op.bytesLess x.toList y.toList) := qhZ (by
               have h1 : q.list.getD (m + 1 - 1) ⟨[], 0⟩ = q.list[m] := by simp [List.getD, show m < q.list.length by omega]
               rw [h1, hx, HY.out, bsl, bsl])
             clear y3 hx e3
             by_cases hl : Op.bytesLess x.toList y.toList = true
             · have HJ2 : Hid (∀ i, i < m + 1 + 1 → entOkI count q.list i = true) := qhZ (by
                 intro i h
                 rcases Nat.lt_succ_iff_lt_or_eq.1 h with h1 | rfl
                 · exact HJ.out i h1
                 · rw [HO.out, hgd, HLT.out, hl]; simp)
               refine wp_region_quiet_below (by kernel_rfl) (by kernel_rfl) ?_
               repeat (first | go_big_quiet_step ((go_at_call 230; exact Calls.regrown_of (isGoodEntry_is HG.out y _ HY.out))) | quiet_step ((go_at_call 230; exact Calls.regrown_of (isGoodEntry_is HG.out y _ HY.out))))
               refine wpQuiet_nil ?_
               intro w5 hwq
               have hb5 : Below W2.heap.size W2 w5 := by
                 obtain ⟨pp, rfl⟩ := hwq
                 exact below_regrown _ _ _
               have HB5 := qhZ (HB2.out.trans (hb5.mono HB2.out.size))
               have HW5 := qhZ ((hb5.block w.heap.size (aB9 HW2.out)).trans HW2.out)
               clear hwq hb5
               go_wp2
               go_roundw
               case rel => exact ⟨m + 1 + 1, hlt, by go_num, HB5.out, HW5.out, HJ2.out⟩
               case measure => simp [intOf]; omega
             · have HNO : Hid (entsOkI count q.list = false) := qhZ (entsOkI_no hlt (by rw [HO.out, HLT.out]; simp [hl]))
               refine wp_region_quiet_below (by kernel_rfl) (by kernel_rfl) ?_
               repeat (first | go_big_quiet_step ((go_at_call 230; exact Calls.regrown_of (isGoodEntry_is HG.out y _ HY.out))) | quiet_step ((go_at_call 230; exact Calls.regrown_of (isGoodEntry_is HG.out y _ HY.out))))
               refine wpQuiet_nil ?_
               intro w5 hwq
               have hb5 : Below W2.heap.size W2 w5 := by
                 obtain ⟨pp, rfl⟩ := hwq
                 exact below_regrown _ _ _
               have HB5 := qhZ (HB2.out.trans (hb5.mono HB2.out.size))
               have HW5 := qhZ ((hb5.block w.heap.size (aB9 HW2.out)).trans HW2.out)
               clear hwq hb5
               go_wp2
               go_ret
               exact ⟨aK9 (by rw [HF.out, HNO.out]), HB5.out⟩
         · have HG : Hid ((nameB q.list[j].name && inB 0 (count - 1) q.list[j].node) = false) := qhZ (show entGoodB count q.list[j] = false by simpa using hgd)
           have HNO : Hid (entsOkI count q.list = false) := qhZ (entsOkI_no hlt (by rw [HO.out, show entGoodB count q.list[j] = false from HG.out]; rfl))
           refine wp_region_quiet_below (by kernel_rfl) (by kernel_rfl) ?_
           repeat (first | go_big_quiet_step ((go_at_call 230; exact Calls.regrown_of (isGoodEntry_is HG.out y _ HY.out))) | quiet_step ((go_at_call 230; exact Calls.regrown_of (isGoodEntry_is HG.out y _ HY.out))))
           refine wpQuiet_nil ?_
           intro w5 hwq
           have hb5 : Below W2.heap.size W2 w5 := by
             obtain ⟨pp, rfl⟩ := hwq
             exact below_regrown _ _ _
           have HB5 := qhZ (HB2.out.trans (hb5.mono HB2.out.size))
           have HW5 := qhZ ((hb5.block w.heap.size (aB9 HW2.out)).trans HW2.out)
           clear hwq hb5
           go_wp2
           go_ret
           exact ⟨aK9 (by rw [HF.out, HNO.out]), HB5.out⟩
       · have HYES : Hid (entsOkI count q.list = true) := qhZ (entsOkI_yes (fun k hk => HJ.out k (by omega)))
         go_wp2
         go_ret
         exact ⟨aK9 (by rw [HF.out, HYES.out]), hB⟩
   · have H2 : Hid ((!q.data.isEmpty) = true) := qhZ (by simpa using h2)
     have HF : Hid ((attrB q && (q.data.isEmpty && entsOkI count q.list)) = false) := qhZ (by rw [show q.data.isEmpty = false by simpa using h2]; simp)
     clear h1 h2
     go_enter Tryz.func229, Tryz.ntmps229
     go_wp2_with fail
     refine (hasAttr_any q _ g p _ (Nat.lt_of_lt_of_le hg HB0.out.size) (HC.out.below HB0.out hg)).mono ?_
     rintro e w1 ⟨rfl, hb1⟩
     rw [H1.out]
     have HB1 := qhZ (HB0.out.trans (hb1.mono HB0.out.size))
     have HK1 := qhZ ((hb1.block w.heap.size (aB9 HK0.out)).trans HK0.out)
     have x1c0 := (aA9 HK1.out 0).trans rfl
     clear hb1
     go_wp2_with fail
     refine (hasData_any q _ g p _ (Nat.lt_of_lt_of_le hg HB1.out.size) (HC.out.below HB1.out hg)).mono ?_
     rintro e w2 ⟨rfl, hb2⟩
     rw [H2.out]
     have HB2 := qhZ (HB1.out.trans (hb2.mono HB1.out.size))
     have HK2 := qhZ ((hb2.block w.heap.size (aB9 HK1.out)).trans HK1.out)
     have x2c0 := (aA9 HK2.out 0).trans rfl
     clear hb2
     go_wp2
     go_ret
     exact ⟨aK9 HF.out.symm, HB2.out⟩
 · have H1 : Hid (attrB q = false) := qhZ (by simpa using h1)
   have HF : Hid ((attrB q && (q.data.isEmpty && entsOkI count q.list)) = false) := qhZ (by rw [H1.out]; rfl)
   clear h1
   go_enter Tryz.func229, Tryz.ntmps229
   go_wp2_with fail
   refine (hasAttr_any q _ g p _ (Nat.lt_of_lt_of_le hg HB0.out.size) (HC.out.below HB0.out hg)).mono ?_
   rintro e w1 ⟨rfl, hb1⟩
   rw [H1.out]
   have HB1 := qhZ (HB0.out.trans (hb1.mono HB0.out.size))
   have HK1 := qhZ ((hb1.block w.heap.size (aB9 HK0.out)).trans HK0.out)
   have x1c0 := (aA9 HK1.out 0).trans rfl
   clear hb1
   go_wp2
   go_ret
   exact ⟨aK9 HF.out.symm, HB1.out⟩
theorem nodOkI_free {c : Int} {q : Nod} (h : q.kind = 0) : bP9 c q = (noneB q && (q.data.isEmpty && q.list.isEmpty)) := by
 unfold bP9 noneB
 rw [if_pos h]
 simp only [Bool.and_assoc]
theorem nodOkI_file {c : Int} {q : Nod} (h : q.kind = 1) : bP9 c q = (attrB q && (decide (q.data.length ≤ 60) && q.list.isEmpty)) := by
 unfold bP9 attrB
 rw [if_neg (by omega), if_pos h]
 simp only [Bool.and_assoc]
theorem nodOkI_dirs {c : Int} {q : Nod} (h : q.kind = 2) : bP9 c q = (attrB q && (q.data.isEmpty && entsOkI c q.list)) := by
 unfold bP9 attrB
 rw [if_neg (by omega), if_neg (by omega), if_pos h]
 simp only [Bool.and_assoc]
theorem nodOkI_link {c : Int} {q : Nod} (h : q.kind = 3) : bP9 c q = (attrB q && (goodB q.data && q.list.isEmpty)) := by
 unfold bP9 attrB
 rw [if_neg (by omega), if_neg (by omega), if_neg (by omega), h]
 simp [Bool.and_assoc]
theorem nodOkI_else {c : Int} {q : Nod} (h0 : q.kind ≠ 0) (h1 : q.kind ≠ 1) (h2 : q.kind ≠ 2) (h3 : q.kind ≠ 3) : bP9 c q = false := by
 unfold bP9
 rw [if_neg h0, if_neg h1, if_neg h2]
 simp [h3]
def kindV (g p : Nat) (k : Int) : Value :=
 if k = 0 then .iface 221 (.agg #[.pointer (some ⟨g, p, none⟩)]) else if k = 1 then .iface 222 (.agg #[.pointer (some ⟨g, p, none⟩)])
 else if k = 2 then .iface 223 (.agg #[.pointer (some ⟨g, p, none⟩)]) else if k = 3 then .iface 224 (.agg #[.pointer (some ⟨g, p, none⟩)]) else .nilIface
theorem kd_mFree (v : Array Value) (w : World) : (Go.method 368 221 (.agg v) "loop.example/g00756/impl.isGood").run Tryz.prog w = .ok (224, .agg v) w := by kernel_rfl
theorem kd_mFile (v : Array Value) (w : World) : (Go.method 368 222 (.agg v) "loop.example/g00756/impl.isGood").run Tryz.prog w = .ok (228, .agg v) w := by kernel_rfl
theorem kd_mDir (v : Array Value) (w : World) : (Go.method 368 223 (.agg v) "loop.example/g00756/impl.isGood").run Tryz.prog w = .ok (229, .agg v) w := by kernel_rfl
theorem kd_mLink (v : Array Value) (w : World) : (Go.method 368 224 (.agg v) "loop.example/g00756/impl.isGood").run Tryz.prog w = .ok (231, .agg v) w := by kernel_rfl
theorem kindOf_at (k : Int) (V : Value) (g p : Nat) (w : World) (hg : g < w.heap.size) (hc : w.cell? ⟨g, p, none⟩ = some (.int .i64 k)) (hV : kindV g p k = V) : Calls Tryz.prog 144 #[.pointer (some ⟨g, p, none⟩)] w fun e w' => e = .returned V ∧ Below w.heap.size w w' := by
 have hb0 : Below w.heap.size w (w.alloc (.cells #[.pointer (some ⟨g, p, none⟩)] 219)) := (Below.refl _ _).alloc (Nat.le_refl _) _
 have HB := qhZ hb0
 have HK := qhZ (heap_alloc_new w (.cells #[.pointer (some ⟨g, p, none⟩)] 219))
 have d0 := (hb0.cell (p := ⟨g, p, none⟩) hg).trans hc
 have HV := qhZ hV
 clear hb0 hV
 by_cases h0 : k = 0
 · have HW : Hid (V = .iface 221 (.agg #[.pointer (some ⟨g, p, none⟩)])) := qhZ (by rw [← HV.out, h0]; rfl)
   subst h0
   rw [HW.out]
   go_enter Tryz.func144, Tryz.ntmps144
   go_wp2
   go_ret
   first | exact ⟨rfl, HB.out⟩ | exact ⟨rfl, bel_al1 HB.out⟩
 by_cases h1 : k = 1
 · have HW : Hid (V = .iface 222 (.agg #[.pointer (some ⟨g, p, none⟩)])) := qhZ (by rw [← HV.out, h1]; rfl)
   subst h1
   rw [HW.out]
   go_enter Tryz.func144, Tryz.ntmps144
   go_wp2
   go_ret
   first | exact ⟨rfl, HB.out⟩ | exact ⟨rfl, bel_al1 HB.out⟩
 by_cases h2 : k = 2
 · have HW : Hid (V = .iface 223 (.agg #[.pointer (some ⟨g, p, none⟩)])) := qhZ (by rw [← HV.out, h2]; rfl)
   subst h2
   rw [HW.out]
   go_enter Tryz.func144, Tryz.ntmps144
   go_wp2
   go_ret
   first | exact ⟨rfl, HB.out⟩ | exact ⟨rfl, bel_al1 HB.out⟩
 by_cases h3 : k = 3
 · have HW : Hid (V = .iface 224 (.agg #[.pointer (some ⟨g, p, none⟩)])) := qhZ (by rw [← HV.out, h3]; rfl)
   subst h3
   rw [HW.out]
   go_enter Tryz.func144, Tryz.ntmps144
   go_wp2
   go_ret
   first | exact ⟨rfl, HB.out⟩ | exact ⟨rfl, bel_al1 HB.out⟩
 · have HW : Hid (V = .nilIface) := qhZ (by rw [← HV.out]; unfold kindV; rw [if_neg h0, if_neg h1, if_neg h2, if_neg h3])
   rw [HW.out]
   go_enter Tryz.func144, Tryz.ntmps144
   go_wp2
   go_ret
   exact ⟨rfl, HB.out⟩
theorem isGoodNode_any (q : Nod) (lv : Value) (g p : Nat) (count : Int) (w : World) (hg : g < w.heap.size) (hc : NodC w g p lv q) (hE : EntsA w lv q.list) (hs : q.list.length ≤ 1048576) (hd : q.data.length ≤ 1048576) : Calls Tryz.prog 108 #[.pointer (some ⟨g, p, none⟩), .int .i64 count] w fun e w' => e = .returned (.bool (bP9 count q)) ∧ Below w.heap.size w w' := by
 have HC := qhZ hc
 have HE := qhZ hE
 obtain ⟨kd, hkd⟩ : ∃ kd, kd = q.kind := ⟨_, rfl⟩
 have d0 := hc.c0
 rw [← hkd] at d0
 have HD := qhZ d0
 have HQ := qhZ hkd
 have kmA := kd_mFree
 have kmB := kd_mFile
 have kmC := kd_mDir
 have kmD := kd_mLink
 clear hc hE hkd d0
 by_cases h0 : kd = 0
 · have HF := qhZ (nodOkI_free (c := count) (q := q) (by rw [← HQ.out]; exact h0))
   have HV : Hid (kindV g p kd = .iface 221 (.agg #[.pointer (some ⟨g, p, none⟩)])) := qhZ (by rw [h0]; rfl)
   go_enter Tryz.func108, Tryz.ntmps108
   go_wp2_with fail
   refine (kindOf_at kd _ g p _ hg HD.out HV.out).mono ?_
   rintro e w1 ⟨rfl, hb1⟩
   have HB1 := qhZ hb1
   clear hb1
   go_wp2_with fail
   refine (freeGood_any q lv g p count _ (Nat.lt_of_lt_of_le hg HB1.out.size) (HC.out.below HB1.out hg) (HE.out.below HB1.out)).mono ?_
   rintro e w2 ⟨rfl, hb2⟩
   have HB2 := qhZ (HB1.out.trans (hb2.mono HB1.out.size))
   clear hb2
   go_wp2
   go_ret
   exact ⟨aK9 HF.out.symm, HB2.out⟩
 by_cases h1 : kd = 1
 · have HF := qhZ (nodOkI_file (c := count) (q := q) (by rw [← HQ.out]; exact h1))
   have HV : Hid (kindV g p kd = .iface 222 (.agg #[.pointer (some ⟨g, p, none⟩)])) := qhZ (by rw [h1]; rfl)
   go_enter Tryz.func108, Tryz.ntmps108
   go_wp2_with fail
   refine (kindOf_at kd _ g p _ hg HD.out HV.out).mono ?_
   rintro e w1 ⟨rfl, hb1⟩
   have HB1 := qhZ hb1
   clear hb1
   go_wp2_with fail
   refine (fileGood_any q lv g p count _ (Nat.lt_of_lt_of_le hg HB1.out.size) (HC.out.below HB1.out hg) (HE.out.below HB1.out) hd).mono ?_
   rintro e w2 ⟨rfl, hb2⟩
   have HB2 := qhZ (HB1.out.trans (hb2.mono HB1.out.size))
   clear hb2
   go_wp2
   go_ret
   exact ⟨aK9 HF.out.symm, HB2.out⟩
 by_cases h2 : kd = 2
 · have HF := qhZ (nodOkI_dirs (c := count) (q := q) (by rw [← HQ.out]; exact h2))
   have HV : Hid (kindV g p kd = .iface 223 (.agg #[.pointer (some ⟨g, p, none⟩)])) := qhZ (by rw [h2]; rfl)
   go_enter Tryz.func108, Tryz.ntmps108
   go_wp2_with fail
   refine (kindOf_at kd _ g p _ hg HD.out HV.out).mono ?_
   rintro e w1 ⟨rfl, hb1⟩
   have HB1 := qhZ hb1
   clear hb1
   go_wp2_with fail
   refine (dirGood_any q lv g p count _ (Nat.lt_of_lt_of_le hg HB1.out.size) (HC.out.below HB1.out hg) (HE.out.below HB1.out) hs).mono ?_
   rintro e w2 ⟨rfl, hb2⟩
   have HB2 := qhZ (HB1.out.trans (hb2.mono HB1.out.size))
   clear hb2
   go_wp2
   go_ret
   exact ⟨aK9 HF.out.symm, HB2.out⟩
 by_cases h3 : kd = 3
 · have HF := qhZ (nodOkI_link (c := count) (q := q) (by rw [← HQ.out]; exact h3))
   have HV : Hid (kindV g p kd = .iface 224 (.agg #[.pointer (some ⟨g, p, none⟩)])) := qhZ (by rw [h3]; rfl)
   go_enter Tryz.func108, Tryz.ntmps108
   go_wp2_with fail
   refine (kindOf_at kd _ g p _ hg HD.out HV.out).mono ?_
   rintro e w1 ⟨rfl, hb1⟩
   have HB1 := qhZ hb1
   clear hb1
   go_wp2_with fail
   refine (linkGood_any q lv g p count _ (Nat.lt_of_lt_of_le hg HB1.out.size) (HC.out.below HB1.out hg) (HE.out.below HB1.out) (by unfold maxLen; omega)).mono ?_
   rintro e w2 ⟨rfl, hb2⟩
   have HB2 := qhZ (HB1.out.trans (hb2.mono HB1.out.size))
   clear hb2
   go_wp2
   go_ret
   exact ⟨aK9 HF.out.symm, HB2.out⟩
 · have HF := qhZ (nodOkI_else (c := count) (q := q) (by rw [← HQ.out]; exact h0) (by rw [← HQ.out]; exact h1) (by rw [← HQ.out]; exact h2) (by rw [← HQ.out]; exact h3))
   have HV : Hid (kindV g p kd = .nilIface) := qhZ (by unfold kindV; rw [if_neg h0, if_neg h1, if_neg h2, if_neg h3])
   go_enter Tryz.func108, Tryz.ntmps108
   go_wp2_with fail
   refine (kindOf_at kd _ g p _ hg HD.out HV.out).mono ?_
   rintro e w1 ⟨rfl, hb1⟩
   have HB1 := qhZ hb1
   clear hb1
   go_wp2
   go_ret
   exact ⟨aK9 HF.out.symm, HB1.out⟩
theorem bytesOf_any (ns : List Nod) (v : Value) (w : World) (hR : NodsA w v ns) (hs : szNs ns ≤ 1048576) (hl : ns.length ≤ 1048576) : Calls Tryz.prog 134 #[v] w fun e w' => e = .returned (.int .i64 (sumD ns : Nat)) ∧ w = w' := by
 obtain ⟨o, c, rfl, hm, hH⟩ := hR
 have HH := qhZ hH
 clear hH
 unfold maxLen at hm
 have hT : sumD ns ≤ 1048576 := by have := sumD_le ns; omega
 clear hs
 go_enter Tryz.func134, Tryz.ntmps134
 go_wp2
 go_loop [3, 7] (fun t i => ∃ k : Nat, k ≤ ns.length ∧ i = .int .i64 k ∧ t = .int .i64 (sumD (ns.take k) : Nat)) (fun _ i => ns.length - (intOf i).toNat)
 case atStart => exact ⟨0, Nat.zero_le _, rfl, rfl⟩
 case round =>
   obtain ⟨k, hk, rfl, rfl⟩ := hrel
   by_cases hlt : k < ns.length
   · obtain ⟨g, off, lv, rfl, hg, hc, he, hml⟩ := HH.out k hlt
     have HS := qhZ (sumD_take hlt)
     have hle := sumD_pre ns (k + 1)
     have d5 := hc.c5
     have HZ : Hid ((bs ns[k].data).size = ns[k].data.length) := qhZ (bs_size _)
     obtain ⟨x, hxx⟩ : ∃ x, x = bs ns[k].data := ⟨_, rfl⟩
     rw [← hxx] at d5 HZ
     have hx : sumD (ns.take k) + x.size ≤ 1048576 := by rw [HZ.out, ← HS.out]; omega
     clear hc he hml hxx hle
     go_wp2
     go_round
     case rel => exact ⟨k + 1, hlt, by go_num, by rw [HS.out, ← HZ.out]; go_num⟩
     case measure => simp [intOf]; omega
   · have HT : Hid (ns.take k = ns) := qhZ (List.take_of_length_le (by omega))
     go_wp2
     go_ret
     exact ⟨ret_int (by rw [HT.out]), rfl⟩
def plCell (p : Pl) (r : Nat) : Value := if r = 0 then .int .i64 (p.links : Int) else if r = 1 then .int .i64 (p.dir : Int) else .string (bs p.name)
def plF (P : Int → Pl) (j : Nat) : Value := plCell (P ((j / 3 : Nat) : Int)) (j % 3)
def PlsA (w : World) (B : Nat) (v : Value) (n : Nat) (P : Int → Pl) : Prop := ∃ G c, v = .slice (some ⟨G, 0, none⟩) n c ∧ n ≤ c ∧ c ≤ maxLen ∧ B ≤ G ∧ RowAt w G (n * 3) 163 (plF P)
theorem PlsA.below {w w' : World} {B n : Nat} {v : Value} {P : Int → Pl} (h : PlsA w B v n P) (hb : Below w.heap.size w w') : PlsA w' B v n P := by
 obtain ⟨G, c, e, h1, h2, h3, hr⟩ := h
 exact ⟨G, c, e, h1, h2, h3, hr.below hb hr.lt⟩
theorem plF0 (P : Int → Pl) (m : Nat) : plF P (m * 3) = .int .i64 ((P m).links : Int) := by
 have e1 : m * 3 / 3 = m := by omega
 have e2 : m * 3 % 3 = 0 := by omega
 simp [plF, plCell, e1, e2]
theorem plF1 (P : Int → Pl) (m : Nat) : plF P (m * 3 + 1) = .int .i64 ((P m).dir : Int) := by
 have e1 : (m * 3 + 1) / 3 = m := by omega
 have e2 : (m * 3 + 1) % 3 = 1 := by omega
 simp [plF, plCell, e1, e2]
theorem plF2 (P : Int → Pl) (m : Nat) : plF P (m * 3 + 2) = .string (bs (P m).name) := by
 have e1 : (m * 3 + 2) / 3 = m := by omega
 have e2 : (m * 3 + 2) % 3 = 2 := by omega
 simp [plF, plCell, e1, e2]
theorem plF_put (d : Nat) (P : Int → Pl) (e : Ent) (m : Nat) (hm : e.node = m) (j : Nat) :
   (if j = m * 3 + 2 then .string (bs e.name) else if j = m * 3 + 1 then .int .i64 (d : Int) else if j = m * 3 then .int .i64 (((P m).links : Int) + 1) else plF P j) = plF (putP d P e) j := by
 by_cases hj : j / 3 = m
 · have e1 : putP d P e ((j / 3 : Nat) : Int) = ⟨(P m).links + 1, d, e.name⟩ := by unfold putP; rw [hj, hm, if_pos rfl]
   unfold plF
   rw [e1]
   unfold plCell
   rcases (show j = m * 3 ∨ j = m * 3 + 1 ∨ j = m * 3 + 2 by omega) with rfl | rfl | rfl
   · have e2 : m * 3 % 3 = 0 := by omega
     rw [if_neg (by omega), if_neg (by omega), if_pos rfl, e2, if_pos rfl]; simp
   · have e2 : (m * 3 + 1) % 3 = 1 := by omega
     rw [if_neg (by omega), if_pos rfl, e2, if_neg (by omega), if_pos rfl]
   · have e2 : (m * 3 + 2) % 3 = 2 := by omega
     rw [if_pos rfl, e2, if_neg (by omega), if_neg (by omega)]
 · have e1 : putP d P e ((j / 3 : Nat) : Int) = P ((j / 3 : Nat) : Int) := by unfold putP; rw [hm, if_neg (by omega)]
   rw [if_neg (by omega), if_neg (by omega), if_neg (by omega)]
   unfold plF
   rw [e1]
theorem plcInfo : (Tryz.prog.info? 163).map (fun i => (i.zero, i.size, i.bytes)) = some (some (.agg #[.int .i64 0, .int .i64 0, .string ⟨#[]⟩]), 3, 32) := by kernel_rfl
theorem plc_zero (j : Nat) : (#[Value.int .i64 0, .int .i64 0, .string ⟨#[]⟩] : Array Value)[j % 3]! = plF (fun _ => pl0) j := by
 unfold plF plCell pl0
 obtain ⟨r, hr⟩ : ∃ r, r = j % 3 := ⟨_, rfl⟩
 have hlt : j % 3 < 3 := Nat.mod_lt _ (by omega)
 rw [← hr] at hlt ⊢
 rcases (show r = 0 ∨ r = 1 ∨ r = 2 by omega) with rfl | rfl | rfl <;> rfl
theorem placesIn_any (ns : List Nod) (v : Value) (w : World) (hR : NodsA w v ns) (hs : szNs ns ≤ 1048576) (hl : ns.length ≤ 1048576) (hld : Lead ns) : Calls Tryz.prog 117 #[v] w fun e w' => ∃ u, e = .returned u ∧ PlsA w' w.heap.size u ns.length (bH9 ns) ∧ Below w.heap.size w w' := by
 obtain ⟨i0, hi, hz0, hz1, hz2⟩ := info_parts plcInfo
 obtain ⟨o, c, rfl, hm, hH⟩ := hR
 have HH := qhZ hH
 have HLD := qhZ hld
 have HLS : Hid (∀ n ∈ ns, n.list.length ≤ 1048576) := qhZ (fun n hn => by have := szN_mem hn; unfold szN at this; omega)
 clear hH hld
 unfold maxLen at hm
 go_enter Tryz.func117, Tryz.ntmps117
 go_wp2_with (at_make; refine wpList_make_full _ rfl _ _ 144 rfl w.heap.size 163 i0 (.agg #[.int .i64 0, .int .i64 0, .string ⟨#[]⟩]) 3 Tryz.underlying144 hi hz0 hz1 _ _ _ _ ns.length rfl rfl rfl rfl (by rw [hz2]; omega) (by unfold maxLen; omega) (Nat.le_refl _) ?_)
 intro w1 hown hgrow
 have hb1 : Below w.heap.size w w1 := (Below.refl _ w).grown hgrow (Nat.le_refl _) (fun k e => by cases e)
 have hr1 : RowAt w1 w.heap.size (ns.length * 3) 163 (plF (plc ns 0)) := by
   refine RowAt.made hown (fun j hj => ?_)
   have hj' : j < ns.length * 3 := hj
   show _ = some (plF (fun _ => pl0) j)
   rw [← plc_zero]
   simp [madeCells, hj']
 clear hown hgrow
 go_wp2
 go_loopw [12] (fun i wr => ∃ k : Nat, k ≤ ns.length ∧ i = .int .i64 k ∧ RowAt wr w.heap.size (ns.length * 3) 163 (plF (plc ns k)) ∧ Below w.heap.size w wr) (fun i _ => ns.length - (intOf i).toNat)
 case atStart => exact ⟨0, Nat.zero_le _, rfl, hr1, hb1⟩
 case round =>
   obtain ⟨k, hk, rfl, hr, hB⟩ := hrel
   clear hr1
   by_cases hlt : k < ns.length
   · obtain ⟨g, off, lv, rfl, hg, hc, he, hml⟩ := HH.out k hlt
     have d6 := (hc.below hB hg).c6
     have HD : Hid (ns.getD k ⟨0, 0, 0, 0, 0, [], []⟩ = ns[k]) := qhZ (aR9 hlt)
     have HLK : Hid (∀ i, links i (ns.take (k + 1)) = links i (ns.take k) + linksE i ns[k].list) := qhZ (fun i => links_take i hlt)
     have HLQ : Hid (∀ e ∈ ns[k].list, 0 ≤ e.node ∧ e.node < ns.length) := qhZ (fun e h => HLD.out _ (List.getElem_mem hlt) e h)
     have hq2 := HLS.out _ (List.getElem_mem hlt)
     obtain ⟨q, hqq⟩ : ∃ q, q = ns[k] := ⟨_, rfl⟩
     rw [← hqq] at he HD HLK HLQ hq2
     obtain ⟨o2, c2, rfl, -, hE⟩ := id he
     have HE := qhZ hE
     have HNX : Hid (plc ns (k + 1) = putsP k (plc ns k) q.list) := qhZ (by rw [plc, HD.out])
     have HPL : Hid (∀ i, (plc ns k i).links = links i (ns.take k)) := qhZ (fun i => plc_links ns i k (by omega))
     have HTL : Hid (∀ i, links i (ns.take (k + 1)) ≤ 1048576) := qhZ (fun i => by
       have h1 : links i (ns.take (k + 1)) ≤ links i ns := tot_pre _ ns (k + 1)
       have h2 := links_le i ns
       omega)
     have HRr := qhZ hr
     clear hc he hml hqq hE hr
     go_wp2
     go_loopw [21] (fun i wi => ∃ j : Nat, j ≤ q.list.length ∧ i = .int .i64 j ∧ RowAt wi w.heap.size (ns.length * 3) 163 (plF (putsP k (plc ns k) (q.list.take j))) ∧ Below w.heap.size w wi) (fun i _ => q.list.length - (intOf i).toNat)
     case atStart => exact ⟨0, Nat.zero_le _, rfl, HRr.out, hB⟩
     case round =>
       obtain ⟨j, hj, rfl, hr, hB2⟩ := hrel
       by_cases hlt2 : j < q.list.length
       · obtain ⟨g2, f2, rfl, q2, x2, y2, _⟩ := HE.out j hlt2
         have a1 := (hB2.cell (p := ⟨g2, f2 + j * 2, none⟩) q2).trans x2
         have a2 := (hB2.cell (p := ⟨g2, f2 + j * 2 + 1, none⟩) q2).trans y2
         obtain ⟨l1, l2⟩ := HLQ.out _ (List.getElem_mem hlt2)
         have HPT : Hid (putsP k (plc ns k) (q.list.take (j + 1)) = putP k (putsP k (plc ns k) (q.list.take j)) q.list[j]) := qhZ (putsP_take hlt2)
         obtain ⟨z, hzz⟩ : ∃ z, z = q.list[j] := ⟨_, rfl⟩
         rw [← hzz] at a1 a2 l1 l2 HPT
         obtain ⟨m, hmm⟩ : ∃ m : Nat, z.node = m := ⟨z.node.toNat, by omega⟩
         have HM := qhZ hmm
         rw [hmm] at a2 l1 l2
         have hm2 : m < ns.length := by omega
         obtain ⟨P, hP⟩ : ∃ P, P = putsP k (plc ns k) (q.list.take j) := ⟨_, rfl⟩
         have hlk : (P m).links ≤ 1048576 := by
           rw [hP, puts_links, HPL.out]
           have h1 := HTL.out m
           rw [HLK.out] at h1
           have h2 : linksE m (q.list.take j) ≤ linksE m q.list := tot_pre _ q.list j
           omega
         rw [← hP] at hr HPT
         have HST := qhZ (plF_put k P z m hmm)
         obtain ⟨y, hyy⟩ : ∃ y, y = bs z.name := ⟨_, rfl⟩
         rw [← hyy] at a1 HST
         have hr2 := hr.alloc (.cells #[.string y, .int .i64 (m : Int)] 126)
         have e0 := (aA9 (heap_alloc_new wr (.cells #[.string y, .int .i64 (m : Int)] 126)) 0).trans rfl
         have e1 := (aA9 (heap_alloc_new wr (.cells #[.string y, .int .i64 (m : Int)] 126)) 1).trans rfl
         have b0 := hr2.cell (j := m * 3) (by omega)
         have b1 := hr2.cell (j := m * 3 + 1) (by omega)
         have b2 := hr2.cell (j := m * 3 + 2) (by omega)
         rw [plF0] at b0
         rw [plF1] at b1
         rw [plF2] at b2
         have bf := hr2.frozen
         have HR3 := qhZ ((((hr2.set (m * 3) (.int .i64 (((P m).links : Int) + 1))).set (m * 3 + 1) (.int .i64 (k : Int))).set (m * 3 + 2) (.string y)).congr (fun i _ => HST.out i))
         have HB3 := qhZ ((((hB2.alloc hB2.size (.cells #[.string y, .int .i64 (m : Int)] 126)).setCell (p := ⟨w.heap.size, m * 3, none⟩) (Nat.le_refl _) (.int .i64 (((P m).links : Int) + 1))).setCell (p := ⟨w.heap.size, m * 3 + 1, none⟩) (Nat.le_refl _) (.int .i64 (k : Int))).setCell (p := ⟨w.heap.size, m * 3 + 2, none⟩) (Nat.le_refl _) (.string y))
         clear x2 y2 hzz hmm hP hyy hr hr2
         go_wp2
         go_region
         go_wp2
         go_roundw
         case rel => exact ⟨j + 1, hlt2, by go_num, by rw [HPT.out]; exact HR3.out.of_block rfl, HB3.out.drew⟩
         case measure => simp [intOf]; omega
       · have HT : Hid (q.list.take j = q.list) := qhZ (List.take_of_length_le (by omega))
         go_wp2
         go_roundw
         case rel => exact ⟨k + 1, hlt, by go_num, by rw [HNX.out, ← HT.out]; exact hr, hB2⟩
         case measure => simp [intOf]; omega
   · obtain rfl : k = ns.length := by omega
     go_wp2
     go_ret
     exact ⟨_, rfl, ⟨_, _, rfl, Nat.le_refl _, by unfold maxLen; omega, Nat.le_refl _, hr⟩, hB⟩
def skCells (o : Option Addr) (n c G k : Nat) (u g : Int) (fol : Bool) (node : Nat) (pv : Value) (hops : Nat) : Array Value :=
 #[.slice o n c, .slice (some ⟨G, 0, none⟩) n k, .int .i64 u, .int .i64 g, .bool fol, .int .i64 (node : Int), pv, .int .i64 (hops : Int)]
def SkAt (w : World) (b : Nat) (o : Option Addr) (n c G k : Nat) (u g : Int) (fol : Bool) (s : Lk) : Prop :=
 ∃ pv, w.heap[b]? = some (.cells (skCells o n c G k u g fol s.node pv s.hops) 147 (0, 0)) ∧ Rd w pv s.parts ∧ ∀ a l k, pv = .slice (some a) l k → a.block ≠ b
theorem run_append_none {P : Program} (w : World) (t ty e : TypeId) (i : TypeInfo) (ht : P.underlying t = some (.slice e)) (hi : P.info? e = some i) (oo : Option Addr) (n cap c : Nat) (h : n ≤ cap) :
   (Builtin.append_ #[t, t] ty #[.slice oo n cap, .slice none 0 c]).run P w = .ok (.slice oo n cap) w := by
 cases oo <;> simp [Builtin.append_, run_underlying ht, sizeOf, typeInfo, hi, Builtin.lenOf, Builtin.firstCells, h, storeCells, run_firstCells_none]
theorem step_append_none {P : Program} (w : World) {ops : Array Oper} {o : Oper} {a : Act} {K : Act → World → Prop} {Q : Exit → Act → World → Prop} {E : Prop} (hgd : o.guard = none) (s x : Operand) (t : TypeId)
   (ho : o.op = .call { callee := .builtin .append, args := #[s, x], argTypes := #[t, t] }) (e : TypeId) (i : TypeInfo) (ht : P.underlying t = some (.slice e)) (hi : P.info? e = some i)
   (oo : Option Addr) (n cap c : Nat) (hs : a.eval s = .slice oo n cap) (hx : a.eval x = .slice none 0 c) (hc : n ≤ cap)
   (h : K (a.put o.dst (.slice oo n cap)) w) :
   if Region.wanted o (yielded ops a.tmps) = true then Oper.wp P o a w K Q else E := by
 have hw : Region.wanted o (yielded ops a.tmps) = true := by simp [Region.wanted, hgd]
 rw [if_pos hw]
 unfold Oper.wp execOp
 simp only [ho, resolve, invoke, builtin, Sem.run_bind, Sem.run_pure, Result.andThen_ok, List.map_toArray, List.map_cons, List.map_nil, hs, hx, run_append_none (P := P) w t o.type e i ht hi oo n cap c hc]
 exact h
theorem rd_newsA {w : World} {a : Addr} {n k : Nat} {r : List (List UInt8)} (h : Rd w (.slice (some a) n k) r) : ∀ j u, (strs r)[j]? = some u → w.cell? (a.add j) = some u := by
 intro j u hj
 have h0 := h
 obtain ⟨o, c, e, h1, h2, hH⟩ := h
 have hj0 := hj
 simp only [strs, List.getElem?_map, Option.map_eq_some_iff] at hj
 obtain ⟨y, hy, rfl⟩ := hj
 obtain ⟨hjl, rfl⟩ := List.getElem?_eq_some_iff.1 hy
 obtain ⟨g, off, e2, hg, hc⟩ := hH j hjl
 subst e2
 simp only [Value.slice.injEq, Option.some.injEq] at e
 obtain ⟨rfl, -, -⟩ := e
 exact rd_news h0 j _ hj0
theorem partsIn_any (s : ByteArray) (w : World) : Calls Tryz.prog 151 #[.string s] w fun e w' => e = .returned (.func (.func 173) #[] #[.pointer (some ⟨w.heap.size, 0, none⟩)]) ∧ Below w.heap.size w w' ∧ w.heap.size < w'.heap.size ∧ w'.cell? ⟨w.heap.size, 0, none⟩ = some (.string s) := by
 have hb0 : Below w.heap.size w (w.alloc (.cells #[.string s] 9)) := (Below.refl _ _).alloc (Nat.le_refl _) _
 go_enter Tryz.func151, Tryz.ntmps151
 go_wp2
 go_ret
 exact ⟨rfl, hb0, by simp, by simp⟩
theorem lst_cap {w : World} {B : Nat} {oo : Option Addr} {ps : List (List UInt8)} {n cap : Nat} (h : Lst w B (.slice oo n cap) ps) : ps.length ≤ cap := by
 obtain ⟨o, c, e, h1, -, -⟩ := h.read
 simp only [Value.slice.injEq] at e
 rw [e.2.2]; exact h1
set_option maxRecDepth 100000 in
theorem putAhead_some (s : ByteArray) (b : Nat) (o : Option Addr) (n c G k : Nat) (u g : Int) (fol : Bool) (node hops : Nat) (ad : Addr) (pc : Nat) (r : List (List UInt8)) (w : World) (hs : s.size ≤ 1048576) (hrl : r.length ≤ 1000)
   (hb : w.heap[b]? = some (.cells (skCells o n c G k u g fol node (.slice (some ad) r.length pc) hops) 147 (0, 0))) (hP : Rd w (.slice (some ad) r.length pc) r) :
   Calls Tryz.prog 118 #[.pointer (some ⟨b, 0, none⟩), .string s] w fun e w' => (∃ x, e = .returned x) ∧ SkAt w' b o n c G k u g fol ⟨node, parts s.data.toList ++ r, hops⟩ ∧ OnlyG w w' b ∧ Below b w w' := by
 obtain ⟨i9, hi9, hz0, hz1, hz2⟩ := info_parts strInfo
 have hbs := aB9 hb
 have hpl9 : (parts s.data.toList).length ≤ 1048577 := by have h7 := parts_le s.data.toList; rw [aW9] at h7; omega
 have HKd : Hid (w.drew.heap[b]? = _) := qhZ hb
 have ed : w.drew.cell? ⟨b, 6, none⟩ = some (.slice (some ad) r.length pc) := aA9 HKd.out 6
 have HRd := qhZ (hP.below (Below.refl _ w).drew)
 have HOd := qhZ (OnlyG.below b (Below.refl _ w).drew)
 have HBd := qhZ (Below.refl b w).drew
 have hsd : w.heap.size ≤ w.drew.heap.size := HOd.out.1
 clear hb hP
 go_enter Tryz.func118, Tryz.ntmps118
 go_wp2
 go_region_law (first
   | (refine aN9 _ rfl (.tmp 7) (.tmp 11) 97 rfl wI.heap.size 9 i9 (.string ⟨#[]⟩) 1 16 Tryz.underlying97 hi9 hz0 hz1 hz2 rfl (by decide) vC (parts s.data.toList).length (strs (parts s.data.toList)) (by simp [Act.eval, Act.put]) HLC.out ad r.length pc (strs r) (by simp [Act.eval, Act.put]) (by simp [strs]) (rd_newsA HRC.out) (strs_one r) (by unfold maxLen; omega) (by omega) hszC ?_; intro oo cap wA hown hgrow hoo; have hrow : ∀ i, i < wI.heap.size → some i ≠ vC.ownBlock := fun i hi e => (by have h7 := (World.ownsRow.lt HLC.out i e.symm).1; exact absurd hi (Nat.not_lt.2 h7)); have HKA := qhZ ((hgrow.block b (aB9 HKC.out) (hrow b (by omega))).trans HKC.out); have HOA := qhZ (only_grown HOC.out hgrow (fun i hi => hrow i (by omega))); have HBA := qhZ (HBC.out.grown hgrow (Nat.le_of_lt (aB9 HKC.out)) (fun j ej => by have h7 := (World.ownsRow.lt HLC.out j ej).1; have h8 : wI.heap.size ≤ j := h7; omega)); have eA : wA.cell? ⟨b, 6, none⟩ = some (.slice (some ad) r.length pc) := aA9 HKA.out 6; have fA := aE9 HKA.out 6; have HLA := qhZ hown; have HOO := qhZ hoo; clear hown hgrow hoo hrow)
   | (go_simp; go_at_call 151; refine (partsIn_any s _).mono ?_; rintro e wI ⟨rfl, hbI, hzI, hcI⟩; have HCI := qhZ hcI; have hszI := hbI.size; have HZI := qhZ hzI; have HRI := qhZ (HRd.out.below hbI); have HKI := qhZ ((hbI.block b (aB9 HKd.out)).trans HKd.out); have HOI := qhZ (HOd.out.trans (OnlyG.below b hbI)); have HBI := qhZ (HBd.out.trans (hbI.mono (Nat.le_of_lt (aB9 HKd.out)))); have eI : wI.cell? ⟨b, 6, none⟩ = some (.slice (some ad) r.length pc) := aA9 HKI.out 6; clear hbI hcI hzI)
   | (go_simp; go_at_call 150; refine (collect_any s _ _ (by omega) HZI.out HCI.out).mono ?_; rintro e wC ⟨vC, rfl, hLC, hbC⟩; have HLC := qhZ hLC; have hszC := hbC.size; have HRC := qhZ (HRI.out.below hbC); have HKC := qhZ ((hbC.block b (aB9 HKI.out)).trans HKI.out); have HOC := qhZ (HOI.out.trans (OnlyG.below b hbC)); have HBC := qhZ (HBI.out.trans (hbC.mono (Nat.le_of_lt (aB9 HKI.out)))); have eC : wC.cell? ⟨b, 6, none⟩ = some (.slice (some ad) r.length pc) := aA9 HKC.out 6; have fC := aE9 HKC.out 6; clear hLC hbC))
 all_goals
   go_wp2
   go_end0
   have hoff : ∀ a l k, Value.slice oo ((parts s.data.toList).length + r.length) cap = .slice (some a) l k → a.block ≠ b := fun a l k e => by
     simp only [Value.slice.injEq] at e
     obtain ⟨g, rfl, hg9, -⟩ := HOO.out a e.1
     simp only
     omega
   refine ⟨⟨_, rfl⟩, ⟨.slice oo ((parts s.data.toList).length + r.length) cap, heap_setCell_same wA b 6 _ _ _ HKA.out, ?_, hoff⟩, HOA.out.set 6 _, HBA.out.setCell (p := ⟨b, 6, none⟩) (Nat.le_refl _) _⟩
   exact rd_keptV (lst_app HLA.out).read ((OnlyG.below b (Below.refl _ wA)).set 6 _) hoff
set_option maxRecDepth 100000 in
theorem putAhead_none (s : ByteArray) (b : Nat) (o : Option Addr) (n c G k : Nat) (u g : Int) (fol : Bool) (node hops : Nat) (pc : Nat) (w : World) (hs : s.size ≤ 1048576)
   (hb : w.heap[b]? = some (.cells (skCells o n c G k u g fol node (.slice none 0 pc) hops) 147 (0, 0))) :
   Calls Tryz.prog 118 #[.pointer (some ⟨b, 0, none⟩), .string s] w fun e w' => (∃ x, e = .returned x) ∧ SkAt w' b o n c G k u g fol ⟨node, parts s.data.toList, hops⟩ ∧ OnlyG w w' b ∧ Below b w w' := by
 obtain ⟨i9, hi9, hz0, hz1, hz2⟩ := info_parts strInfo
 have hbs := aB9 hb
 have hpl9 : (parts s.data.toList).length ≤ 1048577 := by have h7 := parts_le s.data.toList; rw [aW9] at h7; omega
 have HKd : Hid (w.drew.heap[b]? = _) := qhZ hb
 have ed : w.drew.cell? ⟨b, 6, none⟩ = some (.slice none 0 pc) := aA9 HKd.out 6
 have HOd := qhZ (OnlyG.below b (Below.refl _ w).drew)
 have HBd := qhZ (Below.refl b w).drew
 have hsd : w.heap.size ≤ w.drew.heap.size := HOd.out.1
 clear hb
 go_enter Tryz.func118, Tryz.ntmps118
 go_wp2
 go_region_law (first
   | (refine step_append_none _ rfl (.tmp 7) (.tmp 11) 97 rfl 9 i9 Tryz.underlying97 hi9 oo (parts s.data.toList).length cap pc (by simp [Act.eval, Act.put]) (by simp [Act.eval, Act.put]) HCP.out ?_)
   | (go_simp; go_at_call 151; refine (partsIn_any s _).mono ?_; rintro e wI ⟨rfl, hbI, hzI, hcI⟩; have HCI := qhZ hcI; have hszI := hbI.size; have HZI := qhZ hzI; have HKI := qhZ ((hbI.block b (aB9 HKd.out)).trans HKd.out); have HOI := qhZ (HOd.out.trans (OnlyG.below b hbI)); have HBI := qhZ (HBd.out.trans (hbI.mono (Nat.le_of_lt (aB9 HKd.out)))); have eI : wI.cell? ⟨b, 6, none⟩ = some (.slice none 0 pc) := aA9 HKI.out 6; clear hbI hcI hzI)
   | (go_simp; go_at_call 150; refine (collect_any s _ _ (by omega) HZI.out HCI.out).mono ?_; rintro e wC ⟨vC, rfl, hLC, hbC⟩; obtain ⟨oo, cap, rfl, hoo⟩ := aM9 hLC; have HLC := qhZ hLC; have HCP : Hid ((parts s.data.toList).length ≤ cap) := qhZ (lst_cap hLC); have HOO := qhZ hoo; clear hoo; have hszC := hbC.size; have HKC := qhZ ((hbC.block b (aB9 HKI.out)).trans HKI.out); have HOC := qhZ (HOI.out.trans (OnlyG.below b hbC)); have HBC := qhZ (HBI.out.trans (hbC.mono (Nat.le_of_lt (aB9 HKI.out)))); have eC : wC.cell? ⟨b, 6, none⟩ = some (.slice none 0 pc) := aA9 HKC.out 6; have fC := aE9 HKC.out 6; clear hLC hbC))
 all_goals
   go_wp2
   go_end0
   have hoff : ∀ a l k, Value.slice oo (parts s.data.toList).length cap = .slice (some a) l k → a.block ≠ b := fun a l k e => by
     simp only [Value.slice.injEq] at e
     obtain ⟨g, rfl, hg9, -⟩ := HOO.out a e.1
     simp only
     omega
   refine ⟨⟨_, rfl⟩, ⟨.slice oo (parts s.data.toList).length cap, heap_setCell_same wC b 6 _ _ _ HKC.out, ?_, hoff⟩, HOC.out.set 6 _, HBC.out.setCell (p := ⟨b, 6, none⟩) (Nat.le_refl _) _⟩
   exact rd_keptV HLC.out.read ((OnlyG.below b (Below.refl _ wC)).set 6 _) hoff
theorem putAhead_any (s : ByteArray) (b : Nat) (o : Option Addr) (n c G k : Nat) (u g : Int) (fol : Bool) (st : Lk) (w : World) (hs : s.size ≤ 1048576) (hrl : st.parts.length ≤ 1000) (h : SkAt w b o n c G k u g fol st) :
   Calls Tryz.prog 118 #[.pointer (some ⟨b, 0, none⟩), .string s] w fun e w' => (∃ x, e = .returned x) ∧ SkAt w' b o n c G k u g fol ⟨st.node, parts s.data.toList ++ st.parts, st.hops⟩ ∧ OnlyG w w' b ∧ Below b w w' := by
 obtain ⟨pv, hb, hR, hoff⟩ := h
 obtain ⟨node, r, hops⟩ := st
 simp only at hb hR hrl ⊢
 obtain ⟨po, pc, rfl, h1, h2, h3⟩ := id hR
 cases po with
 | some ad => exact putAhead_some s b o n c G k u g fol node hops ad pc r w hs hrl hb hR
 | none =>
   have hr : r = [] := by
     cases r with
     | nil => rfl
     | cons p r => obtain ⟨g, off, e, -⟩ := h3 0 (by simp); cases e
   subst hr
   rw [List.append_nil]
   exact putAhead_none s b o n c G k u g fol node hops pc w hs hb
def askB (u g m uid gid want : Int) : Bool := credB u g && inB 0 511 m && inB 0 99 uid && inB 0 99 gid && inB 0 7 want
theorem askB_cases (u g m uid gid want : Int) : (askB u g m uid gid want = true ∧ credB u g = true ∧ inB 0 511 m = true ∧ inB 0 99 uid = true ∧ inB 0 99 gid = true ∧ inB 0 7 want = true) ∨
   (askB u g m uid gid want = false ∧ (credB u g = false ∨ (credB u g = true ∧ inB 0 511 m = false) ∨ (credB u g = true ∧ inB 0 511 m = true ∧ inB 0 99 uid = false) ∨
     (credB u g = true ∧ inB 0 511 m = true ∧ inB 0 99 uid = true ∧ inB 0 99 gid = false) ∨ (credB u g = true ∧ inB 0 511 m = true ∧ inB 0 99 uid = true ∧ inB 0 99 gid = true ∧ inB 0 7 want = false))) := by
 unfold askB
 cases credB u g <;> cases inB 0 511 m <;> cases inB 0 99 uid <;> cases inB 0 99 gid <;> cases inB 0 7 want <;> simp
theorem implMay_yes (u g m uid gid want : Int) (w : World) (h : askB u g m uid gid want = true) :
   Calls Tryz.prog 175 #[.agg #[.int .i64 u, .int .i64 g], .int .i64 m, .int .i64 uid, .int .i64 gid, .int .i64 want] w fun e w' => e = .returned (.tuple #[.bool (mayB u g m uid gid want), .bool true]) ∧ Below w.heap.size w w' := by
 have hh : credB u g = true ∧ inB 0 511 m = true ∧ inB 0 99 uid = true ∧ inB 0 99 gid = true ∧ inB 0 7 want = true := by
   rcases askB_cases u g m uid gid want with ⟨_, a⟩ | ⟨a, _⟩
   · exact a
   · rw [a] at h; cases h
 clear h
 obtain ⟨h1, h2, h3, h4, h5⟩ := hh
 have hm := inB_t h2
 by_cases hz : u = 0
 · have hz1 : (u == 0) = true := by simpa using hz
   have HZ := qhZ hz
   clear hz
   go_enter Tryz.func175, Tryz.ntmps175
   go_wp2_with (first | (go_at_call 97; refine (goodCred_any _ _ _).mono ?_; rintro e w1 ⟨rfl, hb⟩; obtain ⟨hc, hf⟩ := old_cells hb) | (go_at_call 69; refine (isMode_any _ _).mono ?_; rintro e w' ⟨rfl, rfl⟩) | (go_at_call 135; refine (isId_any _ _).mono ?_; rintro e w' ⟨rfl, rfl⟩) | (go_at_call 183; refine (isTriple_any _ _).mono ?_; rintro e w' ⟨rfl, rfl⟩))
   go_ret2
   refine ⟨?_, ((Below.refl _ _).alloc (Nat.le_refl _) _).trans (hb.mono (by simp))⟩
   rw [mayB_zero HZ.out]; rfl
 · have hz1 : (u == 0) = false := by simpa using hz
   have HZ := qhZ hz
   clear hz
   go_enter Tryz.func175, Tryz.ntmps175
   go_wp2_with (first | (go_at_call 97; refine (goodCred_any _ _ _).mono ?_; rintro e w1 ⟨rfl, hb⟩; obtain ⟨hc, hf⟩ := old_cells hb) | (go_at_call 69; refine (isMode_any _ _).mono ?_; rintro e w' ⟨rfl, rfl⟩) | (go_at_call 135; refine (isId_any _ _).mono ?_; rintro e w' ⟨rfl, rfl⟩) | (go_at_call 183; refine (isTriple_any _ _).mono ?_; rintro e w' ⟨rfl, rfl⟩) | (go_at_call 184; refine (tripleFor_any _ _ _ _ _ _ hm.1 hm.2).mono ?_; rintro e w2 ⟨rfl, hb2⟩))
   go_ret2
   refine ⟨?_, (((Below.refl _ _).alloc (Nat.le_refl _) _).trans (hb.mono (by simp))).trans (hb2.mono (by have := hb.size; simp at this; omega))⟩
   rw [mayB_else HZ.out]; rfl
theorem toCred_any (u g : Int) (w : World) : Calls Tryz.prog 14 #[.agg #[.int .i64 u, .int .i64 g]] w fun e w' => e = .returned (.agg #[.int .i64 u, .int .i64 g]) ∧ Below w.heap.size w w' := by
 go_enter Tryz.func14, Tryz.ntmps14
 go_wp2
 go_returns
 exact ⟨rfl, by go_grown⟩
theorem implMay_is {u g m uid gid want : Int} {b : Bool} {w : World} (hb : mayB u g m uid gid want = b) (h : askB u g m uid gid want = true) :
   Calls Tryz.prog 175 #[.agg #[.int .i64 u, .int .i64 g], .int .i64 m, .int .i64 uid, .int .i64 gid, .int .i64 want] w fun e w' => e = .returned (.tuple #[.bool b, .bool true]) ∧ Below w.heap.size w w' := by
 rw [← hb]; exact implMay_yes u g m uid gid want w h
theorem mayAt_any (q : Nod) (G p : Nat) (lv : Value) (u g want : Int) (w : World) (hg : G < w.heap.size) (hc : NodC w G p lv q) (h : askB u g q.mode q.uid q.gid want = true) :
   Calls Tryz.prog 153 #[.pointer (some ⟨G, p, none⟩), .agg #[.int .i64 u, .int .i64 g], .int .i64 want] w fun e w' => e = .returned (.bool (mayB u g q.mode q.uid q.gid want)) ∧ Below w.heap.size w w' := by
 obtain ⟨b, hb⟩ : ∃ b, mayB u g q.mode q.uid q.gid want = b := ⟨_, rfl⟩
 have HM := qhZ hb
 have HA := qhZ h
 have hb0 : Below w.heap.size w (w.alloc (.cells #[.int .i64 u, .int .i64 g] 34)) := (Below.refl _ _).alloc (Nat.le_refl _) _
 have HB0 := qhZ hb0
 obtain ⟨d0, d1, d2, d3, d4, d5, d6⟩ := hc.below hb0 hg
 have hX := heap_alloc_new w (.cells #[.int .i64 u, .int .i64 g] 34)
 obtain ⟨W, hW⟩ : ∃ W, w.alloc (.cells #[.int .i64 u, .int .i64 g] 34) = W := ⟨_, rfl⟩
 have HW := qhZ hW
 rw [hW] at d1 d2 d3 hX HB0
 have s0 : W.cell? ⟨w.heap.size, 0, none⟩ = some (.int .i64 u) := aA9 hX 0
 have s1 : W.cell? ⟨w.heap.size, 1, none⟩ = some (.int .i64 g) := aA9 hX 1
 have z0 := fun d os => cell_regrown (w := W) s0 d os
 have z1 := fun d os => cell_regrown (w := W) s1 d os
 have y1 := fun d os => cell_regrown (w := W) d1 d os
 have y2 := fun d os => cell_regrown (w := W) d2 d os
 have y3 := fun d os => cell_regrown (w := W) d3 d os
 rw [hb]
 clear hb h hb0 hc d0 d4 d5 d6 hX hW
 go_enter Tryz.func153, Tryz.ntmps153
 go_wp2
 rw [HW.out]
 refine wp_region_quiet_below (by kernel_rfl) (by kernel_rfl) ?_
 repeat (first | go_big_quiet_step ((go_at_call 175; exact Calls.regrown_of (implMay_is HM.out HA.out))) | quiet_step ((go_at_call 175; exact Calls.regrown_of (implMay_is HM.out HA.out))))
 refine wpQuiet_nil ?_
 intro w2 hwq
 have hb5 : Below W.heap.size W w2 := by
   obtain ⟨pp, rfl⟩ := hwq
   exact below_regrown _ _ _
 have HB2 := qhZ (HB0.out.trans (hb5.mono HB0.out.size))
 clear hwq hb5
 go_wp2
 go_ret
 exact ⟨rfl, HB2.out⟩
def dirC (q : Nod) (u g want : Int) : Int := if q.kind ≠ 2 then 3 else if mayB u g q.mode q.uid q.gid want = false then 4 else 0
theorem mayAt_is {q : Nod} {G p : Nat} {lv : Value} {u g want : Int} {w : World} {b : Bool} (hb : mayB u g q.mode q.uid q.gid want = b) (hg : G < w.heap.size) (hc : NodC w G p lv q) (h : askB u g q.mode q.uid q.gid want = true) :
   Calls Tryz.prog 153 #[.pointer (some ⟨G, p, none⟩), .agg #[.int .i64 u, .int .i64 g], .int .i64 want] w fun e w' => e = .returned (.bool b) ∧ Below w.heap.size w w' := by
 rw [← hb]; exact mayAt_any q G p lv u g want w hg hc h
theorem checkDir_any (q : Nod) (G p : Nat) (lv : Value) (u g want : Int) (w : World) (hg : G < w.heap.size) (hc : NodC w G p lv q) (h : q.kind = 2 → askB u g q.mode q.uid q.gid want = true) :
   Calls Tryz.prog 120 #[.pointer (some ⟨G, p, none⟩), .agg #[.int .i64 u, .int .i64 g], .int .i64 want] w fun e w' => e = .returned (errC (dirC q u g want)) ∧ Below w.heap.size w w' := by
 have hb0 : Below w.heap.size w (w.alloc (.cells #[.int .i64 u, .int .i64 g] 34)) := (Below.refl _ _).alloc (Nat.le_refl _) _
 have HB0 := qhZ hb0
 have hcc := hc.below hb0 hg
 have HC := qhZ hcc
 have d0 := hcc.c0
 clear hcc hc hb0
 by_cases hk : q.kind = 2
 · have HA := qhZ (h hk)
   rw [hk] at d0
   clear h
   obtain ⟨b, hb⟩ : ∃ b, mayB u g q.mode q.uid q.gid want = b := ⟨_, rfl⟩
   have HM := qhZ hb
   have HD : Hid (dirC q u g want = if b = false then 4 else 0) := qhZ (by unfold dirC; rw [if_neg (by rw [hk]; decide), hb])
   clear hb hk
   go_enter Tryz.func120, Tryz.ntmps120
   go_wp2_with fail
   refine (mayAt_is HM.out (by simp; omega) HC.out HA.out).mono ?_
   rintro e w1 ⟨rfl, hb1⟩
   have HB1 := qhZ (HB0.out.trans (hb1.mono HB0.out.size))
   clear hb1
   cases b with
   | true =>
     go_wp2
     go_ret
     exact ⟨by rw [HD.out]; rfl, HB1.out⟩
   | false =>
     go_wp2
     go_ret
     exact ⟨by rw [HD.out]; rfl, HB1.out⟩
 · have HD : Hid (dirC q u g want = 3) := qhZ (by unfold dirC; rw [if_pos hk])
   have hkb : (q.kind != 2) = true := by rw [bne_iff_ne]; exact hk
   have hkc : (q.kind == 2) = false := beq_eq_false_iff_ne.2 hk
   clear h
   go_enter Tryz.func120, Tryz.ntmps120
   go_wp2
   go_ret
   exact ⟨by rw [HD.out]; rfl, HB0.out⟩
end Go.Proofs.YtknhacblialboaaGreatDoor
