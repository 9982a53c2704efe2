
/-
  Contracts of the program's isGoodEntry, of the four kinds' isGood, of isGoodNode.
  Conditions: the node's cells read as plain data; a list of at most 2^20 entries.
-/
import Derived.Test.YtbmbbioanlcioaaInoA

namespace Go.Proofs.Ytbmbbioanlcioaa
open Go.ChangeShapes Go.WideShapes Go.ChangeAt Go.RowKit Go.Joins
set_option linter.unusedVariables false
set_option linter.unusedSimpArgs false

theorem goodName_is {l : List UInt8} {b : Bool} (h : nameB l = b) (s : ByteArray) (hs : s = bs l) (w : World) : Calls Try.prog 118 #[.string s] w fun e w' => e = .returned (.bool b) ∧ Below w.heap.size w w' :=
  (goodName_any s w).mono fun e w' ⟨h1, h2⟩ => ⟨by rw [h1, hs, ← h]; simp [bs], h2⟩

set_option maxHeartbeats 1000000 in
theorem isGoodEntry_any (e : Ent) (count : Int) (s : ByteArray) (w : World) (hs : s = bs e.name) : Calls Try.prog 108 #[.agg #[.string s, .int .i64 e.node], .int .i64 count] w fun x w' => x = .returned (.bool (nameB e.name && inB 0 (count - 1) e.node)) ∧ Below w.heap.size w w' := by
  obtain ⟨nm, r⟩ := e
  simp only at hs ⊢
  have HS := Lib.hid hs
  have hb0 : Below w.heap.size w (w.alloc (.cells #[.string s, .int .i64 r] 67)) := (Below.refl _ _).alloc (Nat.le_refl _) _
  have HB := Lib.hid hb0
  have HK := Lib.hid (heap_alloc_new w (.cells #[.string s, .int .i64 r] 67))
  clear hs hb0
  by_cases hn : nameB nm = true
  · have HN := Lib.hid hn
    by_cases h0 : 0 ≤ r
    · by_cases h1 : r < count
      · have HF : Hid (true = (nameB nm && inB 0 (count - 1) r)) := Lib.hid (by rw [hn, ← inB_mk h0 (by omega)]; rfl)
        clear hn
        go_enter Try.func108, Try.ntmps108
        go_wp2_with fail
        refine (goodName_is HN.out _ HS.out _).mono ?_
        rintro e w1 ⟨rfl, hb1⟩
        have HB1 := Lib.hid (HB.out.trans (hb1.mono HB.out.size))
        have k1 := (hb1.block w.heap.size (lt_of_heap HK.out)).trans HK.out
        have x1 := (cell_blk k1 1).trans rfl
        clear hb1 k1
        go_wp2
        go_ret
        exact ⟨ret_bool HF.out, HB1.out⟩
      · have HF : Hid (false = (nameB nm && inB 0 (count - 1) r)) := Lib.hid (by rw [hn, ← inB_no (.inr (by omega))]; rfl)
        clear hn
        go_enter Try.func108, Try.ntmps108
        go_wp2_with fail
        refine (goodName_is HN.out _ HS.out _).mono ?_
        rintro e w1 ⟨rfl, hb1⟩
        have HB1 := Lib.hid (HB.out.trans (hb1.mono HB.out.size))
        have k1 := (hb1.block w.heap.size (lt_of_heap HK.out)).trans HK.out
        have x1 := (cell_blk k1 1).trans rfl
        clear hb1 k1
        go_wp2
        go_ret
        exact ⟨ret_bool (by rw [← HF.out]; simp [h1]), HB1.out⟩
    · have HF : Hid (false = (nameB nm && inB 0 (count - 1) r)) := Lib.hid (by rw [hn, ← inB_no (.inl (by omega))]; rfl)
      clear hn
      go_enter Try.func108, Try.ntmps108
      go_wp2_with fail
      refine (goodName_is HN.out _ HS.out _).mono ?_
      rintro e w1 ⟨rfl, hb1⟩
      have HB1 := Lib.hid (HB.out.trans (hb1.mono HB.out.size))
      have k1 := (hb1.block w.heap.size (lt_of_heap HK.out)).trans HK.out
      have x1 := (cell_blk k1 1).trans rfl
      clear hb1 k1
      go_wp2
      go_ret
      exact ⟨ret_bool HF.out, HB1.out⟩
  · have HN : Hid (nameB nm = false) := Lib.hid (by simpa using hn)
    have HF : Hid (false = (nameB nm && inB 0 (count - 1) r)) := Lib.hid (by rw [HN.out]; rfl)
    clear hn
    go_enter Try.func108, Try.ntmps108
    go_wp2_with fail
    refine (goodName_is HN.out _ HS.out _).mono ?_
    rintro e w1 ⟨rfl, hb1⟩
    have HB1 := Lib.hid (HB.out.trans (hb1.mono HB.out.size))
    clear hb1
    go_wp2
    go_ret
    exact ⟨ret_bool HF.out, HB1.out⟩

set_option maxHeartbeats 2000000 in
theorem freeGood_any (q : Nod) (lv : Value) (g p : Nat) (w : World) (hg : g < w.heap.size) (hc : NodC w g p lv q) (hE : EntsA w lv q.list) : Calls Try.prog 88 #[.agg #[.pointer (some ⟨g, p, none⟩)]] w fun e w' => e = .returned (.bool (noneB q && (q.data.isEmpty && q.list.isEmpty))) ∧ Below w.heap.size w w' := by
  have hb0 : Below w.heap.size w (w.alloc (.cells #[.pointer (some ⟨g, p, none⟩)] 122)) := (Below.refl _ _).alloc (Nat.le_refl _) _
  have HB := Lib.hid hb0
  have HK := Lib.hid (heap_alloc_new w (.cells #[.pointer (some ⟨g, p, none⟩)] 122))
  have HC := Lib.hid hc
  have HE := Lib.hid hE
  clear hb0 hc hE
  by_cases h1 : noneB q = true
  · have H1 := Lib.hid h1
    by_cases h2 : q.data.isEmpty = true
    · have H2 : Hid ((!q.data.isEmpty) = false) := Lib.hid (by rw [h2]; rfl)
      have HF : Hid ((noneB q && (q.data.isEmpty && q.list.isEmpty)) = q.list.isEmpty) := Lib.hid (by rw [h1, h2]; rfl)
      clear h1 h2
      go_enter Try.func88, Try.ntmps88
      go_wp2_with fail
      refine (hasNone_any q lv g p _ (Nat.lt_of_lt_of_le hg HB.out.size) (HC.out.below HB.out hg)).mono ?_
      rintro e w1 ⟨rfl, hb1⟩
      rw [H1.out]
      have HB1 := Lib.hid (HB.out.trans (hb1.mono HB.out.size))
      have HK1 := Lib.hid ((hb1.block w.heap.size (lt_of_heap HK.out)).trans HK.out)
      have x1 := (cell_blk HK1.out 0).trans rfl
      clear hb1
      go_wp2_with fail
      refine (hasData_any q lv g p _ (Nat.lt_of_lt_of_le hg HB1.out.size) (HC.out.below HB1.out hg)).mono ?_
      rintro e w2 ⟨rfl, hb2⟩
      rw [H2.out]
      have HB2 := Lib.hid (HB1.out.trans (hb2.mono HB1.out.size))
      have HK2 := Lib.hid ((hb2.block w.heap.size (lt_of_heap HK1.out)).trans HK1.out)
      have x2 := (cell_blk HK2.out 0).trans rfl
      clear hb2
      go_wp2_with fail
      refine (hasList_any q lv g p _ (Nat.lt_of_lt_of_le hg HB2.out.size) (HC.out.below HB2.out hg) (HE.out.below HB2.out)).mono ?_
      rintro e w3 ⟨rfl, hb3⟩
      have HB3 := Lib.hid (HB2.out.trans (hb3.mono HB2.out.size))
      clear hb3
      go_wp2
      go_ret
      exact ⟨ret_bool (by rw [HF.out]), HB3.out⟩
    · have H2 : Hid ((!q.data.isEmpty) = true) := Lib.hid (by simpa using h2)
      have HF : Hid ((noneB q && (q.data.isEmpty && q.list.isEmpty)) = false) := Lib.hid (by rw [h1, show q.data.isEmpty = false by simpa using h2]; rfl)
      clear h1 h2
      go_enter Try.func88, Try.ntmps88
      go_wp2_with fail
      refine (hasNone_any q lv g p _ (Nat.lt_of_lt_of_le hg HB.out.size) (HC.out.below HB.out hg)).mono ?_
      rintro e w1 ⟨rfl, hb1⟩
      rw [H1.out]
      have HB1 := Lib.hid (HB.out.trans (hb1.mono HB.out.size))
      have HK1 := Lib.hid ((hb1.block w.heap.size (lt_of_heap HK.out)).trans HK.out)
      have x1 := (cell_blk HK1.out 0).trans rfl
      clear hb1
      go_wp2_with fail
      refine (hasData_any q lv g p _ (Nat.lt_of_lt_of_le hg HB1.out.size) (HC.out.below HB1.out hg)).mono ?_
      rintro e w2 ⟨rfl, hb2⟩
      rw [H2.out]
      have HB2 := Lib.hid (HB1.out.trans (hb2.mono HB1.out.size))
      clear hb2
      go_wp2
      go_ret
      exact ⟨ret_bool HF.out.symm, HB2.out⟩
  · have H1 : Hid (noneB q = false) := Lib.hid (by simpa using h1)
    have HF : Hid ((noneB q && (q.data.isEmpty && q.list.isEmpty)) = false) := Lib.hid (by rw [H1.out]; rfl)
    clear h1
    go_enter Try.func88, Try.ntmps88
    go_wp2_with fail
    refine (hasNone_any q lv g p _ (Nat.lt_of_lt_of_le hg HB.out.size) (HC.out.below HB.out hg)).mono ?_
    rintro e w1 ⟨rfl, hb1⟩
    rw [H1.out]
    have HB1 := Lib.hid (HB.out.trans (hb1.mono HB.out.size))
    clear hb1
    go_wp2
    go_ret
    exact ⟨ret_bool HF.out.symm, HB1.out⟩
end Go.Proofs.Ytbmbbioanlcioaa
