
/-
  Contracts of the program's tests of one node: isRoom, isTime, isMode, isId, what all inodes have, the four kinds' isGood, isGoodEntry, isGoodNode.
  Conditions: the node's cells read as plain data; a list of at most 2^20 entries.
-/
import Derived.Test.YtbmbbioanlcioaaFsU
import Derived.Test.YtbmbbioanlcioaaGoodC
import Derived.Laws.Cover1
namespace Go.Proofs.Ytbmbbioanlcioaa
open Go.ChangeShapes Go.WideShapes Go.ChangeAt Go.RowKit Go.Joins
set_option linter.unusedVariables false
set_option linter.unusedSimpArgs false

section
set_option maxHeartbeats 400000
theorem isRoom_any (n : Int) (w : World) : Calls Try.prog 64 #[.int .i64 n] w fun e w' => e = .returned (.bool (inB 0 1000 n)) ∧ w = w' := by
  by_cases h0 : 0 ≤ n
  · by_cases h1 : n ≤ 1000
    · go_enter Try.func64, Try.ntmps64
      go_wp2
      go_ret
      exact ⟨ret_bool (inB_mk h0 h1), rfl⟩
    · go_enter Try.func64, Try.ntmps64
      go_wp2
      go_ret
      exact ⟨ret_bool (inB_no (by omega)), rfl⟩
  · go_enter Try.func64, Try.ntmps64
    go_wp2
    go_ret
    exact ⟨ret_bool (inB_no (by omega)), rfl⟩
theorem isTime_any (n : Int) (w : World) : Calls Try.prog 117 #[.int .i64 n] w fun e w' => e = .returned (.bool (inB 0 1000000 n)) ∧ w = w' := by
  by_cases h0 : 0 ≤ n
  · by_cases h1 : n ≤ 1000000
    · go_enter Try.func117, Try.ntmps117
      go_wp2
      go_ret
      exact ⟨ret_bool (inB_mk h0 h1), rfl⟩
    · go_enter Try.func117, Try.ntmps117
      go_wp2
      go_ret
      exact ⟨ret_bool (inB_no (by omega)), rfl⟩
  · go_enter Try.func117, Try.ntmps117
    go_wp2
    go_ret
    exact ⟨ret_bool (inB_no (by omega)), rfl⟩
theorem isModeN_any (n : Int) (w : World) : Calls Try.prog 115 #[.int .i64 n] w fun e w' => e = .returned (.bool (inB 0 511 n)) ∧ w = w' := by
  by_cases h0 : 0 ≤ n
  · by_cases h1 : n ≤ 511
    · go_enter Try.func115, Try.ntmps115
      go_wp2
      go_ret
      exact ⟨ret_bool (inB_mk h0 h1), rfl⟩
    · go_enter Try.func115, Try.ntmps115
      go_wp2
      go_ret
      exact ⟨ret_bool (inB_no (by omega)), rfl⟩
  · go_enter Try.func115, Try.ntmps115
    go_wp2
    go_ret
    exact ⟨ret_bool (inB_no (by omega)), rfl⟩
theorem isIdN_any (n : Int) (w : World) : Calls Try.prog 116 #[.int .i64 n] w fun e w' => e = .returned (.bool (inB 0 99 n)) ∧ w = w' := by
  by_cases h0 : 0 ≤ n
  · by_cases h1 : n ≤ 99
    · go_enter Try.func116, Try.ntmps116
      go_wp2
      go_ret
      exact ⟨ret_bool (inB_mk h0 h1), rfl⟩
    · go_enter Try.func116, Try.ntmps116
      go_wp2
      go_ret
      exact ⟨ret_bool (inB_no (by omega)), rfl⟩
  · go_enter Try.func116, Try.ntmps116
    go_wp2
    go_ret
    exact ⟨ret_bool (inB_no (by omega)), rfl⟩
end

def attrB (q : Nod) : Bool := inB 0 511 q.mode && (inB 0 99 q.uid && (inB 0 99 q.gid && inB 0 1000000 q.time))
def noneB (q : Nod) : Bool := q.mode == 0 && (q.uid == 0 && (q.gid == 0 && q.time == 0))

set_option maxHeartbeats 1000000 in
theorem hasAttr_any (q : Nod) (lv : Value) (g p : Nat) (w : World) (hg : g < w.heap.size) (hc : NodC w g p lv q) : Calls Try.prog 107 #[.agg #[.pointer (some ⟨g, p, none⟩)]] w fun e w' => e = .returned (.bool (attrB q)) ∧ Below w.heap.size w w' := by
  have hB : ∀ o, Below w.heap.size w (w.alloc o) := fun o => (Below.refl _ _).alloc (Nat.le_refl _) _
  have HB := Lib.hid hB
  obtain ⟨d0, d1, d2, d3, d4, d5, d6⟩ := hc.below (hB (.cells #[.pointer (some ⟨g, p, none⟩)] 120)) hg
  clear hB
  go_enter Try.func107, Try.ntmps107
  go_wp2_with (first | (go_at_call 115; refine (isModeN_any _ _).mono ?_; rintro e w' ⟨rfl, rfl⟩) | (go_at_call 116; refine (isIdN_any _ _).mono ?_; rintro e w' ⟨rfl, rfl⟩) | (go_at_call 117; refine (isTime_any _ _).mono ?_; rintro e w' ⟨rfl, rfl⟩))
  all_goals
    go_ret
    refine ⟨ret_bool ?_, HB.out _⟩
    simp [attrB, *]

set_option maxHeartbeats 1000000 in
theorem hasNone_any (q : Nod) (lv : Value) (g p : Nat) (w : World) (hg : g < w.heap.size) (hc : NodC w g p lv q) : Calls Try.prog 104 #[.agg #[.pointer (some ⟨g, p, none⟩)]] w fun e w' => e = .returned (.bool (noneB q)) ∧ Below w.heap.size w w' := by
  have hB : ∀ o, Below w.heap.size w (w.alloc o) := fun o => (Below.refl _ _).alloc (Nat.le_refl _) _
  have HB := Lib.hid hB
  obtain ⟨d0, d1, d2, d3, d4, d5, d6⟩ := hc.below (hB (.cells #[.pointer (some ⟨g, p, none⟩)] 120)) hg
  clear hB
  go_enter Try.func104, Try.ntmps104
  go_wp2
  all_goals
    go_ret
    refine ⟨ret_bool ?_, HB.out _⟩
    simp [noneB, *]

theorem len_pos {l : List UInt8} : (decide (0 < (bs l).size)) = !l.isEmpty := by
  rw [bs_size]
  cases l <;> simp

set_option maxHeartbeats 1000000 in
theorem hasData_any (q : Nod) (lv : Value) (g p : Nat) (w : World) (hg : g < w.heap.size) (hc : NodC w g p lv q) : Calls Try.prog 105 #[.agg #[.pointer (some ⟨g, p, none⟩)]] w fun e w' => e = .returned (.bool (!q.data.isEmpty)) ∧ Below w.heap.size w w' := by
  have hB : ∀ o, Below w.heap.size w (w.alloc o) := fun o => (Below.refl _ _).alloc (Nat.le_refl _) _
  have HB := Lib.hid hB
  obtain ⟨d0, d1, d2, d3, d4, d5, d6⟩ := hc.below (hB (.cells #[.pointer (some ⟨g, p, none⟩)] 120)) hg
  have HL := Lib.hid (len_pos (l := q.data))
  clear hB
  go_enter Try.func105, Try.ntmps105
  go_wp2
  all_goals
    go_ret
    refine ⟨ret_bool ?_, HB.out _⟩
    rw [← HL.out]

set_option maxHeartbeats 1000000 in
theorem hasList_any (q : Nod) (lv : Value) (g p : Nat) (w : World) (hg : g < w.heap.size) (hc : NodC w g p lv q) (hE : EntsA w lv q.list) : Calls Try.prog 106 #[.agg #[.pointer (some ⟨g, p, none⟩)]] w fun e w' => e = .returned (.bool (!q.list.isEmpty)) ∧ Below w.heap.size w w' := by
  have hB : ∀ o, Below w.heap.size w (w.alloc o) := fun o => (Below.refl _ _).alloc (Nat.le_refl _) _
  have HB := Lib.hid hB
  obtain ⟨o2, c2, rfl, -, -⟩ := hE
  obtain ⟨d0, d1, d2, d3, d4, d5, d6⟩ := hc.below (hB (.cells #[.pointer (some ⟨g, p, none⟩)] 120)) hg
  have HL : Hid (decide (0 < q.list.length) = !q.list.isEmpty) := Lib.hid (by cases q.list <;> simp)
  clear hB
  go_enter Try.func106, Try.ntmps106
  go_wp2
  all_goals
    go_ret
    refine ⟨ret_bool ?_, HB.out _⟩
    rw [← HL.out]
end Go.Proofs.Ytbmbbioanlcioaa
