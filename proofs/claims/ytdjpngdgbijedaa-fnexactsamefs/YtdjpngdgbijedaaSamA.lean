
/-
  Contracts of the program's and the model's comparisons of two lists of entries and of two nodes.
  Conditions: lists of at most 2^20 entries.
-/
import Derived.Test.YtdjpngdgbijedaaFsT
import Derived.Laws.Cover1
namespace Go.Proofs.Ytdjpngdgbijedaa
open Go.ChangeShapes Go.WideShapes Go.ChangeAt Go.RowKit Go.Joins
set_option linter.unusedVariables false
set_option linter.unusedSimpArgs false

open Classical in
noncomputable def eqB {α : Type} (a b : α) : Bool := decide (a = b)
theorem eqB_yes {α : Type} {a b : α} (h : a = b) : true = eqB a b := by unfold eqB; simp [h]
theorem eqB_no {α : Type} {a b : α} (h : a ≠ b) : false = eqB a b := by unfold eqB; simp [h]
theorem bsl2 (l : List UInt8) : (bs l).toList = l := by rw [ByteArray.toList_eq]; simp [bs]
theorem bytes_ne {x y : ByteArray} (h : x ≠ y) : (x.toList == y.toList) = false := by
  rw [beq_eq_false_iff_ne]
  intro e
  rw [ByteArray.toList_eq, ByteArray.toList_eq] at e
  exact h (ByteArray.ext (Array.toList_inj.1 e))

set_option maxHeartbeats 2000000 in
theorem entsEqual_any (es fs : List Ent) (u v : Value) (w : World) (hU : EntsA w u es) (hV : EntsA w v fs) (hs : es.length ≤ 1048576) : Calls Try.prog 72 #[u, v] w fun e w' => e = .returned (.bool (eqB es fs)) ∧ Below w.heap.size w w' := by
  obtain ⟨o1, c1, rfl, hm1, hH1⟩ := hU
  obtain ⟨o2, c2, rfl, hm2, hH2⟩ := hV
  have HH1 := Lib.hid hH1
  have HH2 := Lib.hid hH2
  clear hH1 hH2
  unfold maxLen at hm1 hm2
  by_cases hl : es.length = fs.length
  · have HL := Lib.hid hl
    rw [← hl] at hm2 ⊢
    clear hl
    go_enter Try.func72, Try.ntmps72
    go_wp2
    go_loopw [13] (fun i wr => ∃ k : Nat, k ≤ es.length ∧ i = .int .i64 k ∧ Below w.heap.size w wr ∧ ∀ j (h1 : j < es.length) (h2 : j < fs.length), j < k → es[j] = fs[j]) (fun i _ => es.length - (intOf i).toNat)
    case atStart => exact ⟨0, Nat.zero_le _, rfl, Below.refl _ _, fun j _ _ h => absurd h (Nat.not_lt_zero _)⟩
    case round =>
      obtain ⟨k, hk, rfl, hB, hJ⟩ := hrel
      have HJ := Lib.hid hJ
      clear hJ
      by_cases hlt : k < es.length
      · have hlt2 : k < fs.length := by have := HL.out; omega
        obtain ⟨g1, f1, rfl, q1, x1, y1, _⟩ := HH1.out k hlt
        obtain ⟨g2, f2, rfl, q2, x2, y2, _⟩ := HH2.out k hlt2
        have d1 := (hB.cell (p := ⟨g1, f1 + k * 2, none⟩) q1).trans x1
        have d2 := (hB.cell (p := ⟨g1, f1 + k * 2 + 1, none⟩) q1).trans y1
        have d3 := (hB.cell (p := ⟨g2, f2 + k * 2, none⟩) q2).trans x2
        have d4 := (hB.cell (p := ⟨g2, f2 + k * 2 + 1, none⟩) q2).trans y2
        obtain ⟨a, ha⟩ : ∃ a, a = bs es[k].name := ⟨_, rfl⟩
        obtain ⟨b, hb⟩ : ∃ b, b = bs fs[k].name := ⟨_, rfl⟩
        obtain ⟨r, hr⟩ : ∃ r, r = es[k].node := ⟨_, rfl⟩
        obtain ⟨s, hs⟩ : ∃ s, s = fs[k].node := ⟨_, rfl⟩
        rw [← ha] at d1
        rw [← hr] at d2
        rw [← hb] at d3
        rw [← hs] at d4
        have HEQ : Hid (es[k] = fs[k] ↔ a = b ∧ r = s) := Lib.hid (by
          rw [ha, hb, hr, hs, bs_inj]
          constructor
          · intro h; rw [h]; exact ⟨rfl, rfl⟩
          · rintro ⟨h1, h2⟩
            cases h3 : es[k]; cases h4 : fs[k]
            rw [h3, h4] at h1 h2
            simp only at h1 h2
            rw [h1, h2])
        clear x1 x2 y1 y2 ha hb hr hs
        have z1 := fun d os => cell_regrown (w := wr) d1 d os
        have z2 := fun d os => cell_regrown (w := wr) d2 d os
        have z3 := fun d os => cell_regrown (w := wr) d3 d os
        have z4 := fun d os => cell_regrown (w := wr) d4 d os
        go_wp2
        by_cases hab : a = b
        · by_cases hrs : r = s
          · have HJ2 : Hid (∀ j (h1 : j < es.length) (h2 : j < fs.length), j < k + 1 → es[j] = fs[j]) := Lib.hid (by
              intro j h1 h2 h
              rcases Nat.lt_succ_iff_lt_or_eq.1 h with h3 | rfl
              · exact HJ.out j h1 h2 h3
              · exact HEQ.out.2 ⟨hab, hrs⟩)
            subst hab hrs
            refine wp_region_quiet_below (by kernel_rfl) (by kernel_rfl) ?_
            repeat (first | go_big_quiet_step (fail) | quiet_step (fail))
            refine wpQuiet_nil ?_
            intro w5 hwq
            have hb5 : Below wr.heap.size wr w5 := by
              obtain ⟨pp, rfl⟩ := hwq
              exact below_regrown _ _ _
            clear hwq z1 z2 z3 z4
            go_wp2
            go_roundw
            case rel => exact ⟨k + 1, hlt, by go_num, hB.trans (hb5.mono hB.size), HJ2.out⟩
            case measure => simp [intOf]; omega
          · have HF : Hid (es ≠ fs) := Lib.hid (fun h => hrs (HEQ.out.1 (by simp only [h])).2)
            have hrb : (r == s) = false := beq_eq_false_iff_ne.2 hrs
            subst hab
            refine wp_region_quiet_below (by kernel_rfl) (by kernel_rfl) ?_
            repeat (first | go_big_quiet_step (fail) | quiet_step (fail))
            refine wpQuiet_nil ?_
            intro w5 hwq
            have hb5 : Below wr.heap.size wr w5 := by
              obtain ⟨pp, rfl⟩ := hwq
              exact below_regrown _ _ _
            clear hwq z1 z2 z3 z4
            go_wp2
            go_ret
            exact ⟨ret_bool (eqB_no HF.out), hB.trans (hb5.mono hB.size)⟩
        · have HF : Hid (es ≠ fs) := Lib.hid (fun h => hab (HEQ.out.1 (by simp only [h])).1)
          have hab' := bytes_ne hab
          refine wp_region_quiet_below (by kernel_rfl) (by kernel_rfl) ?_
          repeat (first | go_big_quiet_step (fail) | quiet_step (fail))
          refine wpQuiet_nil ?_
          intro w5 hwq
          have hb5 : Below wr.heap.size wr w5 := by
            obtain ⟨pp, rfl⟩ := hwq
            exact below_regrown _ _ _
          clear hwq z1 z2 z3 z4
          go_wp2
          go_ret
          exact ⟨ret_bool (eqB_no HF.out), hB.trans (hb5.mono hB.size)⟩
      · have HF : Hid (es = fs) := Lib.hid (List.ext_getElem HL.out (fun j h1 h2 => HJ.out j h1 h2 (by omega)))
        go_wp2
        go_ret
        exact ⟨ret_bool (eqB_yes HF.out), hB⟩
  · have HF : Hid (es ≠ fs) := Lib.hid (fun h => hl (by rw [h]))
    have hlb : ((es.length : Int) != (fs.length : Int)) = true := by rw [bne_iff_ne]; omega
    go_enter Try.func72, Try.ntmps72
    go_wp2
    go_ret
    exact ⟨ret_bool (eqB_no HF.out), Below.refl _ _⟩
end Go.Proofs.Ytdjpngdgbijedaa
