
/-
  The program's text of one line.
  Conditions: a path of at most a million bytes; the table of Itoa stands.
-/
import Derived.Test.YtfieedmeplddjaaDoorDuB
import Derived.Test.YtfieedmeplddjaaDoorShelf
namespace Go.Proofs.YtfieedmeplddjaaDoor
open Go.ChangeShapes Go.WideShapes Go.ChangeAt Go.RowKit Go.Joins
set_option linter.unusedVariables false

theorem below_growN (w : World) (k : Nat) (os : Array Obj) : Below w.heap.size w { (w.drewN k) with heap := (w.drewN k).heap ++ os } :=
  ⟨rfl, rfl, rfl, by
    show w.heap.size ≤ (w.heap ++ os).size
    simp, fun i hi => by
    show (w.heap ++ os)[i]? = _
    exact Array.getElem?_append_left hi⟩
/-- The table that Itoa reads, as the call finds it. -/
def Pow (w : World) : Prop := Lib.TabIs Tryd.prog w "internal/strconv.uint64pow10" .u64 Lib.pow10Tab
def lineS1 (n : Int) (p : List UInt8) : ByteArray := if inB 0 1000000 n && formB p then bs (Lib.decDigits n.toNat ++ [9] ++ p ++ [10]) else ⟨#[]⟩

set_option maxHeartbeats 2000000 in
theorem lineText_any (n : Int) (x : ByteArray) (w : World) (hx : x.size ≤ 1048576) (hT : ∀ w' : World, Below w.heap.size w w' → Pow w') :
    Calls Tryd.prog 21 #[.agg #[.int .i64 n, .string x]] w fun e w' => e = .returned (.tuple #[.string (lineS1 n x.data.toList), .bool (inB 0 1000000 n && formB x.data.toList)]) ∧ Below w.heap.size w w' := by
  have HT := Lib.hid hT
  have HXs : Hid (x.size ≤ maxLen) := Lib.hid (by unfold maxLen; omega)
  clear hT
  have HB1 : Hid (Below w.heap.size w (w.alloc (.cells #[.int .i64 n, .string x] 40))) := Lib.hid ((Below.refl _ w).alloc (Nat.le_refl _) _)
  have HW : Hid (∀ (w2 : World), Below (w.heap.size + 1) (w.alloc (.cells #[.int .i64 n, .string x] 40)) w2 → w2.cell? ⟨w.heap.size, 0, none⟩ = some (.int .i64 n) ∧ w2.cell? ⟨w.heap.size, 1, none⟩ = some (.string x)) := Lib.hid (fun w2 h => ⟨(h.cell (p := ⟨w.heap.size, 0, none⟩) (by simp)).trans ((World.cell?_alloc_mark w _ _ (0, 0) 0).trans rfl), (h.cell (p := ⟨w.heap.size, 1, none⟩) (by simp)).trans ((World.cell?_alloc_mark w _ _ (0, 0) 1).trans rfl)⟩)
  by_cases hi : inB 0 1000000 n = true
  · have hn : 0 ≤ n ∧ n ≤ 1000000 := by unfold inB at hi; simpa using hi
    have h0 := hn.1
    have h1 := hn.2
    have h2 : ¬ n < 0 := by omega
    have h3 : ¬ n > 1000000 := by omega
    have h4 : ¬ 1000000 < n := by omega
    have HI := Lib.hid hi
    clear hi hn
    go_enter Tryd.func21, Tryd.ntmps21
    go_wp2_with fail
    refine (hasPathForm_any x _ HXs.out).mono ?_
    rintro e w2 ⟨rfl, hb2⟩
    obtain ⟨g0, g1⟩ := HW.out w2 (hb2.mono (by simp))
    have HB2 := Lib.hid (HB1.out.trans (hb2.mono (by simp)))
    have hlt2 : w.heap.size < w2.heap.size := by have := hb2.size; simp at this; omega
    clear hb2
    by_cases hf : formB x.data.toList = true
    · rw [hf]
      obtain ⟨m, rfl⟩ : ∃ m : Nat, n = (m : Int) := ⟨n.toNat, by omega⟩
      obtain ⟨y, hy⟩ : ∃ y, y = bs (Lib.decDigits m) := ⟨_, rfl⟩
      have hys : y.size ≤ 1000001 := by rw [hy, bs_size]; have := dd_len m; omega
      have HI2 : Hid (∀ w1 : World, Below w.heap.size w w1 → Calls Tryd.prog 34 #[.int .i64 (m : Int)] w1 fun e w' => e = .returned (.string y) ∧ Below w1.heap.size w1 w') := Lib.hid (fun w1 hw1 => by
        refine (Tryd.strconv_Itoa (m : Int) (by omega) (by omega) w1 (HT.out w1 hw1)).mono ?_
        rintro e w' ⟨rfl, k, os, rfl⟩
        refine ⟨by rw [hy, Lib.itoa_nonneg]; rfl, ?_⟩
        exact below_growN w1 k os)
      have HV : Hid (.string (y ++ ⟨#[9]⟩ ++ x ++ ⟨#[10]⟩) = Value.string (lineS1 (m : Int) x.data.toList)) := Lib.hid (by
        unfold lineS1; rw [HI.out, hf]
        have h9 : bs x.data.toList = x := rfl
        rw [Bool.and_self, if_pos rfl, ← bs_app, ← bs_app, ← bs_app, h9, hy]; rfl)
      have HF := Lib.hid hf
      clear hf hy
      have s1 : y.size + 1 ≤ 9223372036854775807 := by omega
      have s2 : y.size + 1 + x.size ≤ 9223372036854775807 := by omega
      have s3 : y.size + 1 + x.size + 1 ≤ 9223372036854775807 := by omega
      go_wp2
      go_region_with (first | (go_at_call 34; (with_reducible refine (HI2.out _ (by first | exact HB2.out | exact HB2.out.drew)).mono ?_); rintro e w3 ⟨rfl, hb3⟩; have q0 : w3.cell? ⟨w.heap.size, 0, none⟩ = some (.int .i64 (m : Int)) := (hb3.cell (p := ⟨w.heap.size, 0, none⟩) hlt2).trans g0; have q1 : w3.cell? ⟨w.heap.size, 1, none⟩ = some (.string x) := (hb3.cell (p := ⟨w.heap.size, 1, none⟩) hlt2).trans g1; have HB3 : Hid (Below w.heap.size w w3) := Lib.hid (HB2.out.drew.trans (hb3.mono (HB2.out.size))); clear hb3))
      all_goals
        go_wp2
        go_ret2
        exact ⟨by rw [← HV.out, HI.out, HF.out]; rfl, HB3.out⟩
    · have hf' : formB x.data.toList = false := by simpa using hf
      have HV : Hid (lineS1 n x.data.toList = ⟨#[]⟩) := Lib.hid (by unfold lineS1; rw [HI.out, hf']; rfl)
      have HF := Lib.hid hf'
      rw [hf']
      clear hf hf'
      go_wp2
      go_ret2
      exact ⟨by rw [HV.out, HI.out, HF.out]; rfl, HB2.out⟩
  · have hi' : inB 0 1000000 n = false := by simpa using hi
    have HV : Hid (lineS1 n x.data.toList = ⟨#[]⟩) := Lib.hid (by unfold lineS1; rw [hi']; rfl)
    have HI := Lib.hid hi'
    by_cases h0 : n < 0
    · clear hi hi'
      go_enter Tryd.func21, Tryd.ntmps21
      go_wp2
      go_ret2
      exact ⟨by rw [HV.out, HI.out]; rfl, HB1.out⟩
    · have h1 : n > 1000000 := by unfold inB at hi'; simp at hi'; omega
      have h2 : 1000000 < n := h1
      clear hi hi'
      go_enter Tryd.func21, Tryd.ntmps21
      go_wp2
      go_ret2
      exact ⟨by rw [HV.out, HI.out]; rfl, HB1.out⟩
end Go.Proofs.YtfieedmeplddjaaDoor
