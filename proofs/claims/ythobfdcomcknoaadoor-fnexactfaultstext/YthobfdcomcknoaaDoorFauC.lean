
/-
  The program's text of one fault.
  Conditions: a path of at most a million bytes; the table of the codes' words stands.
-/
import Derived.Test.YthobfdcomcknoaaDoorFauB
namespace Go.Proofs.YthobfdcomcknoaaDoor
open Go.ChangeShapes Go.WideShapes Go.ChangeAt Go.RowKit Go.Joins
set_option linter.unusedVariables false

def faultS1 (n : Int) (p : List UInt8) : ByteArray := if inB 1 10 n && formB p then bs (p ++ [58, 32] ++ codeT n ++ [10]) else ⟨#[]⟩

set_option maxHeartbeats 2000000 in
theorem faultText_any (n : Int) (x : ByteArray) (w : World) (hx : x.size ≤ 1048576) (hT : ∀ w' : World, Below w.heap.size w w' → Tab4 w') :
    Calls Tryd.prog 15 #[.agg #[.string x, .int .i64 n]] w fun e w' => e = .returned (.tuple #[.string (faultS1 n x.data.toList), .bool (inB 1 10 n && formB x.data.toList)]) ∧ Below w.heap.size w w' := by
  have HXs : Hid (x.size ≤ maxLen) := Lib.hid (by unfold maxLen; omega)
  have HB1 : Hid (Below w.heap.size w (w.alloc (.cells #[.string x, .int .i64 n] 33))) := Lib.hid ((Below.refl _ w).alloc (Nat.le_refl _) _)
  have HW : Hid (∀ (w2 : World), Below (w.heap.size + 1) (w.alloc (.cells #[.string x, .int .i64 n] 33)) w2 → w2.cell? ⟨w.heap.size, 0, none⟩ = some (.string x) ∧ w2.cell? ⟨w.heap.size, 1, none⟩ = some (.int .i64 n)) := Lib.hid (fun w2 h => ⟨(h.cell (p := ⟨w.heap.size, 0, none⟩) (by simp)).trans ((World.cell?_alloc_mark w _ _ (0, 0) 0).trans rfl), (h.cell (p := ⟨w.heap.size, 1, none⟩) (by simp)).trans ((World.cell?_alloc_mark w _ _ (0, 0) 1).trans rfl)⟩)
  have HC := Lib.hid (codeText_any n (w.alloc (.cells #[.string x, .int .i64 n] 33)) (hT _ HB1.out))
  obtain ⟨y, hy⟩ : ∃ y, y = bs (codeT n) := ⟨_, rfl⟩
  have hys : y.size ≤ 5 := by rw [hy, bs_size]; exact codeT_len _
  rw [← hy] at HC
  have HY := Lib.hid hy
  clear hT hy
  by_cases hi : inB 1 10 n = true
  · have hn : 1 ≤ n ∧ n ≤ 10 := by unfold inB at hi; simpa using hi
    have h0 := hn.1
    have h1 := hn.2
    have h2 : ¬ n = 0 := by omega
    have HI0 : Hid (inB 0 10 n = true) := Lib.hid (by unfold inB; simp; omega)
    rw [HI0.out] at HC
    have HI := Lib.hid hi
    clear hi hn
    go_enter Tryd.func15, Tryd.ntmps15
    go_wp2_with fail
    refine HC.out.mono ?_
    rintro e w1 ⟨rfl, rfl⟩
    have c0 := (World.cell?_alloc_mark w #[.string x, .int .i64 n] 33 (0, 0) 0).trans (show _ = some (Value.string x) from rfl)
    have c1 := (World.cell?_alloc_mark w #[.string x, .int .i64 n] 33 (0, 0) 1).trans (show _ = some (Value.int .i64 n) from rfl)
    go_wp2_with fail
    refine (hasPathForm_any x _ HXs.out).mono ?_
    rintro e w2 ⟨rfl, hb2⟩
    obtain ⟨g0, g1⟩ := HW.out w2 (hb2.mono (by simp))
    have HB2 := Lib.hid (HB1.out.trans (hb2.mono (by simp)))
    clear hb2 c0 c1
    by_cases hf : formB x.data.toList = true
    · rw [hf]
      have HV : Hid (.string (x ++ ⟨#[58, 32]⟩ ++ y ++ ⟨#[10]⟩) = Value.string (faultS1 n x.data.toList)) := Lib.hid (by
        unfold faultS1; rw [HI.out, hf]
        have h9 : bs x.data.toList = x := rfl
        rw [Bool.and_self, if_pos rfl, ← bs_app, ← bs_app, ← bs_app, h9, HY.out]; rfl)
      have HF := Lib.hid hf
      clear hf
      have s1 : ¬ (9223372036854775807 < x.size + 2) := by omega
      have s2 : ¬ (9223372036854775807 < x.size + 2 + y.size) := by omega
      have s3 : ¬ (9223372036854775807 < x.size + 2 + y.size + 1) := by omega
      go_wp2
      go_ret2
      exact ⟨by rw [← HV.out, HI.out, HF.out]; rfl, HB2.out⟩
    · have hf' : formB x.data.toList = false := by simpa using hf
      have HV : Hid (faultS1 n x.data.toList = ⟨#[]⟩) := Lib.hid (by unfold faultS1; rw [HI.out, hf']; rfl)
      have HF := Lib.hid hf'
      rw [hf']
      clear hf hf'
      go_wp2
      go_ret2
      exact ⟨by rw [HV.out, HI.out, HF.out]; rfl, HB2.out⟩
  · have hi' : inB 1 10 n = false := by simpa using hi
    have HV : Hid (faultS1 n x.data.toList = ⟨#[]⟩) := Lib.hid (by unfold faultS1; rw [hi']; rfl)
    have HI := Lib.hid hi'
    have c1 := (World.cell?_alloc_mark w #[.string x, .int .i64 n] 33 (0, 0) 1).trans (show _ = some (Value.int .i64 n) from rfl)
    by_cases h0 : n = 0
    · subst h0
      have HI0 : Hid (inB 0 10 0 = true) := Lib.hid (by rfl)
      rw [HI0.out] at HC
      clear hi hi'
      go_enter Tryd.func15, Tryd.ntmps15
      go_wp2_with fail
      refine HC.out.mono ?_
      rintro e w1 ⟨rfl, rfl⟩
      go_wp2
      go_ret2
      exact ⟨by rw [HV.out, HI.out]; rfl, HB1.out⟩
    · have HI0 : Hid (inB 0 10 n = false) := Lib.hid (by
        unfold inB at hi' ⊢; simp at hi' ⊢; omega)
      rw [HI0.out] at HC
      clear hi hi'
      go_enter Tryd.func15, Tryd.ntmps15
      go_wp2_with fail
      refine HC.out.mono ?_
      rintro e w1 ⟨rfl, rfl⟩
      go_wp2
      go_ret2
      exact ⟨by rw [HV.out, HI.out]; rfl, HB1.out⟩
end Go.Proofs.YthobfdcomcknoaaDoor
