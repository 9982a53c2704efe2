/-
  Contracts of impl.readTriple, impl.ReadMode and spec.ReadMode, for every text: the mode whose nine signs it is, and true; or 0 and false.
  Conditions: the table's cells (impl's two), and what each contract names.
-/
import Derived.Test.YtkindoihmcojdaaDoorSigC
namespace Go.Proofs.YtkindoihmcojdaaDoor
open Go.ChangeShapes Go.WideShapes Go.ChangeAt Go.RowKit Go.Joins
set_option linter.unusedVariables false

def NotSig (s : ByteArray) : Prop := ∀ k : Int, 0 ≤ k → k ≤ 7 → sig k ≠ s

theorem notSig_at {s : ByteArray} (h : NotSig s) (k : Int) (h0 : 0 ≤ k) (h1 : k ≤ 7) : ((sig k).toList == s.toList) = false := by
  rw [beq_eq_false_iff_ne]
  exact fun e => h k h0 h1 (text_inj e)

theorem sig_inj_fin : ∀ a b : Fin 8, sig (a.val : Int) = sig (b.val : Int) → a = b := by decide +kernel
theorem sig_inj (a b : Int) (ha0 : 0 ≤ a) (ha1 : a ≤ 7) (hb0 : 0 ≤ b) (hb1 : b ≤ 7) (h : sig a = sig b) : a = b := by
  have := sig_inj_fin ⟨a.toNat, by omega⟩ ⟨b.toNat, by omega⟩ (by
    simp only []
    rw [show ((a.toNat : Nat) : Int) = a by omega, show ((b.toNat : Nat) : Int) = b by omega]
    exact h)
  simp at this
  omega

theorem tab_at0 (w : World) : (Instr.index 43 (.agg #[.string (sig 0), .string (sig 1), .string (sig 2), .string (sig 3), .string (sig 4), .string (sig 5), .string (sig 6), .string (sig 7)]) (.int .i64 0)).run Tryd.prog w = .ok (.string (sig 0)) w := by kernel_rfl
theorem tab_at1 (w : World) : (Instr.index 43 (.agg #[.string (sig 0), .string (sig 1), .string (sig 2), .string (sig 3), .string (sig 4), .string (sig 5), .string (sig 6), .string (sig 7)]) (.int .i64 1)).run Tryd.prog w = .ok (.string (sig 1)) w := by kernel_rfl
theorem tab_at2 (w : World) : (Instr.index 43 (.agg #[.string (sig 0), .string (sig 1), .string (sig 2), .string (sig 3), .string (sig 4), .string (sig 5), .string (sig 6), .string (sig 7)]) (.int .i64 2)).run Tryd.prog w = .ok (.string (sig 2)) w := by kernel_rfl
theorem tab_at3 (w : World) : (Instr.index 43 (.agg #[.string (sig 0), .string (sig 1), .string (sig 2), .string (sig 3), .string (sig 4), .string (sig 5), .string (sig 6), .string (sig 7)]) (.int .i64 3)).run Tryd.prog w = .ok (.string (sig 3)) w := by kernel_rfl
theorem tab_at4 (w : World) : (Instr.index 43 (.agg #[.string (sig 0), .string (sig 1), .string (sig 2), .string (sig 3), .string (sig 4), .string (sig 5), .string (sig 6), .string (sig 7)]) (.int .i64 4)).run Tryd.prog w = .ok (.string (sig 4)) w := by kernel_rfl
theorem tab_at5 (w : World) : (Instr.index 43 (.agg #[.string (sig 0), .string (sig 1), .string (sig 2), .string (sig 3), .string (sig 4), .string (sig 5), .string (sig 6), .string (sig 7)]) (.int .i64 5)).run Tryd.prog w = .ok (.string (sig 5)) w := by kernel_rfl
theorem tab_at6 (w : World) : (Instr.index 43 (.agg #[.string (sig 0), .string (sig 1), .string (sig 2), .string (sig 3), .string (sig 4), .string (sig 5), .string (sig 6), .string (sig 7)]) (.int .i64 6)).run Tryd.prog w = .ok (.string (sig 6)) w := by kernel_rfl
theorem tab_at7 (w : World) : (Instr.index 43 (.agg #[.string (sig 0), .string (sig 1), .string (sig 2), .string (sig 3), .string (sig 4), .string (sig 5), .string (sig 6), .string (sig 7)]) (.int .i64 7)).run Tryd.prog w = .ok (.string (sig 7)) w := by kernel_rfl

set_option maxRecDepth 100000 in
set_option maxHeartbeats 400000 in
theorem readTriple_no (s : ByteArray) (w : World) (ht : Tab w) (h : NotSig s) :
    Calls Tryd.prog 28 #[.string s] w fun e w' => e = .returned (.tuple #[.int .i64 0, .bool false]) ∧ w = w' := by
  have t0 : w.cell? ⟨0, 0, none⟩ = some (.string (sig 0)) := ht.2 0 (by omega) (by omega)
  have t1 : w.cell? ⟨0, 1, none⟩ = some (.string (sig 1)) := ht.2 1 (by omega) (by omega)
  have t2 : w.cell? ⟨0, 2, none⟩ = some (.string (sig 2)) := ht.2 2 (by omega) (by omega)
  have t3 : w.cell? ⟨0, 3, none⟩ = some (.string (sig 3)) := ht.2 3 (by omega) (by omega)
  have t4 : w.cell? ⟨0, 4, none⟩ = some (.string (sig 4)) := ht.2 4 (by omega) (by omega)
  have t5 : w.cell? ⟨0, 5, none⟩ = some (.string (sig 5)) := ht.2 5 (by omega) (by omega)
  have t6 : w.cell? ⟨0, 6, none⟩ = some (.string (sig 6)) := ht.2 6 (by omega) (by omega)
  have t7 : w.cell? ⟨0, 7, none⟩ = some (.string (sig 7)) := ht.2 7 (by omega) (by omega)
  have q0 := notSig_at h 0 (by omega) (by omega)
  have q1 := notSig_at h 1 (by omega) (by omega)
  have q2 := notSig_at h 2 (by omega) (by omega)
  have q3 := notSig_at h 3 (by omega) (by omega)
  have q4 := notSig_at h 4 (by omega) (by omega)
  have q5 := notSig_at h 5 (by omega) (by omega)
  have q6 := notSig_at h 6 (by omega) (by omega)
  have q7 := notSig_at h 7 (by omega) (by omega)
  clear h ht
  have x0 := tab_at0
  have x1 := tab_at1
  have x2 := tab_at2
  have x3 := tab_at3
  have x4 := tab_at4
  have x5 := tab_at5
  have x6 := tab_at6
  have x7 := tab_at7
  go_enter Tryd.func28, Tryd.ntmps28
  go_wp2
  go_rounds 9
  go_ret2
  exact ⟨rfl, rfl⟩

set_option maxRecDepth 100000 in
set_option maxHeartbeats 400000 in
theorem readTriple_yes0 (w : World) (ht : Tab w) :
    Calls Tryd.prog 28 #[.string (sig 0)] w fun e w' => e = .returned (.tuple #[.int .i64 0, .bool true]) ∧ w = w' := by
  have t0 : w.cell? ⟨0, 0, none⟩ = some (.string (sig 0)) := ht.2 0 (by omega) (by omega)
  have t1 : w.cell? ⟨0, 1, none⟩ = some (.string (sig 1)) := ht.2 1 (by omega) (by omega)
  have t2 : w.cell? ⟨0, 2, none⟩ = some (.string (sig 2)) := ht.2 2 (by omega) (by omega)
  have t3 : w.cell? ⟨0, 3, none⟩ = some (.string (sig 3)) := ht.2 3 (by omega) (by omega)
  have t4 : w.cell? ⟨0, 4, none⟩ = some (.string (sig 4)) := ht.2 4 (by omega) (by omega)
  have t5 : w.cell? ⟨0, 5, none⟩ = some (.string (sig 5)) := ht.2 5 (by omega) (by omega)
  have t6 : w.cell? ⟨0, 6, none⟩ = some (.string (sig 6)) := ht.2 6 (by omega) (by omega)
  have t7 : w.cell? ⟨0, 7, none⟩ = some (.string (sig 7)) := ht.2 7 (by omega) (by omega)
  have q0 : ((sig 0).toList == (sig 0).toList) = true := by decide +kernel
  clear ht
  have x0 := tab_at0
  have x1 := tab_at1
  have x2 := tab_at2
  have x3 := tab_at3
  have x4 := tab_at4
  have x5 := tab_at5
  have x6 := tab_at6
  have x7 := tab_at7
  go_enter Tryd.func28, Tryd.ntmps28
  go_wp2
  go_rounds 9
  go_ret2
  exact ⟨rfl, rfl⟩

set_option maxRecDepth 100000 in
set_option maxHeartbeats 400000 in
theorem readTriple_yes1 (w : World) (ht : Tab w) :
    Calls Tryd.prog 28 #[.string (sig 1)] w fun e w' => e = .returned (.tuple #[.int .i64 1, .bool true]) ∧ w = w' := by
  have t0 : w.cell? ⟨0, 0, none⟩ = some (.string (sig 0)) := ht.2 0 (by omega) (by omega)
  have t1 : w.cell? ⟨0, 1, none⟩ = some (.string (sig 1)) := ht.2 1 (by omega) (by omega)
  have t2 : w.cell? ⟨0, 2, none⟩ = some (.string (sig 2)) := ht.2 2 (by omega) (by omega)
  have t3 : w.cell? ⟨0, 3, none⟩ = some (.string (sig 3)) := ht.2 3 (by omega) (by omega)
  have t4 : w.cell? ⟨0, 4, none⟩ = some (.string (sig 4)) := ht.2 4 (by omega) (by omega)
  have t5 : w.cell? ⟨0, 5, none⟩ = some (.string (sig 5)) := ht.2 5 (by omega) (by omega)
  have t6 : w.cell? ⟨0, 6, none⟩ = some (.string (sig 6)) := ht.2 6 (by omega) (by omega)
  have t7 : w.cell? ⟨0, 7, none⟩ = some (.string (sig 7)) := ht.2 7 (by omega) (by omega)
  have q0 : ((sig 0).toList == (sig 1).toList) = false := by decide +kernel
  have q1 : ((sig 1).toList == (sig 1).toList) = true := by decide +kernel
  clear ht
  have x0 := tab_at0
  have x1 := tab_at1
  have x2 := tab_at2
  have x3 := tab_at3
  have x4 := tab_at4
  have x5 := tab_at5
  have x6 := tab_at6
  have x7 := tab_at7
  go_enter Tryd.func28, Tryd.ntmps28
  go_wp2
  go_rounds 9
  go_ret2
  exact ⟨rfl, rfl⟩

set_option maxRecDepth 100000 in
set_option maxHeartbeats 400000 in
theorem readTriple_yes2 (w : World) (ht : Tab w) :
    Calls Tryd.prog 28 #[.string (sig 2)] w fun e w' => e = .returned (.tuple #[.int .i64 2, .bool true]) ∧ w = w' := by
  have t0 : w.cell? ⟨0, 0, none⟩ = some (.string (sig 0)) := ht.2 0 (by omega) (by omega)
  have t1 : w.cell? ⟨0, 1, none⟩ = some (.string (sig 1)) := ht.2 1 (by omega) (by omega)
  have t2 : w.cell? ⟨0, 2, none⟩ = some (.string (sig 2)) := ht.2 2 (by omega) (by omega)
  have t3 : w.cell? ⟨0, 3, none⟩ = some (.string (sig 3)) := ht.2 3 (by omega) (by omega)
  have t4 : w.cell? ⟨0, 4, none⟩ = some (.string (sig 4)) := ht.2 4 (by omega) (by omega)
  have t5 : w.cell? ⟨0, 5, none⟩ = some (.string (sig 5)) := ht.2 5 (by omega) (by omega)
  have t6 : w.cell? ⟨0, 6, none⟩ = some (.string (sig 6)) := ht.2 6 (by omega) (by omega)
  have t7 : w.cell? ⟨0, 7, none⟩ = some (.string (sig 7)) := ht.2 7 (by omega) (by omega)
  have q0 : ((sig 0).toList == (sig 2).toList) = false := by decide +kernel
  have q1 : ((sig 1).toList == (sig 2).toList) = false := by decide +kernel
  have q2 : ((sig 2).toList == (sig 2).toList) = true := by decide +kernel
  clear ht
  have x0 := tab_at0
  have x1 := tab_at1
  have x2 := tab_at2
  have x3 := tab_at3
  have x4 := tab_at4
  have x5 := tab_at5
  have x6 := tab_at6
  have x7 := tab_at7
  go_enter Tryd.func28, Tryd.ntmps28
  go_wp2
  go_rounds 9
  go_ret2
  exact ⟨rfl, rfl⟩

set_option maxRecDepth 100000 in
set_option maxHeartbeats 400000 in
theorem readTriple_yes3 (w : World) (ht : Tab w) :
    Calls Tryd.prog 28 #[.string (sig 3)] w fun e w' => e = .returned (.tuple #[.int .i64 3, .bool true]) ∧ w = w' := by
  have t0 : w.cell? ⟨0, 0, none⟩ = some (.string (sig 0)) := ht.2 0 (by omega) (by omega)
  have t1 : w.cell? ⟨0, 1, none⟩ = some (.string (sig 1)) := ht.2 1 (by omega) (by omega)
  have t2 : w.cell? ⟨0, 2, none⟩ = some (.string (sig 2)) := ht.2 2 (by omega) (by omega)
  have t3 : w.cell? ⟨0, 3, none⟩ = some (.string (sig 3)) := ht.2 3 (by omega) (by omega)
  have t4 : w.cell? ⟨0, 4, none⟩ = some (.string (sig 4)) := ht.2 4 (by omega) (by omega)
  have t5 : w.cell? ⟨0, 5, none⟩ = some (.string (sig 5)) := ht.2 5 (by omega) (by omega)
  have t6 : w.cell? ⟨0, 6, none⟩ = some (.string (sig 6)) := ht.2 6 (by omega) (by omega)
  have t7 : w.cell? ⟨0, 7, none⟩ = some (.string (sig 7)) := ht.2 7 (by omega) (by omega)
  have q0 : ((sig 0).toList == (sig 3).toList) = false := by decide +kernel
  have q1 : ((sig 1).toList == (sig 3).toList) = false := by decide +kernel
  have q2 : ((sig 2).toList == (sig 3).toList) = false := by decide +kernel
  have q3 : ((sig 3).toList == (sig 3).toList) = true := by decide +kernel
  clear ht
  have x0 := tab_at0
  have x1 := tab_at1
  have x2 := tab_at2
  have x3 := tab_at3
  have x4 := tab_at4
  have x5 := tab_at5
  have x6 := tab_at6
  have x7 := tab_at7
  go_enter Tryd.func28, Tryd.ntmps28
  go_wp2
  go_rounds 9
  go_ret2
  exact ⟨rfl, rfl⟩

set_option maxRecDepth 100000 in
set_option maxHeartbeats 400000 in
theorem readTriple_yes4 (w : World) (ht : Tab w) :
    Calls Tryd.prog 28 #[.string (sig 4)] w fun e w' => e = .returned (.tuple #[.int .i64 4, .bool true]) ∧ w = w' := by
  have t0 : w.cell? ⟨0, 0, none⟩ = some (.string (sig 0)) := ht.2 0 (by omega) (by omega)
  have t1 : w.cell? ⟨0, 1, none⟩ = some (.string (sig 1)) := ht.2 1 (by omega) (by omega)
  have t2 : w.cell? ⟨0, 2, none⟩ = some (.string (sig 2)) := ht.2 2 (by omega) (by omega)
  have t3 : w.cell? ⟨0, 3, none⟩ = some (.string (sig 3)) := ht.2 3 (by omega) (by omega)
  have t4 : w.cell? ⟨0, 4, none⟩ = some (.string (sig 4)) := ht.2 4 (by omega) (by omega)
  have t5 : w.cell? ⟨0, 5, none⟩ = some (.string (sig 5)) := ht.2 5 (by omega) (by omega)
  have t6 : w.cell? ⟨0, 6, none⟩ = some (.string (sig 6)) := ht.2 6 (by omega) (by omega)
  have t7 : w.cell? ⟨0, 7, none⟩ = some (.string (sig 7)) := ht.2 7 (by omega) (by omega)
  have q0 : ((sig 0).toList == (sig 4).toList) = false := by decide +kernel
  have q1 : ((sig 1).toList == (sig 4).toList) = false := by decide +kernel
  have q2 : ((sig 2).toList == (sig 4).toList) = false := by decide +kernel
  have q3 : ((sig 3).toList == (sig 4).toList) = false := by decide +kernel
  have q4 : ((sig 4).toList == (sig 4).toList) = true := by decide +kernel
  clear ht
  have x0 := tab_at0
  have x1 := tab_at1
  have x2 := tab_at2
  have x3 := tab_at3
  have x4 := tab_at4
  have x5 := tab_at5
  have x6 := tab_at6
  have x7 := tab_at7
  go_enter Tryd.func28, Tryd.ntmps28
  go_wp2
  go_rounds 9
  go_ret2
  exact ⟨rfl, rfl⟩

set_option maxRecDepth 100000 in
set_option maxHeartbeats 400000 in
theorem readTriple_yes5 (w : World) (ht : Tab w) :
    Calls Tryd.prog 28 #[.string (sig 5)] w fun e w' => e = .returned (.tuple #[.int .i64 5, .bool true]) ∧ w = w' := by
  have t0 : w.cell? ⟨0, 0, none⟩ = some (.string (sig 0)) := ht.2 0 (by omega) (by omega)
  have t1 : w.cell? ⟨0, 1, none⟩ = some (.string (sig 1)) := ht.2 1 (by omega) (by omega)
  have t2 : w.cell? ⟨0, 2, none⟩ = some (.string (sig 2)) := ht.2 2 (by omega) (by omega)
  have t3 : w.cell? ⟨0, 3, none⟩ = some (.string (sig 3)) := ht.2 3 (by omega) (by omega)
  have t4 : w.cell? ⟨0, 4, none⟩ = some (.string (sig 4)) := ht.2 4 (by omega) (by omega)
  have t5 : w.cell? ⟨0, 5, none⟩ = some (.string (sig 5)) := ht.2 5 (by omega) (by omega)
  have t6 : w.cell? ⟨0, 6, none⟩ = some (.string (sig 6)) := ht.2 6 (by omega) (by omega)
  have t7 : w.cell? ⟨0, 7, none⟩ = some (.string (sig 7)) := ht.2 7 (by omega) (by omega)
  have q0 : ((sig 0).toList == (sig 5).toList) = false := by decide +kernel
  have q1 : ((sig 1).toList == (sig 5).toList) = false := by decide +kernel
  have q2 : ((sig 2).toList == (sig 5).toList) = false := by decide +kernel
  have q3 : ((sig 3).toList == (sig 5).toList) = false := by decide +kernel
  have q4 : ((sig 4).toList == (sig 5).toList) = false := by decide +kernel
  have q5 : ((sig 5).toList == (sig 5).toList) = true := by decide +kernel
  clear ht
  have x0 := tab_at0
  have x1 := tab_at1
  have x2 := tab_at2
  have x3 := tab_at3
  have x4 := tab_at4
  have x5 := tab_at5
  have x6 := tab_at6
  have x7 := tab_at7
  go_enter Tryd.func28, Tryd.ntmps28
  go_wp2
  go_rounds 9
  go_ret2
  exact ⟨rfl, rfl⟩

set_option maxRecDepth 100000 in
set_option maxHeartbeats 400000 in
theorem readTriple_yes6 (w : World) (ht : Tab w) :
    Calls Tryd.prog 28 #[.string (sig 6)] w fun e w' => e = .returned (.tuple #[.int .i64 6, .bool true]) ∧ w = w' := by
  have t0 : w.cell? ⟨0, 0, none⟩ = some (.string (sig 0)) := ht.2 0 (by omega) (by omega)
  have t1 : w.cell? ⟨0, 1, none⟩ = some (.string (sig 1)) := ht.2 1 (by omega) (by omega)
  have t2 : w.cell? ⟨0, 2, none⟩ = some (.string (sig 2)) := ht.2 2 (by omega) (by omega)
  have t3 : w.cell? ⟨0, 3, none⟩ = some (.string (sig 3)) := ht.2 3 (by omega) (by omega)
  have t4 : w.cell? ⟨0, 4, none⟩ = some (.string (sig 4)) := ht.2 4 (by omega) (by omega)
  have t5 : w.cell? ⟨0, 5, none⟩ = some (.string (sig 5)) := ht.2 5 (by omega) (by omega)
  have t6 : w.cell? ⟨0, 6, none⟩ = some (.string (sig 6)) := ht.2 6 (by omega) (by omega)
  have t7 : w.cell? ⟨0, 7, none⟩ = some (.string (sig 7)) := ht.2 7 (by omega) (by omega)
  have q0 : ((sig 0).toList == (sig 6).toList) = false := by decide +kernel
  have q1 : ((sig 1).toList == (sig 6).toList) = false := by decide +kernel
  have q2 : ((sig 2).toList == (sig 6).toList) = false := by decide +kernel
  have q3 : ((sig 3).toList == (sig 6).toList) = false := by decide +kernel
  have q4 : ((sig 4).toList == (sig 6).toList) = false := by decide +kernel
  have q5 : ((sig 5).toList == (sig 6).toList) = false := by decide +kernel
  have q6 : ((sig 6).toList == (sig 6).toList) = true := by decide +kernel
  clear ht
  have x0 := tab_at0
  have x1 := tab_at1
  have x2 := tab_at2
  have x3 := tab_at3
  have x4 := tab_at4
  have x5 := tab_at5
  have x6 := tab_at6
  have x7 := tab_at7
  go_enter Tryd.func28, Tryd.ntmps28
  go_wp2
  go_rounds 9
  go_ret2
  exact ⟨rfl, rfl⟩

set_option maxRecDepth 100000 in
set_option maxHeartbeats 400000 in
theorem readTriple_yes7 (w : World) (ht : Tab w) :
    Calls Tryd.prog 28 #[.string (sig 7)] w fun e w' => e = .returned (.tuple #[.int .i64 7, .bool true]) ∧ w = w' := by
  have t0 : w.cell? ⟨0, 0, none⟩ = some (.string (sig 0)) := ht.2 0 (by omega) (by omega)
  have t1 : w.cell? ⟨0, 1, none⟩ = some (.string (sig 1)) := ht.2 1 (by omega) (by omega)
  have t2 : w.cell? ⟨0, 2, none⟩ = some (.string (sig 2)) := ht.2 2 (by omega) (by omega)
  have t3 : w.cell? ⟨0, 3, none⟩ = some (.string (sig 3)) := ht.2 3 (by omega) (by omega)
  have t4 : w.cell? ⟨0, 4, none⟩ = some (.string (sig 4)) := ht.2 4 (by omega) (by omega)
  have t5 : w.cell? ⟨0, 5, none⟩ = some (.string (sig 5)) := ht.2 5 (by omega) (by omega)
  have t6 : w.cell? ⟨0, 6, none⟩ = some (.string (sig 6)) := ht.2 6 (by omega) (by omega)
  have t7 : w.cell? ⟨0, 7, none⟩ = some (.string (sig 7)) := ht.2 7 (by omega) (by omega)
  have q0 : ((sig 0).toList == (sig 7).toList) = false := by decide +kernel
  have q1 : ((sig 1).toList == (sig 7).toList) = false := by decide +kernel
  have q2 : ((sig 2).toList == (sig 7).toList) = false := by decide +kernel
  have q3 : ((sig 3).toList == (sig 7).toList) = false := by decide +kernel
  have q4 : ((sig 4).toList == (sig 7).toList) = false := by decide +kernel
  have q5 : ((sig 5).toList == (sig 7).toList) = false := by decide +kernel
  have q6 : ((sig 6).toList == (sig 7).toList) = false := by decide +kernel
  have q7 : ((sig 7).toList == (sig 7).toList) = true := by decide +kernel
  clear ht
  have x0 := tab_at0
  have x1 := tab_at1
  have x2 := tab_at2
  have x3 := tab_at3
  have x4 := tab_at4
  have x5 := tab_at5
  have x6 := tab_at6
  have x7 := tab_at7
  go_enter Tryd.func28, Tryd.ntmps28
  go_wp2
  go_rounds 9
  go_ret2
  exact ⟨rfl, rfl⟩

theorem readTriple_yes (k : Int) (w : World) (ht : Tab w) (h0 : 0 ≤ k) (h1 : k ≤ 7) :
    Calls Tryd.prog 28 #[.string (sig k)] w fun e w' => e = .returned (.tuple #[.int .i64 k, .bool true]) ∧ w = w' := by
  rcases (show k = 0 ∨ k = 1 ∨ k = 2 ∨ k = 3 ∨ k = 4 ∨ k = 5 ∨ k = 6 ∨ k = 7 by omega) with rfl | rfl | rfl | rfl | rfl | rfl | rfl | rfl
  · exact readTriple_yes0 w ht
  · exact readTriple_yes1 w ht
  · exact readTriple_yes2 w ht
  · exact readTriple_yes3 w ht
  · exact readTriple_yes4 w ht
  · exact readTriple_yes5 w ht
  · exact readTriple_yes6 w ht
  · exact readTriple_yes7 w ht
end Go.Proofs.YtkindoihmcojdaaDoor
