/-
  Joined: GivM.
  Conditions: as each states.
-/
import Derived.Deep.RegionHeld3
import Derived.Test.YtpkmkpeabfmbiaaGreatDoorLib13

/-
  What SetOwner answers, as plain data; the model's side.
  Conditions: at most 2^20 values and letters together; texts of at most 2^20 bytes.
-/
namespace Go.Proofs.YtpkmkpeabfmbiaaGreatDoor
open Go.ChangeShapes Go.WideShapes Go.ChangeAt Go.RowKit Go.Joins
set_option linter.unusedVariables false
set_option linter.unusedSimpArgs false

/-- May a cred give a node of this owner to that one? -/
def givB (u g xu xg nu ng : Int) : Bool := u == 0 || (u == xu && ((nu == -1 || nu == xu) && ((ng == -1 || ng == xg) || ng == g)))
def newU (nu xu : Int) : Int := if 0 ≤ nu then nu else xu
def givN (nu ng : Int) (n : Nod) : Nod := { n with uid := newU nu n.uid, gid := newU ng n.gid }
def givW (ns : List Nod) (u g : Int) (l : List UInt8) (nu ng : Int) (fol : Bool) : Int × Nat :=
  if (lkFind ns u g l fol).1 ≠ 0 then ((lkFind ns u g l fol).1, 0) else if givB u g (nodeAt ns (lkFind ns u g l fol).2).uid (nodeAt ns (lkFind ns u g l fol).2).gid nu ng = false then (4, 0) else (0, (lkFind ns u g l fol).2)
noncomputable def askOw (f : FsD) (u g nu ng : Int) : Bool := askB4 f u g && (inB (-1) 99 nu && inB (-1) 99 ng)

set_option maxHeartbeats 2000000 in
theorem l6Give_any (u g k m xu xg tm : Int) (d : ByteArray) (lv : Value) (nu ng : Int) (w : World) : Calls Tryz.prog 61 #[.agg #[.int .i64 u, .int .i64 g], .agg #[.int .i64 k, .int .i64 m, .int .i64 xu, .int .i64 xg, .int .i64 tm, .string d, lv], .int .i64 nu, .int .i64 ng] w fun e w' => e = .returned (.bool (givB u g xu xg nu ng)) ∧ Below w.heap.size w w' := by
  have HB : Hid (∀ A B, Below w.heap.size w ((w.alloc A).alloc B)) := Lib.hid (fun A B => ((Below.refl _ _).alloc (Nat.le_refl _) _).alloc (by simp) _)
  obtain ⟨R, hR⟩ : ∃ R, givB u g xu xg nu ng = R := ⟨_, rfl⟩
  have HRR := Lib.hid hR
  rw [hR]
  clear hR
  cases b1 : (u == 0)
  case true =>
    go_enter Tryz.func61, Tryz.ntmps61
    go_wp2
    go_ret
    exact ⟨ret_bool (by rw [← HRR.out]; unfold givB; rw [b1]; rfl), HB.out _ _⟩
  cases b2 : (u == xu)
  case false =>
    go_enter Tryz.func61, Tryz.ntmps61
    go_wp2
    go_ret
    exact ⟨ret_bool (by rw [← HRR.out]; unfold givB; rw [b1, b2]; rfl), HB.out _ _⟩
  cases b3 : (nu == -1) <;> cases b4 : (nu == xu) <;> cases b5 : (ng == -1) <;> cases b6 : (ng == xg) <;> cases b7 : (ng == g)
  all_goals
    go_enter Tryz.func61, Tryz.ntmps61
    go_wp2
    go_ret
    exact ⟨ret_bool (by rw [← HRR.out]; unfold givB; rw [b1, b2, b3, b4, b5, b6, b7]; rfl), HB.out _ _⟩
theorem newU_yes {nu xu : Int} (h : 0 ≤ nu) : newU nu xu = nu := by unfold newU; rw [if_pos h]
theorem newU_no {nu xu : Int} (h : ¬ 0 ≤ nu) : newU nu xu = xu := by unfold newU; rw [if_neg h]
theorem al2z_0 (w : World) (a b : Obj) : ((w.alloc a).alloc b).heap[w.heap.size]? = some a := al2_0 w a b
set_option maxHeartbeats 2000000 in
theorem l6Owned_any (k m xu xg tm : Int) (d : ByteArray) (o : Option Addr) (n0 c0 : Nat) (nu ng : Int) (w : World) : Calls Tryz.prog 62 #[.agg #[.int .i64 k, .int .i64 m, .int .i64 xu, .int .i64 xg, .int .i64 tm, .string d, .slice o n0 c0], .int .i64 nu, .int .i64 ng] w fun e w' => e = .returned (.agg #[.int .i64 k, .int .i64 m, .int .i64 (newU nu xu), .int .i64 (newU ng xg), .int .i64 tm, .string d, .slice o n0 c0]) ∧ Below w.heap.size w w' := by
  obtain ⟨R1, hR1⟩ : ∃ R, newU nu xu = R := ⟨_, rfl⟩
  obtain ⟨R2, hR2⟩ : ∃ R, newU ng xg = R := ⟨_, rfl⟩
  rw [hR1, hR2]
  by_cases h1 : 0 ≤ nu <;> by_cases h2 : 0 ≤ ng
  all_goals
    first
      | rw [newU_yes h1] at hR1
      | rw [newU_no h1] at hR1
    first
      | rw [newU_yes h2] at hR2
      | rw [newU_no h2] at hR2
    subst hR1 hR2
    go_enter Tryz.func62, Tryz.ntmps62
    go_wp2
    refine bodyPost_ret (by simp [results, Tryz.results62, go_sem]) rfl ⟨rfl, ?_⟩
    repeat (first | exact ((Below.refl _ _).alloc (Nat.le_refl _) _).alloc (by simp) _ | refine Below.setCell ?_ (by first | (simp; done) | (simp only; omega)) _)
theorem Own.again {w : World} {R g cap i : Nat} {ps : List (Nod × Value)} (hi : i < ps.length) {qc : Nod} (h : Own w R (.slice (some ⟨g, 0, none⟩) ps.length cap) (ps.set i (qc, (ps[i]).2))) {j : Nat} (hj : j < 7) (u : Value) (q : Nod) (hq : (nodV (qc, (ps[i]).2)).set j u = nodV (q, (ps[i]).2)) (hl : q.list = qc.list) :
    Own (w.setCell ⟨g, i * 7 + j, none⟩ u) R (.slice (some ⟨g, 0, none⟩) ps.length cap) (ps.set i (q, (ps[i]).2)) := by
  have hlen8 : (ps.set i (qc, (ps[i]).2)).length = ps.length := by simp
  have hnd8 : i < (ps.set i (qc, (ps[i]).2)).length := by simpa using hi
  have hel8 : (ps.set i (qc, (ps[i]).2))[i]'hnd8 = (qc, (ps[i]).2) := by simp
  have h8 : Own w R (.slice (some ⟨g, 0, none⟩) (ps.set i (qc, (ps[i]).2)).length cap) (ps.set i (qc, (ps[i]).2)) := by rw [hlen8]; exact h
  have h9 := h8.turn hnd8 hj u q (by rw [hel8]; exact hq) (by rw [hel8]; exact hl)
  rw [hel8, hlen8, List.set_set] at h9
  exact h9
theorem Own.turn7 {w : World} {R g cap i : Nat} {ps : List (Nod × Value)} (h : Own w R (.slice (some ⟨g, 0, none⟩) ps.length cap) ps) (hi : i < ps.length) (q : Nod) (hl : q.list = ps[i].1.list) :
    Own (((((((w.setCell ⟨g, i * 7, none⟩ (.int .i64 q.kind)).setCell ⟨g, i * 7 + 1, none⟩ (.int .i64 q.mode)).setCell ⟨g, i * 7 + 2, none⟩ (.int .i64 q.uid)).setCell ⟨g, i * 7 + 3, none⟩ (.int .i64 q.gid)).setCell ⟨g, i * 7 + 4, none⟩ (.int .i64 q.time)).setCell ⟨g, i * 7 + 5, none⟩ (.string (bs q.data))).setCell ⟨g, i * 7 + 6, none⟩ (ps[i]).2) R (.slice (some ⟨g, 0, none⟩) ps.length cap) (ps.set i (q, (ps[i]).2)) := by
  have h0 := h.turn (i := i) (j := 0) hi (by decide) (.int .i64 q.kind) { ps[i].1 with kind := q.kind } rfl rfl
  have h1 := h0.again hi (j := 1) (by decide) (.int .i64 q.mode) { ps[i].1 with kind := q.kind, mode := q.mode } rfl rfl
  have h2 := h1.again hi (j := 2) (by decide) (.int .i64 q.uid) { ps[i].1 with kind := q.kind, mode := q.mode, uid := q.uid } rfl rfl
  have h3 := h2.again hi (j := 3) (by decide) (.int .i64 q.gid) { ps[i].1 with kind := q.kind, mode := q.mode, uid := q.uid, gid := q.gid } rfl rfl
  have h4 := h3.again hi (j := 4) (by decide) (.int .i64 q.time) { ps[i].1 with kind := q.kind, mode := q.mode, uid := q.uid, gid := q.gid, time := q.time } rfl rfl
  have h5 := h4.again hi (j := 5) (by decide) (.string (bs q.data)) { ps[i].1 with kind := q.kind, mode := q.mode, uid := q.uid, gid := q.gid, time := q.time, data := q.data } rfl rfl
  have h6 := h5.again hi (j := 6) (by decide) (ps[i]).2 q (by cases q; simp only at hl ⊢; subst hl; rfl) hl
  exact h6
theorem bel_row {v w : World} {B g i : Nat} (h : Below B v w) (hB : B ≤ g) (a0 a1 a2 a3 a4 a5 a6 : Value) : Below B v (((((((w.setCell ⟨g, i * 7, none⟩ a0).setCell ⟨g, i * 7 + 1, none⟩ a1).setCell ⟨g, i * 7 + 2, none⟩ a2).setCell ⟨g, i * 7 + 3, none⟩ a3).setCell ⟨g, i * 7 + 4, none⟩ a4).setCell ⟨g, i * 7 + 5, none⟩ a5).setCell ⟨g, i * 7 + 6, none⟩ a6) :=
  ((((((h.setCell (p := ⟨g, i * 7, none⟩) hB _).setCell (p := ⟨g, i * 7 + 1, none⟩) hB _).setCell (p := ⟨g, i * 7 + 2, none⟩) hB _).setCell (p := ⟨g, i * 7 + 3, none⟩) hB _).setCell (p := ⟨g, i * 7 + 4, none⟩) hB _).setCell (p := ⟨g, i * 7 + 5, none⟩) hB _).setCell (p := ⟨g, i * 7 + 6, none⟩) hB _
theorem row_ne {w : World} {g i b : Nat} (hb : b ≠ g) (a0 a1 a2 a3 a4 a5 a6 : Value) : (((((((w.setCell ⟨g, i * 7, none⟩ a0).setCell ⟨g, i * 7 + 1, none⟩ a1).setCell ⟨g, i * 7 + 2, none⟩ a2).setCell ⟨g, i * 7 + 3, none⟩ a3).setCell ⟨g, i * 7 + 4, none⟩ a4).setCell ⟨g, i * 7 + 5, none⟩ a5).setCell ⟨g, i * 7 + 6, none⟩ a6).heap[b]? = w.heap[b]? :=
  (Below.heap_setCell _ ⟨g, i * 7 + 6, none⟩ a6 b hb).trans ((Below.heap_setCell _ ⟨g, i * 7 + 5, none⟩ a5 b hb).trans ((Below.heap_setCell _ ⟨g, i * 7 + 4, none⟩ a4 b hb).trans ((Below.heap_setCell _ ⟨g, i * 7 + 3, none⟩ a3 b hb).trans ((Below.heap_setCell _ ⟨g, i * 7 + 2, none⟩ a2 b hb).trans ((Below.heap_setCell _ ⟨g, i * 7 + 1, none⟩ a1 b hb).trans (Below.heap_setCell w ⟨g, i * 7, none⟩ a0 b hb))))))
end Go.Proofs.YtpkmkpeabfmbiaaGreatDoor
