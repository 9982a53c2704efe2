/-
  Joined: LookB.
  Conditions: as each states.
-/
import Derived.BigRegion
import Derived.Deep.RegionHeld3
import Derived.Test.YtgmkfhhlnhgkhaaGreatDoorLib1
import Derived.Test.YtgmkfhhlnhgkhaaGreatDoorLib5

/-
  The contract of the model's step of a look (l4W.step): a code, and where the look is then.
  Conditions: a good file system of at most 2^20 values and letters together; a node that is there; at most eight links met, at most 1000 parts to come.
-/
namespace Go.Proofs.YtgmkfhhlnhgkhaaGreatDoor
open Go.ChangeShapes Go.WideShapes Go.ChangeAt Go.RowKit Go.Joins
set_option linter.unusedVariables false
set_option linter.unusedSimpArgs false

/-- The cells of a look: the file system, the cred, the node so far, the parts to come, the links met. -/
def lkCells (o : Option Addr) (n c : Nat) (room u g : Int) (node : Nat) (pv : Value) (hops : Nat) : Array Value := #[.slice o n c, .int .i64 room, .int .i64 u, .int .i64 g, .int .i64 (node : Int), pv, .int .i64 (hops : Int)]

/-- What is asked of the file system that is looked at. -/
structure LookFs (f : FsD) : Prop where
  size : szF f ≤ 1048576
  lead : Lead f.nodes
  fit : LinksFit f.nodes
  pos : 0 < f.nodes.length
  mode : ∀ i, i < f.nodes.length → (nodeAt f.nodes i).kind ≠ 0 → inB 0 511 (nodeAt f.nodes i).mode = true

set_option maxHeartbeats 4000000 in
theorem step_no (f : FsD) (o : Option Addr) (c : Nat) (u g : Int) (fol : Bool) (b node hops : Nat) (pv : Value) (w : World) (hN : NodsA w (.slice o f.nodes.length c) f.nodes) (hb : w.heap[b]? = some (.cells (lkCells o f.nodes.length c f.room u g node pv hops) 160 (0, 0))) (hn : node < f.nodes.length) (hs : f.nodes.length ≤ 1048576)
    (hk : (nodeAt f.nodes node).kind ≠ 2) : Calls Tryz.prog 132 #[.pointer (some ⟨b, 0, none⟩), .bool fol] w fun e w' => e = .returned (.int .i64 3) ∧ Below w.heap.size w w' := by
  have c0 : w.cell? ⟨b, 0, none⟩ = some (.slice o f.nodes.length c) := cell_blk hb 0
  have c4 : w.cell? ⟨b, 4, none⟩ = some (.int .i64 (node : Int)) := cell_blk hb 4
  obtain ⟨o', c', e1, hmm, hH⟩ := hN
  simp only [Value.slice.injEq, true_and] at e1
  obtain ⟨rfl, rfl⟩ := e1
  unfold maxLen at hmm
  obtain ⟨gg, off, lv, rfl, hg, hcc, he, -⟩ := hH node hn
  have e : f.nodes[node] = nodeAt f.nodes node := (getD_at hn).symm
  rw [e] at hcc he
  obtain ⟨q, hq⟩ : ∃ q, q = nodeAt f.nodes node := ⟨_, rfl⟩
  rw [← hq] at hcc hk he
  obtain ⟨o2, c2, rfl, -, -⟩ := he
  obtain ⟨d0, d1, d2, d3, d4, d5, d6⟩ := hcc
  have hkb : (q.kind == 2) = false := beq_eq_false_iff_ne.2 hk
  have hkc : (q.kind != 2) = true := by rw [bne_iff_ne]; exact hk
  have hbs := lt_of_heap hb
  have hne1 : w.heap.size ≠ b := by omega
  have hne2 : w.heap.size ≠ gg := by omega
  clear hq e hH hb hk
  go_enter Tryz.func132, Tryz.ntmps132
  go_wp2
  go_region
  go_wp2
  go_ret
  exact ⟨rfl, ((Below.refl _ _).alloc (Nat.le_refl _) _).drew⟩
end Go.Proofs.YtgmkfhhlnhgkhaaGreatDoor
