
/-
  The model's GoodFs, LinksOf, ParentOf, BytesIn, FreeNode.
  Conditions: at most 2^20 values and letters together.
-/
import Derived.Test.YtbmbbioanlcioaaFsZ
namespace Go.Proofs.Ytbmbbioanlcioaa
open Go.ChangeShapes Go.WideShapes Go.ChangeAt Go.RowKit Go.Joins
set_option linter.unusedVariables false

theorem tupIB {a a' : Int} {b b' : Bool} (h1 : a = a') (h2 : b = b') : Ending.returned (.tuple #[.int .i64 a, .bool b]) = .returned (.tuple #[.int .i64 a', .bool b']) := by rw [h1, h2]

def isN (ns : List Nod) (node : Int) : Bool := inB 0 ((ns.length : Int) - 1) node && !(kindAt ns node == 0)

set_option maxHeartbeats 2000000 in
theorem l3Is_any (f : FsD) (node : Int) (v : Value) (w : World) (hR : FsA w v f) (hs : f.nodes.length ≤ 1048576) : Calls Try.prog 44 #[v, .int .i64 node] w fun e w' => e = .returned (.bool (isN f.nodes node)) ∧ Below w.heap.size w w' := by
  obtain ⟨nv, rfl, hN⟩ := hR
  obtain ⟨o, c, rfl, hm, hH⟩ := hN
  unfold maxLen at hm
  have hbw : Below w.heap.size w (w.alloc (.cells #[.slice o f.nodes.length c, .int .i64 f.room] 31)) := (Below.refl _ _).alloc (Nat.le_refl _) _
  by_cases hc : inB 0 ((f.nodes.length : Int) - 1) node = true
  · have HC := Lib.hid hc
    obtain ⟨r1, r2⟩ := inB_t hc
    obtain ⟨m, rfl⟩ : ∃ m : Nat, node = m := ⟨node.toNat, by omega⟩
    have hml : m < f.nodes.length := by omega
    obtain ⟨g, off, nl, rfl, hg, hcc, -, -⟩ := hH m hml
    have d0 := (hbw.cell (p := ⟨g, off + m * 7, none⟩) hg).trans hcc.c0
    obtain ⟨kd, hkd⟩ : ∃ kd, kd = f.nodes[m].kind := ⟨_, rfl⟩
    rw [← hkd] at d0
    have HKD : Hid (kindAt f.nodes (m : Int) = kd) := Lib.hid (by rw [hkd]; simp [kindAt, List.getD, hml])
    have HB := Lib.hid hbw
    clear hcc hkd hc hH hbw
    by_cases hz : kd = 0
    · have HF : Hid (isN f.nodes (m : Int) = false) := Lib.hid (by unfold isN; rw [HC.out, HKD.out, hz]; rfl)
      subst hz
      go_enter Try.func44, Try.ntmps44
      go_wp2_with (go_at_call 57; refine (l1In_eq HC.out _).mono ?_; rintro e w' ⟨rfl, rfl⟩)
      go_ret
      exact ⟨ret_bool HF.out.symm, HB.out⟩
    · have HF : Hid (isN f.nodes (m : Int) = true) := Lib.hid (by unfold isN; rw [HC.out, HKD.out]; simp [hz])
      have zb : (kd != 0) = true := by simpa using hz
      go_enter Try.func44, Try.ntmps44
      go_wp2_with (go_at_call 57; refine (l1In_eq HC.out _).mono ?_; rintro e w' ⟨rfl, rfl⟩)
      go_ret
      exact ⟨ret_bool HF.out.symm, HB.out⟩
  · have HC : Hid (inB 0 ((f.nodes.length : Int) - 1) node = false) := Lib.hid (by simpa using hc)
    have HF : Hid (isN f.nodes node = false) := Lib.hid (by unfold isN; rw [HC.out]; rfl)
    have HB := Lib.hid hbw
    clear hc hH hbw
    go_enter Try.func44, Try.ntmps44
    go_wp2_with (go_at_call 57; refine (l1In_eq HC.out _).mono ?_; rintro e w' ⟨rfl, rfl⟩)
    go_ret
    exact ⟨ret_bool HF.out.symm, HB.out⟩

noncomputable def bytesF (f : FsD) : Int := if goodF f = true then (sumD f.nodes : Int) else 0

noncomputable def freeF (f : FsD) : Int := if goodF f = true ∧ 0 ≤ freeAt f.nodes then freeAt f.nodes else 0
noncomputable def freeK (f : FsD) : Bool := goodF f && decide (0 ≤ freeAt f.nodes)

noncomputable def linksK (f : FsD) (node : Int) : Bool := goodF f && isN f.nodes node
noncomputable def linksF (f : FsD) (node : Int) : Int := if linksK f node = true then (links node f.nodes : Int) else 0

def isDirN (ns : List Nod) (node : Int) : Bool := isN ns node && (kindAt ns node == 2)
noncomputable def parK (f : FsD) (node : Int) : Bool := goodF f && isDirN f.nodes node
noncomputable def parF (f : FsD) (node : Int) : Int := if parK f node = true then (parentOf node f.nodes : Int) else 0

end Go.Proofs.Ytbmbbioanlcioaa
