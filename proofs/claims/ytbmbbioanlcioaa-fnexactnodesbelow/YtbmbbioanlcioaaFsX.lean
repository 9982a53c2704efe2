
/-
  The model's l3Node: a node is good.
  Conditions: at most 2^20 values and letters together.
-/
import Derived.Test.YtbmbbioanlcioaaFsV
import Derived.Test.YtbmbbioanlcioaaListD
namespace Go.Proofs.Ytbmbbioanlcioaa
open Go.ChangeShapes Go.WideShapes Go.ChangeAt Go.RowKit Go.Joins
set_option linter.unusedVariables false
set_option linter.unusedSimpArgs false

def nodOk (ns : List Nod) (x : Nod) : Bool :=
  if x.kind = 0 then x.mode == 0 && (x.uid == 0 && (x.gid == 0 && (x.time == 0 && (x.data.isEmpty && x.list.isEmpty))))
  else inB 0 511 x.mode && (inB 0 99 x.uid && (inB 0 99 x.gid && (inB 0 1000000 x.time &&
    (if x.kind = 1 then decide (x.data.length ≤ 60) && x.list.isEmpty
     else if x.kind = 2 then x.data.isEmpty && entsOk ns x.list
     else x.kind == 3 && (goodB x.data && x.list.isEmpty)))))

theorem l1In_eq {n lo hi : Int} {b : Bool} (h : inB lo hi n = b) (w : World) : Calls Try.prog 57 #[.int .i64 n, .int .i64 lo, .int .i64 hi] w fun e w' => e = .returned (.bool b) ∧ w = w' :=
  (l1In_any n lo hi w).mono fun e w' ⟨h1, h2⟩ => ⟨by rw [h1, h], h2⟩
set_option maxHeartbeats 400000 in
theorem l1Mode_eq {n : Int} {b : Bool} (h : inB 0 511 n = b) (w : World) : Calls Try.prog 80 #[.int .i64 n] w fun e w' => e = .returned (.bool b) ∧ w = w' := by
  go_enter Try.func80, Try.ntmps80
  go_wp2_with (go_at_call 57; refine (l1In_eq h _).mono ?_; rintro e w' ⟨rfl, rfl⟩)
  go_ret
  exact ⟨rfl, rfl⟩
theorem heap_alloc_new2 (w : World) (o1 o2 : Obj) : ((w.alloc o1).alloc o2).heap[w.heap.size + 1]? = some o2 := by
  have h := heap_alloc_new (w.alloc o1) o2
  rw [World.size_alloc] at h
  exact h
theorem isE_no {α : Type} {l : List α} (h : l.length ≠ 0) : l.isEmpty = false := by cases l <;> simp_all
theorem isE_yes {α : Type} {l : List α} (h : l.length = 0) : l.isEmpty = true := by cases l <;> simp_all

set_option maxHeartbeats 4000000 in
theorem l3Node_any (f : FsD) (q : Nod) (v lv : Value) (w : World) (hR : FsA w v f) (hE : EntsA w lv q.list) (hs : f.nodes.length ≤ 1048576) (hs2 : q.list.length ≤ 1048576) (hd : q.data.length ≤ 1048576) :
    Calls Try.prog 59 #[v, .agg #[.int .i64 q.kind, .int .i64 q.mode, .int .i64 q.uid, .int .i64 q.gid, .int .i64 q.time, .string (bs q.data), lv]] w fun e w' => e = .returned (.bool (nodOk f.nodes q)) ∧ Below w.heap.size w w' := by
  have HR := Lib.hid hR
  have HE := Lib.hid hE
  obtain ⟨nv, rfl, hN⟩ := hR
  obtain ⟨o, c, rfl, hm, -⟩ := hN
  obtain ⟨o2, c2, rfl, -, -⟩ := hE
  obtain ⟨k, m, u, gi, t, dd, es⟩ := q
  simp only at HE hs2 hd ⊢
  have HDL : Hid ((bs dd).size = dd.length) := Lib.hid (bs_size _)
  obtain ⟨x, hx⟩ : ∃ x, x = bs dd := ⟨_, rfl⟩
  rw [← hx] at HDL ⊢
  have HX := Lib.hid hx
  clear hx
  have HB : Hid (∀ o1 o3, Below w.heap.size w ((w.alloc o1).alloc o3)) := Lib.hid (fun o1 o3 => ((Below.refl _ _).alloc (Nat.le_refl _) _).alloc (by simp) _)
  unfold maxLen at hm
  by_cases hk : k = 0
  · skip
    by_cases h1 : m = 0
    · skip
      by_cases h2 : u = 0
      · skip
        by_cases h3 : gi = 0
        · skip
          by_cases h4 : t = 0
          · skip
            by_cases h5 : dd = []
            · obtain rfl : x = ⟨#[]⟩ := by rw [HX.out, h5]; rfl
              by_cases h6 : es.length = 0
              · have h7 := isE_yes h6
                have HF : Hid (nodOk f.nodes ⟨k, m, u, gi, t, dd, es⟩ = true) := Lib.hid (by simp [nodOk, hk, h1, h2, h3, h4, h5, h7])
                go_enter Try.func59, Try.ntmps59
                go_wp2
                go_ret
                exact ⟨ret_bool (by first | exact HF.out.symm | (have hz := HF.out.symm; rw [k1] at hz; exact hz)), HB.out _ _⟩
              · have h7 := isE_no h6; have h8 : ((es.length : Int) == 0) = false := beq_eq_false_iff_ne.2 (by omega)
                have HF : Hid (nodOk f.nodes ⟨k, m, u, gi, t, dd, es⟩ = false) := Lib.hid (by simp [nodOk, hk, h1, h2, h3, h4, h5, h7])
                go_enter Try.func59, Try.ntmps59
                go_wp2
                go_ret
                exact ⟨ret_bool (by first | exact HF.out.symm | (have hz := HF.out.symm; rw [k1] at hz; exact hz)), HB.out _ _⟩
            · obtain ⟨n1, n2, n3⟩ := text_ne h5
              rw [← HX.out] at n1 n2 n3
              have HF : Hid (nodOk f.nodes ⟨k, m, u, gi, t, dd, es⟩ = false) := Lib.hid (by simp [nodOk, hk, h1, h2, h3, h4, h5])
              go_enter Try.func59, Try.ntmps59
              go_wp2
              go_ret
              exact ⟨ret_bool (by first | exact HF.out.symm | (have hz := HF.out.symm; rw [k1] at hz; exact hz)), HB.out _ _⟩
          · skip
            have HF : Hid (nodOk f.nodes ⟨k, m, u, gi, t, dd, es⟩ = false) := Lib.hid (by simp [nodOk, hk, h1, h2, h3, h4])
            go_enter Try.func59, Try.ntmps59
            go_wp2
            go_ret
            exact ⟨ret_bool (by first | exact HF.out.symm | (have hz := HF.out.symm; rw [k1] at hz; exact hz)), HB.out _ _⟩
        · skip
          have HF : Hid (nodOk f.nodes ⟨k, m, u, gi, t, dd, es⟩ = false) := Lib.hid (by simp [nodOk, hk, h1, h2, h3])
          go_enter Try.func59, Try.ntmps59
          go_wp2
          go_ret
          exact ⟨ret_bool (by first | exact HF.out.symm | (have hz := HF.out.symm; rw [k1] at hz; exact hz)), HB.out _ _⟩
      · skip
        have HF : Hid (nodOk f.nodes ⟨k, m, u, gi, t, dd, es⟩ = false) := Lib.hid (by simp [nodOk, hk, h1, h2])
        go_enter Try.func59, Try.ntmps59
        go_wp2
        go_ret
        exact ⟨ret_bool (by first | exact HF.out.symm | (have hz := HF.out.symm; rw [k1] at hz; exact hz)), HB.out _ _⟩
    · skip
      have HF : Hid (nodOk f.nodes ⟨k, m, u, gi, t, dd, es⟩ = false) := Lib.hid (by simp [nodOk, hk, h1])
      go_enter Try.func59, Try.ntmps59
      go_wp2
      go_ret
      exact ⟨ret_bool (by first | exact HF.out.symm | (have hz := HF.out.symm; rw [k1] at hz; exact hz)), HB.out _ _⟩
  · skip
    by_cases g1 : inB 0 511 m = true
    · have HM := Lib.hid g1
      by_cases g2 : inB 0 99 u = true
      · have HU := Lib.hid g2
        by_cases g3 : inB 0 99 gi = true
        · have HG := Lib.hid g3
          by_cases g4 : inB 0 1000000 t = true
          · have HT := Lib.hid g4
            by_cases k1 : k = 1
            · by_cases k2 : dd.length ≤ 60
              · have k3 : x.size ≤ 60 := by rw [HDL.out]; exact k2
                by_cases h6 : es.length = 0
                · have h7 := isE_yes h6
                  have HF : Hid (nodOk f.nodes ⟨k, m, u, gi, t, dd, es⟩ = true) := Lib.hid (by simp [nodOk, hk, g1, g2, g3, g4, k1, k2, h7])
                  go_enter Try.func59, Try.ntmps59
                  go_wp2_with (first | (go_at_call 80; refine (l1Mode_eq HM.out _).mono ?_; rintro e w' ⟨rfl, rfl⟩) | (go_at_call 57; refine (l1In_eq (by first | exact HU.out | exact HG.out | exact HT.out) _).mono ?_; rintro e w' ⟨rfl, rfl⟩))
                  go_ret
                  exact ⟨ret_bool (by first | exact HF.out.symm | (have hz := HF.out.symm; rw [k1] at hz; exact hz)), HB.out _ _⟩
                · have h7 := isE_no h6; have h8 : ((es.length : Int) == 0) = false := beq_eq_false_iff_ne.2 (by omega)
                  have HF : Hid (nodOk f.nodes ⟨k, m, u, gi, t, dd, es⟩ = false) := Lib.hid (by simp [nodOk, hk, g1, g2, g3, g4, k1, k2, h7])
                  go_enter Try.func59, Try.ntmps59
                  go_wp2_with (first | (go_at_call 80; refine (l1Mode_eq HM.out _).mono ?_; rintro e w' ⟨rfl, rfl⟩) | (go_at_call 57; refine (l1In_eq (by first | exact HU.out | exact HG.out | exact HT.out) _).mono ?_; rintro e w' ⟨rfl, rfl⟩))
                  go_ret
                  exact ⟨ret_bool (by first | exact HF.out.symm | (have hz := HF.out.symm; rw [k1] at hz; exact hz)), HB.out _ _⟩
              · have k3 : ¬ x.size ≤ 60 := by rw [HDL.out]; exact k2
                have HF : Hid (nodOk f.nodes ⟨k, m, u, gi, t, dd, es⟩ = false) := Lib.hid (by simp [nodOk, hk, g1, g2, g3, g4, k1, k2])
                go_enter Try.func59, Try.ntmps59
                go_wp2_with (first | (go_at_call 80; refine (l1Mode_eq HM.out _).mono ?_; rintro e w' ⟨rfl, rfl⟩) | (go_at_call 57; refine (l1In_eq (by first | exact HU.out | exact HG.out | exact HT.out) _).mono ?_; rintro e w' ⟨rfl, rfl⟩))
                go_ret
                exact ⟨ret_bool (by first | exact HF.out.symm | (have hz := HF.out.symm; rw [k1] at hz; exact hz)), HB.out _ _⟩
            · by_cases k2 : k = 2
              · by_cases h5 : dd = []
                · obtain rfl : x = ⟨#[]⟩ := by rw [HX.out, h5]; rfl
                  have HF : Hid (nodOk f.nodes ⟨k, m, u, gi, t, dd, es⟩ = entsOk f.nodes es) := Lib.hid (by simp [nodOk, hk, g1, g2, g3, g4, k1, k2, h5])
                  go_enter Try.func59, Try.ntmps59
                  go_wp2_with (first | (go_at_call 80; refine (l1Mode_eq HM.out _).mono ?_; rintro e w' ⟨rfl, rfl⟩) | (go_at_call 57; refine (l1In_eq (by first | exact HU.out | exact HG.out | exact HT.out) _).mono ?_; rintro e w' ⟨rfl, rfl⟩))
                  refine (l3Entries_any f es _ _ _ (HR.out.below (HB.out _ _)) (HE.out.below (HB.out _ _)) hs hs2).mono ?_
                  rintro e w1 ⟨rfl, hb1⟩
                  have HB1 := Lib.hid ((HB.out _ _).trans (hb1.mono (HB.out _ _).size))
                  clear hb1
                  go_wp2
                  go_ret
                  exact ⟨ret_bool HF.out.symm, HB1.out⟩
                · obtain ⟨n1, n2, n3⟩ := text_ne h5
                  rw [← HX.out] at n1 n2 n3
                  have HF : Hid (nodOk f.nodes ⟨k, m, u, gi, t, dd, es⟩ = false) := Lib.hid (by simp [nodOk, hk, g1, g2, g3, g4, k1, k2, h5])
                  go_enter Try.func59, Try.ntmps59
                  go_wp2_with (first | (go_at_call 80; refine (l1Mode_eq HM.out _).mono ?_; rintro e w' ⟨rfl, rfl⟩) | (go_at_call 57; refine (l1In_eq (by first | exact HU.out | exact HG.out | exact HT.out) _).mono ?_; rintro e w' ⟨rfl, rfl⟩))
                  go_ret
                  exact ⟨ret_bool (by first | exact HF.out.symm | (have hz := HF.out.symm; rw [k1] at hz; exact hz)), HB.out _ _⟩
              · by_cases k3 : k = 3
                · have HKK : Hid (k = 3) := Lib.hid k3
                  by_cases k4 : goodB dd = true
                  · have HP : Hid (goodB x.data.toList = true) := Lib.hid (by rw [HX.out, bs_list]; exact k4)
                    by_cases h6 : es.length = 0
                    · have h7 := isE_yes h6
                      have HF : Hid (nodOk f.nodes ⟨k, m, u, gi, t, dd, es⟩ = true) := Lib.hid (by simp [nodOk, hk, g1, g2, g3, g4, k1, k2, k3, k4, h7])
                      go_enter Try.func59, Try.ntmps59
                      go_wp2_with (first | (go_at_call 80; refine (l1Mode_eq HM.out _).mono ?_; rintro e w' ⟨rfl, rfl⟩) | (go_at_call 57; refine (l1In_eq (by first | exact HU.out | exact HG.out | exact HT.out) _).mono ?_; rintro e w' ⟨rfl, rfl⟩))
                      refine (l2Path_any x _ (by rw [HDL.out]; omega)).mono ?_
                      rintro e w1 ⟨rfl, hb1⟩
                      rw [HP.out]
                      have HB1 := Lib.hid ((HB.out _ _).trans (hb1.mono (HB.out _ _).size))
                      obtain ⟨L1, -⟩ := old_cells hb1
                      have j6 := L1 (w.heap.size + 1) 6 (by simp)
                      rw [cell_blk (heap_alloc_new2 w _ _) 6] at j6
                      have j7 := j6.trans rfl
                      clear hb1 L1 j6
                      go_wp2
                      go_ret
                      exact ⟨ret_bool HF.out.symm, HB1.out⟩
                    · have h7 := isE_no h6; have h8 : ((es.length : Int) == 0) = false := beq_eq_false_iff_ne.2 (by omega)
                      have HF : Hid (nodOk f.nodes ⟨k, m, u, gi, t, dd, es⟩ = false) := Lib.hid (by simp [nodOk, hk, g1, g2, g3, g4, k1, k2, k3, k4, h7])
                      go_enter Try.func59, Try.ntmps59
                      go_wp2_with (first | (go_at_call 80; refine (l1Mode_eq HM.out _).mono ?_; rintro e w' ⟨rfl, rfl⟩) | (go_at_call 57; refine (l1In_eq (by first | exact HU.out | exact HG.out | exact HT.out) _).mono ?_; rintro e w' ⟨rfl, rfl⟩))
                      refine (l2Path_any x _ (by rw [HDL.out]; omega)).mono ?_
                      rintro e w1 ⟨rfl, hb1⟩
                      rw [HP.out]
                      have HB1 := Lib.hid ((HB.out _ _).trans (hb1.mono (HB.out _ _).size))
                      obtain ⟨L1, -⟩ := old_cells hb1
                      have j6 := L1 (w.heap.size + 1) 6 (by simp)
                      rw [cell_blk (heap_alloc_new2 w _ _) 6] at j6
                      have j7 := j6.trans rfl
                      clear hb1 L1 j6
                      go_wp2
                      go_ret
                      exact ⟨ret_bool HF.out.symm, HB1.out⟩
                  · have HP : Hid (goodB x.data.toList = false) := Lib.hid (by rw [HX.out, bs_list]; simpa using k4)
                    have HF : Hid (nodOk f.nodes ⟨k, m, u, gi, t, dd, es⟩ = false) := Lib.hid (by simp [nodOk, hk, g1, g2, g3, g4, k1, k2, k3, k4])
                    go_enter Try.func59, Try.ntmps59
                    go_wp2_with (first | (go_at_call 80; refine (l1Mode_eq HM.out _).mono ?_; rintro e w' ⟨rfl, rfl⟩) | (go_at_call 57; refine (l1In_eq (by first | exact HU.out | exact HG.out | exact HT.out) _).mono ?_; rintro e w' ⟨rfl, rfl⟩))
                    refine (l2Path_any x _ (by rw [HDL.out]; omega)).mono ?_
                    rintro e w1 ⟨rfl, hb1⟩
                    rw [HP.out]
                    have HB1 := Lib.hid ((HB.out _ _).trans (hb1.mono (HB.out _ _).size))
                    obtain ⟨L1, -⟩ := old_cells hb1
                    have j6 := L1 (w.heap.size + 1) 6 (by simp)
                    rw [cell_blk (heap_alloc_new2 w _ _) 6] at j6
                    have j7 := j6.trans rfl
                    clear hb1 L1 j6
                    go_wp2
                    go_ret
                    exact ⟨ret_bool HF.out.symm, HB1.out⟩
                · skip
                  have HF : Hid (nodOk f.nodes ⟨k, m, u, gi, t, dd, es⟩ = false) := Lib.hid (by simp [nodOk, hk, g1, g2, g3, g4, k1, k2, k3])
                  go_enter Try.func59, Try.ntmps59
                  go_wp2_with (first | (go_at_call 80; refine (l1Mode_eq HM.out _).mono ?_; rintro e w' ⟨rfl, rfl⟩) | (go_at_call 57; refine (l1In_eq (by first | exact HU.out | exact HG.out | exact HT.out) _).mono ?_; rintro e w' ⟨rfl, rfl⟩))
                  go_ret
                  exact ⟨ret_bool (by first | exact HF.out.symm | (have hz := HF.out.symm; rw [k1] at hz; exact hz)), HB.out _ _⟩
          · have g4' : inB 0 1000000 t = false := by simpa using g4
            have HT := Lib.hid g4'
            have HF : Hid (nodOk f.nodes ⟨k, m, u, gi, t, dd, es⟩ = false) := Lib.hid (by simp [nodOk, hk, g1, g2, g3, g4'])
            go_enter Try.func59, Try.ntmps59
            go_wp2_with (first | (go_at_call 80; refine (l1Mode_eq HM.out _).mono ?_; rintro e w' ⟨rfl, rfl⟩) | (go_at_call 57; refine (l1In_eq (by first | exact HU.out | exact HG.out | exact HT.out) _).mono ?_; rintro e w' ⟨rfl, rfl⟩))
            go_ret
            exact ⟨ret_bool (by first | exact HF.out.symm | (have hz := HF.out.symm; rw [k1] at hz; exact hz)), HB.out _ _⟩
        · have g3' : inB 0 99 gi = false := by simpa using g3
          have HG := Lib.hid g3'
          have HF : Hid (nodOk f.nodes ⟨k, m, u, gi, t, dd, es⟩ = false) := Lib.hid (by simp [nodOk, hk, g1, g2, g3'])
          have HT := HF
          go_enter Try.func59, Try.ntmps59
          go_wp2_with (first | (go_at_call 80; refine (l1Mode_eq HM.out _).mono ?_; rintro e w' ⟨rfl, rfl⟩) | (go_at_call 57; refine (l1In_eq (by first | exact HU.out | exact HG.out | exact HT.out) _).mono ?_; rintro e w' ⟨rfl, rfl⟩))
          go_ret
          exact ⟨ret_bool (by first | exact HF.out.symm | (have hz := HF.out.symm; rw [k1] at hz; exact hz)), HB.out _ _⟩
      · have g2' : inB 0 99 u = false := by simpa using g2
        have HU := Lib.hid g2'
        have HF : Hid (nodOk f.nodes ⟨k, m, u, gi, t, dd, es⟩ = false) := Lib.hid (by simp [nodOk, hk, g1, g2'])
        have HG := HF
        have HT := HF
        go_enter Try.func59, Try.ntmps59
        go_wp2_with (first | (go_at_call 80; refine (l1Mode_eq HM.out _).mono ?_; rintro e w' ⟨rfl, rfl⟩) | (go_at_call 57; refine (l1In_eq (by first | exact HU.out | exact HG.out | exact HT.out) _).mono ?_; rintro e w' ⟨rfl, rfl⟩))
        go_ret
        exact ⟨ret_bool (by first | exact HF.out.symm | (have hz := HF.out.symm; rw [k1] at hz; exact hz)), HB.out _ _⟩
    · have g1' : inB 0 511 m = false := by simpa using g1
      have HM := Lib.hid g1'
      have HF : Hid (nodOk f.nodes ⟨k, m, u, gi, t, dd, es⟩ = false) := Lib.hid (by simp [nodOk, hk, g1'])
      have HU := HF
      have HG := HF
      have HT := HF
      go_enter Try.func59, Try.ntmps59
      go_wp2_with (first | (go_at_call 80; refine (l1Mode_eq HM.out _).mono ?_; rintro e w' ⟨rfl, rfl⟩) | (go_at_call 57; refine (l1In_eq (by first | exact HU.out | exact HG.out | exact HT.out) _).mono ?_; rintro e w' ⟨rfl, rfl⟩))
      go_ret
      exact ⟨ret_bool (by first | exact HF.out.symm | (have hz := HF.out.symm; rw [k1] at hz; exact hz)), HB.out _ _⟩
end Go.Proofs.Ytbmbbioanlcioaa
