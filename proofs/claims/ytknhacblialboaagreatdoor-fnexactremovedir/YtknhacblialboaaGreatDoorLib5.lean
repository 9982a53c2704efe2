/-
  Joined: FsX IntC FsY.
  Conditions: as each states.
-/
import Derived.Laws.AppendOwnNone
import Derived.Test.YtknhacblialboaaGreatDoorLib4
namespace Go.Proofs.YtknhacblialboaaGreatDoor
open Go.ChangeShapes Go.WideShapes Go.ChangeAt Go.RowKit Go.Joins
set_option linter.unusedVariables false
set_option linter.unusedSimpArgs false
set_option maxHeartbeats 16000000
def nodOk (ns : List Nod) (x : Nod) : Bool :=
 if x.kind = 0 then x.mode == 0 && (x.uid == 0 && (x.gid == 0 && (x.time == 0 && (x.data.isEmpty && x.list.isEmpty))))
 else inB 0 511 x.mode && (inB 0 99 x.uid && (inB 0 99 x.gid && (inB 0 1000000 x.time &&
   (if x.kind = 1 then decide (x.data.length ≤ 60) && x.list.isEmpty
    else if x.kind = 2 then x.data.isEmpty && entsOk ns x.list
    else x.kind == 3 && (goodB x.data && x.list.isEmpty)))))
theorem l1In_eq {n lo hi : Int} {b : Bool} (h : inB lo hi n = b) (w : World) : Calls Tryz.prog 61 #[.int .i64 n, .int .i64 lo, .int .i64 hi] w fun e w' => e = .returned (.bool b) ∧ w = w' :=
 (l1In_any n lo hi w).mono fun e w' ⟨h1, h2⟩ => ⟨by rw [h1, h], h2⟩
theorem l1Mode_eq {n : Int} {b : Bool} (h : inB 0 511 n = b) (w : World) : Calls Tryz.prog 35 #[.int .i64 n] w fun e w' => e = .returned (.bool b) ∧ w = w' := by
 go_enter Tryz.func35, Tryz.ntmps35
 go_wp2_with (go_at_call 61; refine (l1In_eq h _).mono ?_; rintro e w' ⟨rfl, rfl⟩)
 go_ret
 exact ⟨rfl, rfl⟩
theorem heap_alloc_new2 (w : World) (o1 o2 : Obj) : ((w.alloc o1).alloc o2).heap[w.heap.size + 1]? = some o2 := by
 have h := heap_alloc_new (w.alloc o1) o2
 rw [World.size_alloc] at h
 exact h
theorem isE_no {α : Type} {l : List α} (h : l.length ≠ 0) : l.isEmpty = false := by cases l <;> simp_all
theorem isE_yes {α : Type} {l : List α} (h : l.length = 0) : l.isEmpty = true := by cases l <;> simp_all
theorem l3Node_any (f : FsD) (q : Nod) (v lv : Value) (w : World) (hR : FsA w v f) (hE : EntsA w lv q.list) (hs : f.nodes.length ≤ 1048576) (hs2 : q.list.length ≤ 1048576) (hd : q.data.length ≤ 1048576) :
   Calls Tryz.prog 129 #[v, .agg #[.int .i64 q.kind, .int .i64 q.mode, .int .i64 q.uid, .int .i64 q.gid, .int .i64 q.time, .string (bs q.data), lv]] w fun e w' => e = .returned (.bool (nodOk f.nodes q)) ∧ Below w.heap.size w w' := by
 have HR := qhZ hR
 have HE := qhZ hE
 obtain ⟨nv, rfl, hN⟩ := hR
 obtain ⟨o, c, rfl, hm, -⟩ := hN
 obtain ⟨o2, c2, rfl, -, -⟩ := hE
 obtain ⟨k, m, u, gi, t, dd, es⟩ := q
 simp only at HE hs2 hd ⊢
 have HDL : Hid ((bs dd).size = dd.length) := qhZ (bs_size _)
 obtain ⟨x, hx⟩ : ∃ x, x = bs dd := ⟨_, rfl⟩
 rw [← hx] at HDL ⊢
 have HX := qhZ hx
 clear hx
 have HB : Hid (∀ o1 o3, Below w.heap.size w ((w.alloc o1).alloc o3)) := qhZ (fun o1 o3 => ((Below.refl _ _).alloc (Nat.le_refl _) _).alloc (by simp) _)
 unfold maxLen at hm
 by_cases hk : k = 0
 · skip
   by_cases h1 : m = 0
   · skip
     by_cases h2 : u = 0
     · skip
       by_cases h3 : gi = 0
       · skip
         by_cases h4 : t = 0
         · skip
           by_cases h5 : dd = []
           · obtain rfl : x = ⟨#[]⟩ := by rw [HX.out, h5]; rfl
             by_cases h6 : es.length = 0
             · have h7 := isE_yes h6
               have HF : Hid (nodOk f.nodes ⟨k, m, u, gi, t, dd, es⟩ = true) := qhZ (by simp [nodOk, hk, h1, h2, h3, h4, h5, h7])
               go_enter Tryz.func129, Tryz.ntmps129
               go_wp2
               go_ret
               exact ⟨aK9 (by first | exact HF.out.symm | (have hz := HF.out.symm; rw [k1] at hz; exact hz)), HB.out _ _⟩
             · have h7 := isE_no h6; have h8 : ((es.length : Int) == 0) = false := beq_eq_false_iff_ne.2 (by omega)
               have HF : Hid (nodOk f.nodes ⟨k, m, u, gi, t, dd, es⟩ = false) := qhZ (by simp [nodOk, hk, h1, h2, h3, h4, h5, h7])
               go_enter Tryz.func129, Tryz.ntmps129
               go_wp2
               go_ret
               exact ⟨aK9 (by first | exact HF.out.symm | (have hz := HF.out.symm; rw [k1] at hz; exact hz)), HB.out _ _⟩
           · obtain ⟨n1, n2, n3⟩ := text_ne h5
             rw [← HX.out] at n1 n2 n3
             have HF : Hid (nodOk f.nodes ⟨k, m, u, gi, t, dd, es⟩ = false) := qhZ (by simp [nodOk, hk, h1, h2, h3, h4, h5])
             go_enter Tryz.func129, Tryz.ntmps129
             go_wp2
             go_ret
             exact ⟨aK9 (by first | exact HF.out.symm | (have hz := HF.out.symm; rw [k1] at hz; exact hz)), HB.out _ _⟩
         · skip
           have HF : Hid (nodOk f.nodes ⟨k, m, u, gi, t, dd, es⟩ = false) := qhZ (by simp [nodOk, hk, h1, h2, h3, h4])
           go_enter Tryz.func129, Tryz.ntmps129
           go_wp2
           go_ret
           exact ⟨aK9 (by first | exact HF.out.symm | (have hz := HF.out.symm; rw [k1] at hz; exact hz)), HB.out _ _⟩
       · skip
         have HF : Hid (nodOk f.nodes ⟨k, m, u, gi, t, dd, es⟩ = false) := qhZ (by simp [nodOk, hk, h1, h2, h3])
         go_enter Tryz.func129, Tryz.ntmps129
         go_wp2
         go_ret
         exact ⟨aK9 (by first | exact HF.out.symm | (have hz := HF.out.symm; rw [k1] at hz; exact hz)), HB.out _ _⟩
     · skip
       have HF : Hid (nodOk f.nodes ⟨k, m, u, gi, t, dd, es⟩ = false) := qhZ (by simp [nodOk, hk, h1, h2])
       go_enter Tryz.func129, Tryz.ntmps129
       go_wp2
       go_ret
       exact ⟨aK9 (by first | exact HF.out.symm | (have hz := HF.out.symm; rw [k1] at hz; exact hz)), HB.out _ _⟩
   · skip
     have HF : Hid (nodOk f.nodes ⟨k, m, u, gi, t, dd, es⟩ = false) := qhZ (by simp [nodOk, hk, h1])
     go_enter Tryz.func129, Tryz.ntmps129
     go_wp2
     go_ret
     exact ⟨aK9 (by first | exact HF.out.symm | (have hz := HF.out.symm; rw [k1] at hz; exact hz)), HB.out _ _⟩
 · skip
   by_cases g1 : inB 0 511 m = true
   · have HM := qhZ g1
     by_cases g2 : inB 0 99 u = true
     · have HU := qhZ g2
       by_cases g3 : inB 0 99 gi = true
       · have HG := qhZ g3
         by_cases g4 : inB 0 1000000 t = true
         · have HT := qhZ g4
           by_cases k1 : k = 1
           · by_cases k2 : dd.length ≤ 60
             · have k3 : x.size ≤ 60 := by rw [HDL.out]; exact k2
               by_cases h6 : es.length = 0
               · have h7 := isE_yes h6
                 have HF : Hid (nodOk f.nodes ⟨k, m, u, gi, t, dd, es⟩ = true) := qhZ (by simp [nodOk, hk, g1, g2, g3, g4, k1, k2, h7])
                 go_enter Tryz.func129, Tryz.ntmps129
                 go_wp2_with (first | (go_at_call 35; refine (l1Mode_eq HM.out _).mono ?_; rintro e w' ⟨rfl, rfl⟩) | (go_at_call 61; refine (l1In_eq (by first | exact HU.out | exact HG.out | exact HT.out) _).mono ?_; rintro e w' ⟨rfl, rfl⟩))
                 go_ret
                 exact ⟨aK9 (by first | exact HF.out.symm | (have hz := HF.out.symm; rw [k1] at hz; exact hz)), HB.out _ _⟩
               · have h7 := isE_no h6; have h8 : ((es.length : Int) == 0) = false := beq_eq_false_iff_ne.2 (by omega)
                 have HF : Hid (nodOk f.nodes ⟨k, m, u, gi, t, dd, es⟩ = false) := qhZ (by simp [nodOk, hk, g1, g2, g3, g4, k1, k2, h7])
                 go_enter Tryz.func129, Tryz.ntmps129
                 go_wp2_with (first | (go_at_call 35; refine (l1Mode_eq HM.out _).mono ?_; rintro e w' ⟨rfl, rfl⟩) | (go_at_call 61; refine (l1In_eq (by first | exact HU.out | exact HG.out | exact HT.out) _).mono ?_; rintro e w' ⟨rfl, rfl⟩))
                 go_ret
                 exact ⟨aK9 (by first | exact HF.out.symm | (have hz := HF.out.symm; rw [k1] at hz; exact hz)), HB.out _ _⟩
             · have k3 : ¬ x.size ≤ 60 := by rw [HDL.out]; exact k2
               have HF : Hid (nodOk f.nodes ⟨k, m, u, gi, t, dd, es⟩ = false) := qhZ (by simp [nodOk, hk, g1, g2, g3, g4, k1, k2])
               go_enter Tryz.func129, Tryz.ntmps129
               go_wp2_with (first | (go_at_call 35; refine (l1Mode_eq HM.out _).mono ?_; rintro e w' ⟨rfl, rfl⟩) | (go_at_call 61; refine (l1In_eq (by first | exact HU.out | exact HG.out | exact HT.out) _).mono ?_; rintro e w' ⟨rfl, rfl⟩))
               go_ret
               exact ⟨aK9 (by first | exact HF.out.symm | (have hz := HF.out.symm; rw [k1] at hz; exact hz)), HB.out _ _⟩
           · by_cases k2 : k = 2
             · by_cases h5 : dd = []
               · obtain rfl : x = ⟨#[]⟩ := by rw [HX.out, h5]; rfl
                 have HF : Hid (nodOk f.nodes ⟨k, m, u, gi, t, dd, es⟩ = entsOk f.nodes es) := qhZ (by simp [nodOk, hk, g1, g2, g3, g4, k1, k2, h5])
                 go_enter Tryz.func129, Tryz.ntmps129
                 go_wp2_with (first | (go_at_call 35; refine (l1Mode_eq HM.out _).mono ?_; rintro e w' ⟨rfl, rfl⟩) | (go_at_call 61; refine (l1In_eq (by first | exact HU.out | exact HG.out | exact HT.out) _).mono ?_; rintro e w' ⟨rfl, rfl⟩))
                 refine (l3Entries_any f es _ _ _ (HR.out.below (HB.out _ _)) (HE.out.below (HB.out _ _)) hs hs2).mono ?_
                 rintro e w1 ⟨rfl, hb1⟩
                 have HB1 := qhZ ((HB.out _ _).trans (hb1.mono (HB.out _ _).size))
                 clear hb1
                 go_wp2
                 go_ret
                 exact ⟨aK9 HF.out.symm, HB1.out⟩
               · obtain ⟨n1, n2, n3⟩ := text_ne h5
                 rw [← HX.out] at n1 n2 n3
                 have HF : Hid (nodOk f.nodes ⟨k, m, u, gi, t, dd, es⟩ = false) := qhZ (by simp [nodOk, hk, g1, g2, g3, g4, k1, k2, h5])
                 go_enter Tryz.func129, Tryz.ntmps129
                 go_wp2_with (first | (go_at_call 35; refine (l1Mode_eq HM.out _).mono ?_; rintro e w' ⟨rfl, rfl⟩) | (go_at_call 61; refine (l1In_eq (by first | exact HU.out | exact HG.out | exact HT.out) _).mono ?_; rintro e w' ⟨rfl, rfl⟩))
                 go_ret
                 exact ⟨aK9 (by first | exact HF.out.symm | (have hz := HF.out.symm; rw [k1] at hz; exact hz)), HB.out _ _⟩
             · by_cases k3 : k = 3
               · have HKK : Hid (k = 3) := qhZ k3
                 by_cases k4 : goodB dd = true
                 · have HP : Hid (goodB x.data.toList = true) := qhZ (by rw [HX.out, aY9]; exact k4)
                   by_cases h6 : es.length = 0
                   · have h7 := isE_yes h6
                     have HF : Hid (nodOk f.nodes ⟨k, m, u, gi, t, dd, es⟩ = true) := qhZ (by simp [nodOk, hk, g1, g2, g3, g4, k1, k2, k3, k4, h7])
                     go_enter Tryz.func129, Tryz.ntmps129
                     go_wp2_with (first | (go_at_call 35; refine (l1Mode_eq HM.out _).mono ?_; rintro e w' ⟨rfl, rfl⟩) | (go_at_call 61; refine (l1In_eq (by first | exact HU.out | exact HG.out | exact HT.out) _).mono ?_; rintro e w' ⟨rfl, rfl⟩))
                     refine (l2Path_any x _ (by rw [HDL.out]; omega)).mono ?_
                     rintro e w1 ⟨rfl, hb1⟩
                     rw [HP.out]
                     have HB1 := qhZ ((HB.out _ _).trans (hb1.mono (HB.out _ _).size))
                     obtain ⟨L1, -⟩ := old_cells hb1
                     have j6 := L1 (w.heap.size + 1) 6 (by simp)
                     rw [aA9 (heap_alloc_new2 w _ _) 6] at j6
                     have j7 := j6.trans rfl
                     clear hb1 L1 j6
                     go_wp2
                     go_ret
                     exact ⟨aK9 HF.out.symm, HB1.out⟩
                   · have h7 := isE_no h6; have h8 : ((es.length : Int) == 0) = false := beq_eq_false_iff_ne.2 (by omega)
                     have HF : Hid (nodOk f.nodes ⟨k, m, u, gi, t, dd, es⟩ = false) := qhZ (by simp [nodOk, hk, g1, g2, g3, g4, k1, k2, k3, k4, h7])
                     go_enter Tryz.func129, Tryz.ntmps129
                     go_wp2_with (first | (go_at_call 35; refine (l1Mode_eq HM.out _).mono ?_; rintro e w' ⟨rfl, rfl⟩) | (go_at_call 61; refine (l1In_eq (by first | exact HU.out | exact HG.out | exact HT.out) _).mono ?_; rintro e w' ⟨rfl, rfl⟩))
                     refine (l2Path_any x _ (by rw [HDL.out]; omega)).mono ?_
                     rintro e w1 ⟨rfl, hb1⟩
                     rw [HP.out]
                     have HB1 := qhZ ((HB.out _ _).trans (hb1.mono (HB.out _ _).size))
                     obtain ⟨L1, -⟩ := old_cells hb1
                     have j6 := L1 (w.heap.size + 1) 6 (by simp)
                     rw [aA9 (heap_alloc_new2 w _ _) 6] at j6
                     have j7 := j6.trans rfl
                     clear hb1 L1 j6
                     go_wp2
                     go_ret
                     exact ⟨aK9 HF.out.symm, HB1.out⟩
                 · have HP : Hid (goodB x.data.toList = false) := qhZ (by rw [HX.out, aY9]; simpa using k4)
                   have HF : Hid (nodOk f.nodes ⟨k, m, u, gi, t, dd, es⟩ = false) := qhZ (by simp [nodOk, hk, g1, g2, g3, g4, k1, k2, k3, k4])
                   go_enter Tryz.func129, Tryz.ntmps129
                   go_wp2_with (first | (go_at_call 35; refine (l1Mode_eq HM.out _).mono ?_; rintro e w' ⟨rfl, rfl⟩) | (go_at_call 61; refine (l1In_eq (by first | exact HU.out | exact HG.out | exact HT.out) _).mono ?_; rintro e w' ⟨rfl, rfl⟩))
                   refine (l2Path_any x _ (by rw [HDL.out]; omega)).mono ?_
                   rintro e w1 ⟨rfl, hb1⟩
                   rw [HP.out]
                   have HB1 := qhZ ((HB.out _ _).trans (hb1.mono (HB.out _ _).size))
                   obtain ⟨L1, -⟩ := old_cells hb1
                   have j6 := L1 (w.heap.size + 1) 6 (by simp)
                   rw [aA9 (heap_alloc_new2 w _ _) 6] at j6
                   have j7 := j6.trans rfl
                   clear hb1 L1 j6
                   go_wp2
                   go_ret
                   exact ⟨aK9 HF.out.symm, HB1.out⟩
               · skip
                 have HF : Hid (nodOk f.nodes ⟨k, m, u, gi, t, dd, es⟩ = false) := qhZ (by simp [nodOk, hk, g1, g2, g3, g4, k1, k2, k3])
                 go_enter Tryz.func129, Tryz.ntmps129
                 go_wp2_with (first | (go_at_call 35; refine (l1Mode_eq HM.out _).mono ?_; rintro e w' ⟨rfl, rfl⟩) | (go_at_call 61; refine (l1In_eq (by first | exact HU.out | exact HG.out | exact HT.out) _).mono ?_; rintro e w' ⟨rfl, rfl⟩))
                 go_ret
                 exact ⟨aK9 (by first | exact HF.out.symm | (have hz := HF.out.symm; rw [k1] at hz; exact hz)), HB.out _ _⟩
         · have g4' : inB 0 1000000 t = false := by simpa using g4
           have HT := qhZ g4'
           have HF : Hid (nodOk f.nodes ⟨k, m, u, gi, t, dd, es⟩ = false) := qhZ (by simp [nodOk, hk, g1, g2, g3, g4'])
           go_enter Tryz.func129, Tryz.ntmps129
           go_wp2_with (first | (go_at_call 35; refine (l1Mode_eq HM.out _).mono ?_; rintro e w' ⟨rfl, rfl⟩) | (go_at_call 61; refine (l1In_eq (by first | exact HU.out | exact HG.out | exact HT.out) _).mono ?_; rintro e w' ⟨rfl, rfl⟩))
           go_ret
           exact ⟨aK9 (by first | exact HF.out.symm | (have hz := HF.out.symm; rw [k1] at hz; exact hz)), HB.out _ _⟩
       · have g3' : inB 0 99 gi = false := by simpa using g3
         have HG := qhZ g3'
         have HF : Hid (nodOk f.nodes ⟨k, m, u, gi, t, dd, es⟩ = false) := qhZ (by simp [nodOk, hk, g1, g2, g3'])
         have HT := HF
         go_enter Tryz.func129, Tryz.ntmps129
         go_wp2_with (first | (go_at_call 35; refine (l1Mode_eq HM.out _).mono ?_; rintro e w' ⟨rfl, rfl⟩) | (go_at_call 61; refine (l1In_eq (by first | exact HU.out | exact HG.out | exact HT.out) _).mono ?_; rintro e w' ⟨rfl, rfl⟩))
         go_ret
         exact ⟨aK9 (by first | exact HF.out.symm | (have hz := HF.out.symm; rw [k1] at hz; exact hz)), HB.out _ _⟩
     · have g2' : inB 0 99 u = false := by simpa using g2
       have HU := qhZ g2'
       have HF : Hid (nodOk f.nodes ⟨k, m, u, gi, t, dd, es⟩ = false) := qhZ (by simp [nodOk, hk, g1, g2'])
       have HG := HF
       have HT := HF
       go_enter Tryz.func129, Tryz.ntmps129
       go_wp2_with (first | (go_at_call 35; refine (l1Mode_eq HM.out _).mono ?_; rintro e w' ⟨rfl, rfl⟩) | (go_at_call 61; refine (l1In_eq (by first | exact HU.out | exact HG.out | exact HT.out) _).mono ?_; rintro e w' ⟨rfl, rfl⟩))
       go_ret
       exact ⟨aK9 (by first | exact HF.out.symm | (have hz := HF.out.symm; rw [k1] at hz; exact hz)), HB.out _ _⟩
   · have g1' : inB 0 511 m = false := by simpa using g1
     have HM := qhZ g1'
     have HF : Hid (nodOk f.nodes ⟨k, m, u, gi, t, dd, es⟩ = false) := qhZ (by simp [nodOk, hk, g1'])
     have HU := HF
     have HG := HF
     have HT := HF
     go_enter Tryz.func129, Tryz.ntmps129
     go_wp2_with (first | (go_at_call 35; refine (l1Mode_eq HM.out _).mono ?_; rintro e w' ⟨rfl, rfl⟩) | (go_at_call 61; refine (l1In_eq (by first | exact HU.out | exact HG.out | exact HT.out) _).mono ?_; rintro e w' ⟨rfl, rfl⟩))
     go_ret
     exact ⟨aK9 (by first | exact HF.out.symm | (have hz := HF.out.symm; rw [k1] at hz; exact hz)), HB.out _ _⟩
theorem intInfo : (Tryz.prog.info? 3).map (fun i => (i.zero, i.size, i.bytes)) = some (some (.int .i64 0), 1, 8) := by kernel_rfl
def ints (l : List Int) : List Value := l.map fun n => .int .i64 n
def LstI (w : World) (B : Nat) (v : Value) (l : List Int) : Prop := w.ownsRow B 3 1 v l.length (ints l)
def RdI (w : World) (v : Value) (l : List Int) : Prop :=
 ∃ o c, v = .slice o l.length c ∧ l.length ≤ c ∧ c ≤ maxLen ∧ (o = none → c = 0) ∧ ∀ a, o = some a → ∃ g off, a = ⟨g, off, none⟩ ∧ g < w.heap.size ∧ ∀ i (h : i < l.length), w.cell? ⟨g, off + i, none⟩ = some (.int .i64 l[i])
theorem LstI.read {w : World} {B : Nat} {v : Value} {l : List Int} (h : LstI w B v l) : RdI w v l := by
 rcases h with ⟨hl, ⟨rfl, h0⟩ | ⟨g, cap, cur, rfl, hB, hg, hn, hm, hs, ht⟩⟩
 · have : l = [] := List.eq_nil_of_length_eq_zero h0
   subst this
   exact ⟨none, 0, rfl, Nat.le_refl _, Nat.zero_le _, fun _ => rfl, fun a ha => by cases ha⟩
 · refine ⟨_, _, rfl, hn, hm, (fun e => by cases e), fun a ha => ?_⟩
   cases ha
   refine ⟨g, 0, rfl, (Array.getElem?_eq_some_iff.1 hg).1, fun i hi => ?_⟩
   have h1 : cur[i]? = some (.int .i64 l[i]) := by
     rw [← Array.getElem?_toList]
     have h2 : (cur.toList.take (l.length * 1))[i]? = some (.int .i64 l[i]) := by
       rw [ht]; simp [ints, hi]
     rw [List.getElem?_take] at h2
     rw [if_pos (by omega)] at h2
     exact h2
   simp [World.cell?, hg, h1]
theorem RdI.below {w w' : World} {v : Value} {l : List Int} (h : RdI w v l) (hb : Below w.heap.size w w') : RdI w' v l := by
 obtain ⟨o, c, rfl, h1, h2, h0, h3⟩ := h
 refine ⟨o, c, rfl, h1, h2, h0, fun a ha => ?_⟩
 obtain ⟨g, off, e, hg, hc⟩ := h3 a ha
 exact ⟨g, off, e, Nat.lt_of_lt_of_le hg hb.size, fun i hi => (hb.cell (p := ⟨g, off + i, none⟩) hg).trans (hc i hi)⟩
theorem RdI.nil (w : World) : RdI w (.slice none 0 0) [] := ⟨none, 0, rfl, Nat.le_refl _, Nat.zero_le _, fun _ => rfl, fun a ha => by cases ha⟩
theorem below_appI {w wr w1 : World} {B : Nat} {v : Value} {n : Nat} {xs : List Value} (hb : Below B w wr) (hB : B ≤ wr.heap.size) (hown : wr.ownsRow B 3 1 v n xs) (hg : wr.grownBy w1 v.ownBlock) : Below B w w1 := by
 refine hb.grown hg (by first | omega | exact hB) fun j ej => ?_
 rcases hown.2 with ⟨rfl, _⟩ | ⟨g, cap, cur, rfl, hgb, _, _⟩
 · simp [Value.ownBlock] at ej
 · obtain rfl : g = j := by simpa [Value.ownBlock] using ej
   exact hgb
theorem own_none (w : World) : (w.alloc (.cells #[] 3)).ownsRow w.heap.size 3 1 (.slice (some ⟨w.heap.size, 0, none⟩) 0 0) 0 [] :=
 ⟨rfl, .inr ⟨w.heap.size, 0, #[], rfl, Nat.le_refl _, heap_alloc_new w _, Nat.le_refl _, Nat.zero_le _, rfl, rfl⟩⟩
theorem ints_one (l : List Int) : ∀ u ∈ ints l, u.oneCell' = true := by
 intro u hu
 simp only [ints, List.mem_map] at hu
 obtain ⟨y, -, rfl⟩ := hu
 rfl
theorem add_plainI (g off i : Nat) : (⟨g, off, none⟩ : Addr).add i = ⟨g, off + i, none⟩ := by
 unfold Addr.add; split
 · rename_i h; subst h; rfl
 · rfl
def hasI (l : List Int) (n : Int) : Bool := l.any fun x => x == n
theorem l1Has_any (l : List Int) (n : Int) (v : Value) (w : World) (hR : RdI w v l) (hs : l.length ≤ 1048576) : Calls Tryz.prog 131 #[v, .int .i64 n] w fun e w' => e = .returned (.bool (hasI l n)) ∧ w = w' := by
 obtain ⟨o, c, rfl, h1, h2, h0, h3⟩ := hR
 have H3 := qhZ h3
 have H0 := qhZ h0
 clear h3 h0
 go_enter Tryz.func131, Tryz.ntmps131
 go_wp2
 go_loopw [9] (fun i wr => ∃ k : Nat, k ≤ l.length ∧ i = .int .i64 k ∧ wr = w ∧ ∀ j (hj : j < l.length), j < k → (l[j] == n) = false) (fun i _ => l.length - (intOf i).toNat)
 case atStart => exact ⟨0, Nat.zero_le _, rfl, rfl, fun j hj h => absurd h (Nat.not_lt_zero _)⟩
 case round =>
   obtain ⟨k, hk, rfl, rfl, hj⟩ := hrel
   have HJ := qhZ hj
   clear hj
   by_cases hlt : k < l.length
   · obtain ⟨g, off, rfl, hg, hc⟩ : ∃ g off, o = some ⟨g, off, none⟩ ∧ g < wr.heap.size ∧ ∀ i (h : i < l.length), wr.cell? ⟨g, off + i, none⟩ = some (.int .i64 l[i]) := by
       cases o with
       | none => have := H0.out rfl; omega
       | some a => obtain ⟨g, off, rfl, h⟩ := H3.out a rfl; exact ⟨g, off, rfl, h⟩
     have d0 := hc k hlt
     clear hc
     obtain ⟨x, hx⟩ : ∃ x, x = l[k] := ⟨_, rfl⟩
     have HX := qhZ hx
     rw [← hx] at d0
     clear hx
     by_cases he : x = n
     · have HF : Hid (hasI l n = true) := qhZ (by unfold hasI; rw [List.any_eq_true]; exact ⟨l[k], List.getElem_mem hlt, by rw [← HX.out, he]; simp⟩)
       go_wp2
       go_ret
       exact ⟨aK9 HF.out.symm, rfl⟩
     · have HJ2 : Hid (∀ j (hj : j < l.length), j < k + 1 → (l[j] == n) = false) := qhZ (by
         intro j hj h
         rcases Nat.lt_succ_iff_lt_or_eq.1 h with h1 | rfl
         · exact HJ.out j hj h1
         · rw [← HX.out]; simpa using he)
       go_wp2
       go_roundw
       case rel => exact ⟨k + 1, hlt, by go_num, trivial, HJ2.out⟩
       case measure => simp [intOf]; omega
   · have HF : Hid (hasI l n = false) := qhZ (by
       unfold hasI
       rw [List.any_eq_false]
       intro e he
       obtain ⟨m, hm, rfl⟩ := List.getElem_of_mem he
       rw [HJ.out m hm (by omega)]; simp)
     go_wp2
     go_ret
     exact ⟨aK9 HF.out.symm, rfl⟩
theorem l1Put_any (l : List Int) (n : Int) (v : Value) (w : World) (hR : RdI w v l) (hn : n ∉ l) (hs : l.length ≤ 1048576) : Calls Tryz.prog 166 #[v, .int .i64 n] w fun e w' => ∃ v' k, e = .returned v' ∧ LstI w' w.heap.size v' (l.take k ++ n :: l.drop k) ∧ Below w.heap.size w w' := by
 have HR := qhZ hR
 obtain ⟨o, c, rfl, h1, h2, h0, h3⟩ := hR
 have H3 := qhZ h3
 have H0 := qhZ h0
 have HNL := qhZ hn
 clear h3 h0 hn
 unfold maxLen at h2
 go_enter Tryz.func166, Tryz.ntmps166
 go_wp2
 go_loopw [5] (fun i wr => ∃ k : Nat, k ≤ l.length ∧ i = .int .i64 k ∧ wr = w) (fun i _ => l.length - (intOf i).toNat)
 case atStart => exact ⟨0, Nat.zero_le _, rfl, rfl⟩
 case round =>
   obtain ⟨k, hk, rfl, rfl⟩ := hrel
   obtain ⟨i0, hi, hz0, hz1, hz2⟩ := info_parts intInfo
   by_cases hlt : k < l.length
   · obtain ⟨g, off, rfl, hg, hc⟩ : ∃ g off, o = some ⟨g, off, none⟩ ∧ g < wr.heap.size ∧ ∀ i (h : i < l.length), wr.cell? ⟨g, off + i, none⟩ = some (.int .i64 l[i]) := by
       cases o with
       | none => have := H0.out rfl; omega
       | some a => obtain ⟨g, off, rfl, h⟩ := H3.out a rfl; exact ⟨g, off, rfl, h⟩
     have d0 := hc k hlt
     have HC := qhZ hc
     clear hc
     obtain ⟨x, hx⟩ : ∃ x, x = l[k] := ⟨_, rfl⟩
     have HX := qhZ hx
     rw [← hx] at d0
     clear hx
     have hne : x ≠ n := fun e => HNL.out (by rw [← e, HX.out]; exact List.getElem_mem hlt)
     have hneb : (x == n) = false := by simpa using hne
     by_cases hl : x < n
     · go_wp2
       go_roundw
       case rel => exact ⟨k + 1, hlt, by go_num, trivial⟩
       case measure => simp [intOf]; omega
     · have HNEW : Hid (∀ j u, (ints (l.take k))[j]? = some u → (wr.alloc (.cells #[] 3)).cell? ((⟨g, off, none⟩ : Addr).add j) = some u) := qhZ (by
         intro j u hj
         rw [add_plainI]
         simp only [ints, List.getElem?_map, Option.map_eq_some_iff] at hj
         obtain ⟨y, hy, rfl⟩ := hj
         rw [List.getElem?_take] at hy
         split at hy
         · obtain ⟨hjl, rfl⟩ := List.getElem?_eq_some_iff.1 hy
           exact (((Below.refl wr.heap.size wr).alloc (Nat.le_refl _) _).cell (p := ⟨g, off + j, none⟩) hg).trans (HC.out j hjl)
         · cases hy)
       go_wp2_with (at_builtin; refine wpList_append_own _ rfl _ _ 157 rfl wr.heap.size 3 i0 (.int .i64 0) 1 8 Tryz.underlying157 hi hz0 hz1 hz2 rfl (by decide) _ 0 [] rfl (own_none wr) ⟨g, off, none⟩ k c (ints (l.take k)) rfl (by simp [ints]; omega) (HNEW.out) (ints_one _) (by unfold maxLen; omega) (by omega) (by simp) ?_)
       intro v1 w1 hown1 hgrow1 _
       have hbA : Below wr.heap.size wr (wr.alloc (.cells #[] 3)) := (Below.refl _ _).alloc (Nat.le_refl _) _
       have hb1 := below_appI hbA (by simp) (own_none wr) hgrow1
       have HO1 := qhZ hown1
       clear hown1 hgrow1 hbA
       go_wp2_with (at_builtin; refine wpList_append_own _ rfl _ _ 157 rfl wr.heap.size 3 i0 (.int .i64 0) 1 8 Tryz.underlying157 hi hz0 hz1 hz2 rfl (by decide) _ _ _ rfl (World.ownsRow.alloc HO1.out _) ⟨w1.heap.size, 0, none⟩ 1 1 [.int .i64 n] rfl rfl (cell_one_new _ _ _) (by simp [Value.oneCell']) (by unfold maxLen; omega) (by omega) (by have := hb1.size; simp; omega) ?_)
       intro v2 w2 hown2 hgrow2 _
       have hb2 := below_appI (hb1.alloc hb1.size (.cells #[.int .i64 n] 3)) (by have := hb1.size; simp; omega) (World.ownsRow.alloc HO1.out _) hgrow2
       have HO2 := qhZ hown2
       clear hown2 hgrow2 HO1 hb1
       have hck : ¬ c = k := by omega
       have hck2 : ¬ k = c := by omega
       have HNEW3 : Hid (∀ j u, (ints (l.drop k))[j]? = some u → w2.cell? ((⟨g, off + k, none⟩ : Addr).add j) = some u) := qhZ (by
         intro j u hj
         rw [add_plainI]
         simp only [ints, List.getElem?_map, Option.map_eq_some_iff] at hj
         obtain ⟨y, hy, rfl⟩ := hj
         rw [List.getElem?_drop] at hy
         obtain ⟨hjl, rfl⟩ := List.getElem?_eq_some_iff.1 hy
         rw [Nat.add_assoc]
         exact (hb2.cell (p := ⟨g, off + (k + j), none⟩) hg).trans (HC.out (k + j) hjl))
       go_wp2_with (at_builtin; refine wpList_append_own _ rfl _ _ 157 rfl wr.heap.size 3 i0 (.int .i64 0) 1 8 Tryz.underlying157 hi hz0 hz1 hz2 rfl (by decide) _ _ _ rfl HO2.out ⟨g, off + k, none⟩ (l.length - k) (c - k) (ints (l.drop k)) rfl (by simp [ints]) (HNEW3.out) (ints_one _) (by unfold maxLen; omega) (by omega) hb2.size ?_)
       intro v3 w3 hown3 hgrow3 _
       have hb3 := below_appI hb2 hb2.size HO2.out hgrow3
       have HO3 := qhZ hown3
       clear hown3 hgrow3 HO2 hb2
       go_wp2
       go_ret
       refine ⟨_, k, rfl, ?_, hb3⟩
       have hq := HO3.out
       unfold LstI
       have e1 : (l.take k ++ n :: l.drop k).length = 0 + k + 1 + (l.length - k) := by simp; omega
       rw [e1]
       simpa [ints] using hq
   · obtain rfl : k = l.length := by omega
     cases o with
     | none =>
       have hc0 := H0.out rfl
       have hl0 : l = [] := List.eq_nil_of_length_eq_zero (by omega)
       subst hl0
       subst hc0
       simp only [List.length_nil] at hk hlt ⊢
       have HCN : Hid (∀ j u, [Value.int .i64 n][j]? = some u → ((wr.alloc (.cells #[] 3)).alloc (.cells #[.int .i64 n] 3)).cell? ((⟨wr.heap.size + 1, 0, none⟩ : Addr).add j) = some u) := qhZ (by
         have h := cell_one_new (wr.alloc (.cells #[] 3)) (.int .i64 n) 3
         rw [World.size_alloc] at h
         exact h)
       have HO1 : Hid ((wr.alloc (.cells #[] 3)).ownsRow wr.heap.size 3 1 (.slice (some ⟨wr.heap.size, 0, none⟩) 0 0) 0 []) := qhZ (own_none wr)
       have hb1 : Below wr.heap.size wr (wr.alloc (.cells #[] 3)) := (Below.refl _ _).alloc (Nat.le_refl _) _
       go_wp2_with (first | (at_builtin; refine wpList_append_own_none rfl _ _ 157 rfl wr.heap.size 3 i0 1 Tryz.underlying157 hi _ _ _ rfl (own_none wr) rfl ?_) | (at_builtin; refine wpList_append_own _ rfl _ _ 157 rfl wr.heap.size 3 i0 (.int .i64 0) 1 8 Tryz.underlying157 hi hz0 hz1 hz2 rfl (by decide) _ _ _ rfl (World.ownsRow.alloc HO1.out _) ⟨wr.heap.size + 1, 0, none⟩ 1 1 [.int .i64 n] rfl rfl (HCN.out) (by simp [Value.oneCell']) (by unfold maxLen; omega) (by omega) (by have := hb1.size; simp at this ⊢; omega) ?_))
       intro v2 w2 hown2 hgrow2 _
       have hb2 := below_appI (hb1.alloc hb1.size (.cells #[.int .i64 n] 3)) (by have := hb1.size; simp at this ⊢; omega) (World.ownsRow.alloc HO1.out _) hgrow2
       have HO2 := qhZ hown2
       clear hown2 hgrow2 HO1 hb1
       go_wp2_with (at_builtin; refine wpList_append_own_none rfl _ _ 157 rfl wr.heap.size 3 i0 1 Tryz.underlying157 hi _ _ _ rfl HO2.out rfl ?_)
       go_ret
       refine ⟨_, 0, rfl, ?_, hb2⟩
       have hq := HO2.out
       unfold LstI
       simpa [ints] using hq
     | some a =>
       obtain ⟨g, off, rfl, hg, hc⟩ := H3.out a rfl
       have HC := qhZ hc
       clear hc
       have HNEW : Hid (∀ j u, (ints l)[j]? = some u → (wr.alloc (.cells #[] 3)).cell? ((⟨g, off, none⟩ : Addr).add j) = some u) := qhZ (by
         intro j u hj
         rw [add_plainI]
         simp only [ints, List.getElem?_map, Option.map_eq_some_iff] at hj
         obtain ⟨y, hy, rfl⟩ := hj
         obtain ⟨hjl, rfl⟩ := List.getElem?_eq_some_iff.1 hy
         exact (((Below.refl wr.heap.size wr).alloc (Nat.le_refl _) _).cell (p := ⟨g, off + j, none⟩) hg).trans (HC.out j hjl))
       by_cases hc0 : c = 0
       · have hl0 : l = [] := List.eq_nil_of_length_eq_zero (by omega)
         subst hl0
         subst hc0
         simp only [List.length_nil] at hk hlt ⊢
         go_wp2_with (at_builtin; refine wpList_append_own _ rfl _ _ 157 rfl wr.heap.size 3 i0 (.int .i64 0) 1 8 Tryz.underlying157 hi hz0 hz1 hz2 rfl (by decide) _ 0 [] rfl (own_none wr) ⟨g, off, none⟩ 0 0 (ints []) rfl (by simp [ints]) (HNEW.out) (ints_one _) (by unfold maxLen; omega) (by omega) (by simp) ?_)
         intro v1 w1 hown1 hgrow1 _
         have hbA : Below wr.heap.size wr (wr.alloc (.cells #[] 3)) := (Below.refl _ _).alloc (Nat.le_refl _) _
         have hb1 := below_appI hbA (by simp) (own_none wr) hgrow1
         have HO1 := qhZ hown1
         clear hown1 hgrow1 hbA
         go_wp2_with (at_builtin; refine wpList_append_own _ rfl _ _ 157 rfl wr.heap.size 3 i0 (.int .i64 0) 1 8 Tryz.underlying157 hi hz0 hz1 hz2 rfl (by decide) _ _ _ rfl (World.ownsRow.alloc HO1.out _) ⟨w1.heap.size, 0, none⟩ 1 1 [.int .i64 n] rfl rfl (cell_one_new _ _ _) (by simp [Value.oneCell']) (by unfold maxLen; omega) (by omega) (by have := hb1.size; simp at this ⊢; omega) ?_)
         intro v2 w2 hown2 hgrow2 _
         have hb2 := below_appI (hb1.alloc hb1.size (.cells #[.int .i64 n] 3)) (by have := hb1.size; simp at this ⊢; omega) (World.ownsRow.alloc HO1.out _) hgrow2
         have HO2 := qhZ hown2
         clear hown2 hgrow2 HO1 hb1
         go_wp2_with (first | (at_builtin; refine wpList_append_own _ rfl _ _ 157 rfl wr.heap.size 3 i0 (.int .i64 0) 1 8 Tryz.underlying157 hi hz0 hz1 hz2 rfl (by decide) _ _ _ rfl HO2.out ⟨g, off, none⟩ 0 0 [] rfl (by simp) (by simp) (by simp) (by unfold maxLen; omega) (by omega) hb2.size ?_) | (at_builtin; refine wpList_append_own _ rfl _ _ 157 rfl wr.heap.size 3 i0 (.int .i64 0) 1 8 Tryz.underlying157 hi hz0 hz1 hz2 rfl (by decide) _ _ _ rfl HO2.out ⟨g, off, none⟩ (0 - 0) 0 [] rfl (by simp) (by simp) (by simp) (by unfold maxLen; omega) (by omega) hb2.size ?_))
         intro v3 w3 hown3 hgrow3 _
         have hb3 := below_appI hb2 hb2.size HO2.out hgrow3
         have HO3 := qhZ hown3
         clear hown3 hgrow3 HO2 hb2
         go_wp2
         go_ret
         refine ⟨_, 0, rfl, ?_, hb3⟩
         have hq := HO3.out
         unfold LstI
         simpa [ints] using hq
       by_cases hck : c = l.length
       · have hpos : ¬ l.length = 0 := by omega
         go_wp2_with (at_builtin; refine wpList_append_own _ rfl _ _ 157 rfl wr.heap.size 3 i0 (.int .i64 0) 1 8 Tryz.underlying157 hi hz0 hz1 hz2 rfl (by decide) _ 0 [] rfl (own_none wr) ⟨g, off, none⟩ l.length l.length (ints l) rfl (by simp [ints]) (HNEW.out) (ints_one _) (by unfold maxLen; omega) (by omega) (by simp) ?_)
         intro v1 w1 hown1 hgrow1 _
         have hbA : Below wr.heap.size wr (wr.alloc (.cells #[] 3)) := (Below.refl _ _).alloc (Nat.le_refl _) _
         have hb1 := below_appI hbA (by simp) (own_none wr) hgrow1
         have HO1 := qhZ hown1
         clear hown1 hgrow1 hbA
         go_wp2_with (at_builtin; refine wpList_append_own _ rfl _ _ 157 rfl wr.heap.size 3 i0 (.int .i64 0) 1 8 Tryz.underlying157 hi hz0 hz1 hz2 rfl (by decide) _ _ _ rfl (World.ownsRow.alloc HO1.out _) ⟨w1.heap.size, 0, none⟩ 1 1 [.int .i64 n] rfl rfl (cell_one_new _ _ _) (by simp [Value.oneCell']) (by unfold maxLen; omega) (by omega) (by have := hb1.size; simp at this ⊢; omega) ?_)
         intro v2 w2 hown2 hgrow2 _
         have hb2 := below_appI (hb1.alloc hb1.size (.cells #[.int .i64 n] 3)) (by have := hb1.size; simp at this ⊢; omega) (World.ownsRow.alloc HO1.out _) hgrow2
         have HO2 := qhZ hown2
         clear hown2 hgrow2 HO1 hb1
         go_wp2_with (first | (at_builtin; refine wpList_append_own _ rfl _ _ 157 rfl wr.heap.size 3 i0 (.int .i64 0) 1 8 Tryz.underlying157 hi hz0 hz1 hz2 rfl (by decide) _ _ _ rfl HO2.out ⟨g, off, none⟩ 0 0 [] rfl (by simp) (by simp) (by simp) (by unfold maxLen; omega) (by omega) hb2.size ?_) | (at_builtin; refine wpList_append_own _ rfl _ _ 157 rfl wr.heap.size 3 i0 (.int .i64 0) 1 8 Tryz.underlying157 hi hz0 hz1 hz2 rfl (by decide) _ _ _ rfl HO2.out ⟨g, off, none⟩ 0 (c - l.length) [] rfl (by simp) (by simp) (by simp) (by unfold maxLen; omega) (by omega) hb2.size ?_) | (at_builtin; refine wpList_append_own _ rfl _ _ 157 rfl wr.heap.size 3 i0 (.int .i64 0) 1 8 Tryz.underlying157 hi hz0 hz1 hz2 rfl (by decide) _ _ _ rfl HO2.out ⟨g, off, none⟩ (l.length - l.length) 0 [] rfl (by simp) (by simp) (by simp) (by unfold maxLen; omega) (by omega) hb2.size ?_) | (at_builtin; refine wpList_append_own _ rfl _ _ 157 rfl wr.heap.size 3 i0 (.int .i64 0) 1 8 Tryz.underlying157 hi hz0 hz1 hz2 rfl (by decide) _ _ _ rfl HO2.out ⟨g, off, none⟩ (l.length - l.length) (c - l.length) [] rfl (by simp) (by simp) (by simp) (by unfold maxLen; omega) (by omega) hb2.size ?_))
         intro v3 w3 hown3 hgrow3 _
         have hb3 := below_appI hb2 hb2.size HO2.out hgrow3
         have HO3 := qhZ hown3
         clear hown3 hgrow3 HO2 hb2
         go_wp2
         go_ret
         refine ⟨_, l.length, rfl, ?_, hb3⟩
         have hq := HO3.out
         unfold LstI
         simpa [ints] using hq
       · have hck2 : ¬ l.length = c := fun e => hck e.symm
         go_wp2_with (at_builtin; refine wpList_append_own _ rfl _ _ 157 rfl wr.heap.size 3 i0 (.int .i64 0) 1 8 Tryz.underlying157 hi hz0 hz1 hz2 rfl (by decide) _ 0 [] rfl (own_none wr) ⟨g, off, none⟩ l.length c (ints l) rfl (by simp [ints]) (HNEW.out) (ints_one _) (by unfold maxLen; omega) (by omega) (by simp) ?_)
         intro v1 w1 hown1 hgrow1 _
         have hbA : Below wr.heap.size wr (wr.alloc (.cells #[] 3)) := (Below.refl _ _).alloc (Nat.le_refl _) _
         have hb1 := below_appI hbA (by simp) (own_none wr) hgrow1
         have HO1 := qhZ hown1
         clear hown1 hgrow1 hbA
         go_wp2_with (at_builtin; refine wpList_append_own _ rfl _ _ 157 rfl wr.heap.size 3 i0 (.int .i64 0) 1 8 Tryz.underlying157 hi hz0 hz1 hz2 rfl (by decide) _ _ _ rfl (World.ownsRow.alloc HO1.out _) ⟨w1.heap.size, 0, none⟩ 1 1 [.int .i64 n] rfl rfl (cell_one_new _ _ _) (by simp [Value.oneCell']) (by unfold maxLen; omega) (by omega) (by have := hb1.size; simp at this ⊢; omega) ?_)
         intro v2 w2 hown2 hgrow2 _
         have hb2 := below_appI (hb1.alloc hb1.size (.cells #[.int .i64 n] 3)) (by have := hb1.size; simp at this ⊢; omega) (World.ownsRow.alloc HO1.out _) hgrow2
         have HO2 := qhZ hown2
         clear hown2 hgrow2 HO1 hb1
         go_wp2_with (first | (at_builtin; refine wpList_append_own _ rfl _ _ 157 rfl wr.heap.size 3 i0 (.int .i64 0) 1 8 Tryz.underlying157 hi hz0 hz1 hz2 rfl (by decide) _ _ _ rfl HO2.out ⟨g, off + l.length, none⟩ 0 (c - l.length) [] rfl (by simp) (by simp) (by simp) (by unfold maxLen; omega) (by omega) hb2.size ?_) | (at_builtin; refine wpList_append_own _ rfl _ _ 157 rfl wr.heap.size 3 i0 (.int .i64 0) 1 8 Tryz.underlying157 hi hz0 hz1 hz2 rfl (by decide) _ _ _ rfl HO2.out ⟨g, off + l.length, none⟩ (l.length - l.length) (c - l.length) [] rfl (by simp) (by simp) (by simp) (by unfold maxLen; omega) (by omega) hb2.size ?_))
         intro v3 w3 hown3 hgrow3 _
         have hb3 := below_appI hb2 hb2.size HO2.out hgrow3
         have HO3 := qhZ hown3
         clear hown3 hgrow3 HO2 hb2
         go_wp2
         go_ret
         refine ⟨_, l.length, rfl, ?_, hb3⟩
         have hq := HO3.out
         unfold LstI
         simpa [ints] using hq
def kids (ns : List Nod) (x : Int) : List Int := (ns.getD x.toNat ⟨0, 0, 0, 0, 0, [], []⟩).list.map fun e => e.node
inductive Reach (ns : List Nod) (a : Int) : Int → Prop
 | refl : Reach ns a a
 | step {b c : Int} : Reach ns a b → c ∈ kids ns b → Reach ns a c
theorem Reach.from_kid {ns : List Nod} {a b c : Int} (h : b ∈ kids ns a) (hr : Reach ns b c) : Reach ns a c := by
 induction hr with
 | refl => exact .step .refl h
 | step _ hk ih => exact .step ih hk
def Nums (n : Nat) (M : List Int) : Prop := M.Nodup ∧ ∀ x ∈ M, 0 ≤ x ∧ x < n
theorem Nums.len {n : Nat} : ∀ {M : List Int}, Nums n M → M.length ≤ n := by
 induction n with
 | zero => intro M h; cases M with
   | nil => simp
   | cons a r => have := h.2 a (by simp); omega
 | succ n ih =>
   intro M h
   by_cases hm : (n : Int) ∈ M
   · have h1 : Nums n (M.erase n) := ⟨h.1.erase _, fun x hx => by
       rw [h.1.mem_erase_iff] at hx
       have := h.2 x hx.2
       have := hx.1
       omega⟩
     have h2 := ih h1
     rw [List.length_erase_of_mem hm] at h2
     omega
   · have h1 : Nums n M := ⟨h.1, fun x hx => by
       have := h.2 x hx
       have : x ≠ n := fun e => hm (e ▸ hx)
       omega⟩
     have := ih h1
     omega
structure Met (ns : List Nod) (M : List Int) (a : Int) (M' : List Int) : Prop where
 sub : ∀ x ∈ M, x ∈ M'
 has : a ∈ M'
 new : ∀ x ∈ M', x ∉ M → Reach ns a x ∧ ∀ c ∈ kids ns x, c ∈ M'
 nums : Nums ns.length M'
 len : M.length ≤ M'.length
structure MetI (ns : List Nod) (M0 : List Int) (a : Int) (es : List Ent) (j : Nat) (M1 : List Int) : Prop where
 sub : ∀ x ∈ M0, x ∈ M1
 new : ∀ x ∈ M1, x ∉ M0 → Reach ns a x ∧ ∀ c ∈ kids ns x, c ∈ M1
 done : ∀ i (h : i < es.length), i < j → es[i].node ∈ M1
 nums : Nums ns.length M1
 len : M0.length ≤ M1.length
theorem MetI.next {ns : List Nod} {M0 M1 M2 : List Int} {a : Int} {es : List Ent} {j : Nat} (h : MetI ns M0 a es j M1) (hj : j < es.length) (hk : es[j].node ∈ kids ns a) (hm : Met ns M1 es[j].node M2) : MetI ns M0 a es (j + 1) M2 := by
 refine ⟨fun x hx => hm.sub x (h.sub x hx), fun x hx hn => ?_, fun i hi hij => ?_, hm.nums, Nat.le_trans h.len hm.len⟩
 · by_cases h1 : x ∈ M1
   · obtain ⟨r, k⟩ := h.new x h1 hn
     exact ⟨r, fun c hc => hm.sub c (k c hc)⟩
   · obtain ⟨r, k⟩ := hm.new x hx h1
     exact ⟨Reach.from_kid hk r, k⟩
 · rcases Nat.lt_succ_iff_lt_or_eq.1 hij with h1 | rfl
   · exact hm.sub _ (h.done i hi h1)
   · exact hm.has
theorem put_mem {M : List Int} {k : Nat} {a x : Int} : x ∈ M.take k ++ a :: M.drop k ↔ x = a ∨ x ∈ M := by
 have h : x ∈ M ↔ x ∈ M.take k ∨ x ∈ M.drop k := by
   conv => lhs; rw [← List.take_append_drop k M]
   rw [List.mem_append]
 rw [List.mem_append, List.mem_cons, h]
 constructor
 · rintro (h | h | h)
   · exact .inr (.inl h)
   · exact .inl h
   · exact .inr (.inr h)
 · rintro (h | h | h)
   · exact .inr (.inl h)
   · exact .inl h
   · exact .inr (.inr h)
theorem put_nums {n : Nat} {M : List Int} {k : Nat} {a : Int} (h : Nums n M) (ha : a ∉ M) (h0 : 0 ≤ a) (h1 : a < n) : Nums n (M.take k ++ a :: M.drop k) := by
 refine ⟨?_, fun x hx => ?_⟩
 · have hp : (M.take k ++ a :: M.drop k).Perm (a :: M) := by
     have := List.perm_middle (a := a) (l₁ := M.take k) (l₂ := M.drop k)
     rw [List.take_append_drop] at this
     exact this
   rw [hp.nodup_iff]
   exact List.nodup_cons.2 ⟨ha, h.1⟩
 · rcases put_mem.1 hx with rfl | hx
   · exact ⟨h0, h1⟩
   · exact h.2 x hx
theorem hasI_iff {M : List Int} {a : Int} : hasI M a = true ↔ a ∈ M := by
 unfold hasI
 rw [List.any_eq_true]
 constructor
 · rintro ⟨x, hx, e⟩
   have : x = a := by simpa using e
   exact this ▸ hx
 · exact fun h => ⟨a, h, by simp⟩
def Lead (ns : List Nod) : Prop := ∀ n ∈ ns, ∀ e ∈ n.list, 0 ≤ e.node ∧ e.node < ns.length
theorem l3Met_any (f : FsD) (hld : Lead f.nodes) (hs : f.nodes.length ≤ 1048576) (hs2 : ∀ n ∈ f.nodes, n.list.length ≤ 1048576) (d : Nat) : ∀ (M : List Int) (a : Int) (v mv : Value) (w : World), f.nodes.length - M.length = d → FsA w v f → RdI w mv M → Nums f.nodes.length M → 0 ≤ a → a < f.nodes.length →
   Calls Tryz.prog 130 #[v, .int .i64 a, mv] w fun e w' => ∃ v' M', e = .returned v' ∧ RdI w' v' M' ∧ Met f.nodes M a M' ∧ Below w.heap.size w w' := by
 induction d using Nat.strongRecOn with
 | _ d ih =>
 intro M a v mv w hd hR hM hn h0 h1
 have HIH := qhZ ih
 have HLD := qhZ hld
 have HS2 := qhZ hs2
 have HR := qhZ hR
 obtain ⟨nv, rfl, hN⟩ := hR
 obtain ⟨o, c, rfl, hm, hH⟩ := hN
 have HH := qhZ hH
 have HM := qhZ hM
 have HNM := qhZ hn
 obtain ⟨om, cm, rfl, -, -, -, -⟩ := id hM
 have hml := hn.len
 have hbw : Below w.heap.size w (w.alloc (.cells #[.slice o f.nodes.length c, .int .i64 f.room] 30)) := (Below.refl _ _).alloc (Nat.le_refl _) _
 have hk0 := heap_alloc_new w (.cells #[.slice o f.nodes.length c, .int .i64 f.room] 30)
 have HB := qhZ hbw
 have HK := qhZ hk0
 clear ih hld hs2 hH hM hn hbw hk0
 unfold maxLen at hm
 by_cases hh : hasI M a = true
 · have HA := qhZ hh
   go_enter Tryz.func130, Tryz.ntmps130
   go_wp2_with fail
   refine (l1Has_any M a _ _ (HM.out.below HB.out) (by omega)).mono ?_
   rintro e w1 ⟨rfl, rfl⟩
   rw [HA.out]
   go_wp2
   go_ret
   refine ⟨_, M, rfl, HM.out.below HB.out, ⟨fun x hx => hx, hasI_iff.1 HA.out, fun x hx hn => absurd hx hn, HNM.out, Nat.le_refl _⟩, HB.out⟩
 · have HA : Hid (hasI M a = false) := qhZ (by simpa using hh)
   have HAN : Hid (a ∉ M) := qhZ (fun h => hh (hasI_iff.2 h))
   obtain ⟨m, rfl⟩ : ∃ m : Nat, a = m := ⟨a.toNat, by omega⟩
   have hml2 : m < f.nodes.length := by omega
   obtain ⟨g, off, lv, rfl, hg, hcc, he, -⟩ := HH.out m hml2
   have HC6 := qhZ hcc.c6
   obtain ⟨q, hqq⟩ : ∃ q, q = f.nodes[m] := ⟨_, rfl⟩
   have HQ := qhZ hqq
   rw [← hqq] at he
   have HE0 := qhZ he
   obtain ⟨oe, ce, rfl, -, hE⟩ := id he
   have HE := qhZ hE
   have hql : q.list.length ≤ 1048576 := HS2.out q (by rw [HQ.out]; exact List.getElem_mem hml2)
   have HKD : Hid (∀ x, x ∈ kids f.nodes (m : Int) ↔ ∃ i, ∃ h : i < q.list.length, x = q.list[i].node) := qhZ (by
     intro x
     have e1 : f.nodes.getD (m : Int).toNat ⟨0, 0, 0, 0, 0, [], []⟩ = q := by rw [HQ.out]; simp [List.getD, hml2]
     unfold kids
     rw [e1, List.mem_map]
     constructor
     · rintro ⟨e, he, rfl⟩
       obtain ⟨i, hi, rfl⟩ := List.getElem_of_mem he
       exact ⟨i, hi, rfl⟩
     · rintro ⟨i, hi, rfl⟩
       exact ⟨_, List.getElem_mem hi, rfl⟩)
   have HLQ : Hid (∀ i (h : i < q.list.length), 0 ≤ q.list[i].node ∧ q.list[i].node < f.nodes.length) := qhZ (fun i hi => HLD.out q (by rw [HQ.out]; exact List.getElem_mem hml2) _ (List.getElem_mem hi))
   clear hh hqq he hE hcc
   go_enter Tryz.func130, Tryz.ntmps130
   go_wp2_with fail
   refine (l1Has_any M _ _ _ (HM.out.below HB.out) (by omega)).mono ?_
   rintro e w1 ⟨rfl, rfl⟩
   rw [HA.out]
   go_wp2_with fail
   refine (l1Put_any M _ _ _ (HM.out.below HB.out) HAN.out (by omega)).mono ?_
   rintro e w2 ⟨v2, kk, rfl, hL2, hb2⟩
   have HB2 := qhZ (HB.out.trans (hb2.mono HB.out.size))
   have HK2 := qhZ ((hb2.block w.heap.size (aB9 HK.out)).trans HK.out)
   have s0 := (aA9 HK2.out 0).trans rfl
   have d6 := (HB2.out.cell (p := ⟨g, off + m * 7 + 6, none⟩) hg).trans HC6.out
   have HP : Hid (Nums f.nodes.length (M.take kk ++ (m : Int) :: M.drop kk)) := qhZ (put_nums HNM.out HAN.out h0 h1)
   have hlen : (M.take kk ++ (m : Int) :: M.drop kk).length = M.length + 1 := by
     have := congrArg List.length (List.take_append_drop kk M)
     simp only [List.length_append, List.length_cons] at this ⊢
     omega
   have hmax := HP.out.len
   have HL2 := qhZ hL2.read
   obtain ⟨o2, c2, rfl, -, -, -, -⟩ := hL2.read
   obtain ⟨M0, hM0⟩ : ∃ M0, M0 = M.take kk ++ (m : Int) :: M.drop kk := ⟨_, rfl⟩
   have HM0 : Hid (∀ x, x ∈ M0 ↔ x = (m : Int) ∨ x ∈ M) := qhZ (fun x => by rw [hM0]; exact put_mem)
   rw [← hM0] at HP hlen hmax HL2 ⊢
   clear hb2 hL2 hM0
   go_wp2
   go_loopw [2, 23] (fun t i wr => ∃ (j : Nat) (M1 : List Int), j ≤ q.list.length ∧ i = .int .i64 j ∧ RdI wr t M1 ∧ MetI f.nodes M0 (m : Int) q.list j M1 ∧ Below w.heap.size w wr ∧ wr.heap[w.heap.size]? = some (.cells #[.slice (some ⟨g, off, none⟩) f.nodes.length c, .int .i64 f.room] 30)) (fun _ i _ => q.list.length - (intOf i).toNat)
   case atStart => exact ⟨0, M0, Nat.zero_le _, rfl, (by first | exact HL2.out | (rw [← hlen]; exact HL2.out)), ⟨fun x hx => hx, fun x hx hn => absurd hx hn, fun i hi h => absurd h (Nat.not_lt_zero _), HP.out, Nat.le_refl _⟩, HB2.out, HK2.out⟩
   case round =>
     obtain ⟨j, M1, hj, rfl, hR1, hI, hBr, hbr⟩ := hrel
     have HI := qhZ hI
     have HBr := qhZ hBr
     have Hbr := qhZ hbr
     have HR1 := qhZ hR1
     obtain ⟨o3, c3, rfl, -, -, -, -⟩ := hR1
     have hlen1 := hI.len
     clear hI
     by_cases hlt : j < q.list.length
     · obtain ⟨g2, f2, rfl, q2, x2, y2, _⟩ := HE.out j hlt
       have a1 := (hBr.cell (p := ⟨g2, f2 + j * 2, none⟩) q2).trans x2
       have a2 := (hBr.cell (p := ⟨g2, f2 + j * 2 + 1, none⟩) q2).trans y2
       obtain ⟨l1, l2⟩ := HLQ.out j hlt
       have HKJ : Hid (q.list[j].node ∈ kids f.nodes (m : Int)) := qhZ ((HKD.out _).2 ⟨j, hlt, rfl⟩)
       obtain ⟨y, hyy⟩ : ∃ y, y = bs q.list[j].name := ⟨_, rfl⟩
       rw [← hyy] at a1
       obtain ⟨r, hr⟩ : ∃ r, r = q.list[j].node := ⟨_, rfl⟩
       have HRR := qhZ hr
       rw [← hr] at a2 l1 l2 HKJ
       have HW3 : Hid (Below w.heap.size w (wr.alloc (.cells #[.string y, .int .i64 r] 126))) := qhZ (hBr.alloc hBr.size _)
       have HW4 : Hid (Below wr.heap.size wr (wr.alloc (.cells #[.string y, .int .i64 r] 126))) := qhZ ((Below.refl _ _).alloc (Nat.le_refl _) _)
       have hb3 : (wr.alloc (.cells #[.string y, .int .i64 r] 126)).heap[w.heap.size]? = some (.cells #[.slice (some ⟨g, off, none⟩) f.nodes.length c, .int .i64 f.room] 30) := (Below.heap_alloc _ _ _ (aB9 hbr)).trans hbr
       have t0 := (aA9 hb3 0).trans rfl
       have t1 := (aA9 hb3 1).trans rfl
       have b0 := (aA9 hbr 0).trans rfl
       have b1 := (aA9 hbr 1).trans rfl
       have HB3 := qhZ hb3
       have hmax1 := HI.out.nums.len
       clear x2 y2 hyy hr hBr hbr hb3
       go_wp2_with fail
       refine (HIH.out (f.nodes.length - M1.length) (by omega) M1 _ _ _ _ rfl (HR.out.below HW3.out) (HR1.out.below HW4.out) HI.out.nums l1 l2).mono ?_
       rintro e w5 ⟨v5, M2, rfl, hR5, hM5, hb5⟩
       have HR5 := qhZ hR5
       have HI5 := qhZ (MetI.next HI.out hlt (by rw [← HRR.out]; exact HKJ.out) (by rw [← HRR.out]; exact hM5))
       have HB5 := qhZ (HW3.out.trans (hb5.mono HW3.out.size))
       have HK5 := qhZ ((hb5.block w.heap.size (aB9 HB3.out)).trans HB3.out)
       obtain ⟨o5, c5, rfl, -, -, -, -⟩ := hR5
       clear hM5 hb5
       go_wp2
       go_roundw
       case rel => exact ⟨j + 1, M2, hlt, by go_num, HR5.out, HI5.out, HB5.out, HK5.out⟩
       case measure => simp [intOf]; omega
     · go_wp2
       go_ret
       refine ⟨_, M1, rfl, HR1.out, ⟨fun x hx => HI.out.sub x ((HM0.out x).2 (.inr hx)), HI.out.sub _ ((HM0.out _).2 (.inl rfl)), fun x hx hn => ?_, HI.out.nums, by omega⟩, HBr.out⟩
       by_cases h3 : x ∈ M0
       · rcases (HM0.out x).1 h3 with rfl | h4
         · refine ⟨.refl, fun cc hcc => ?_⟩
           obtain ⟨i, hi, rfl⟩ := (HKD.out cc).1 hcc
           exact HI.out.done i hi (by omega)
         · exact absurd h4 hn
       · exact HI.out.new x hx h3
theorem Met.all {ns : List Nod} {a : Int} {M : List Int} (h : Met ns [] a M) (x : Int) : x ∈ M ↔ Reach ns a x := by
 constructor
 · exact fun hx => (h.new x hx (by simp)).1
 · intro hr
   induction hr with
   | refl => exact h.has
   | step _ hk ih => exact (h.new _ ih (by simp)).2 _ hk
end Go.Proofs.YtknhacblialboaaGreatDoor
