/-
  Joined: StatA StatB OfC InoP LookJ InoQ LookQ.
  Conditions: as each states.
-/
import Derived.Deep.RegionHeld3
import Derived.Test.YtpkmkpeabfmbiaaGreatDoorLib5
import Derived.Test.YtpkmkpeabfmbiaaGreatDoorLib12
import Derived.Test.YtpkmkpeabfmbiaaGreatDoorLib16
import Derived.Test.YtpkmkpeabfmbiaaGreatDoorLib19

/-
  The model's l6Stat and the program's statOfNode: what is told of a node.
  Conditions: a good file system of at most 2^20 values and letters together; a node that is there.
-/
namespace Go.Proofs.YtpkmkpeabfmbiaaGreatDoor
open Go.ChangeShapes Go.WideShapes Go.ChangeAt Go.RowKit Go.Joins
set_option linter.unusedVariables false
set_option linter.unusedSimpArgs false

/-- What is told of a node, number by number. -/
def stI (ns : List Nod) (nd : Nat) (k : Nat) : Int :=
  match k with
  | 0 => nd
  | 1 => (nodeAt ns nd).kind
  | 2 => (nodeAt ns nd).mode
  | 3 => (nodeAt ns nd).uid
  | 4 => (nodeAt ns nd).gid
  | 5 => (nodeAt ns nd).time
  | 6 => ((nodeAt ns nd).data.length : Int) + (nodeAt ns nd).list.length
  | _ => (links nd ns : Nat)
def eightV (F : Nat → Int) : Value := .agg #[.int .i64 (F 0), .int .i64 (F 1), .int .i64 (F 2), .int .i64 (F 3), .int .i64 (F 4), .int .i64 (F 5), .int .i64 (F 6), .int .i64 (F 7)]
theorem l3Links_is {f : FsD} {node : Int} {v : Value} {w : World} {n : Nat} (h : links node f.nodes = n) (hR : FsA w v f) (hs : szF f ≤ 1048576) : Calls Tryz.prog 96 #[v, .int .i64 node] w fun e w' => e = .returned (.int .i64 (n : Int)) ∧ Below w.heap.size w w' := by
  rw [← h]; exact l3Links_any f node v w hR hs

theorem sal3_0 (w : World) (a b c : Obj) : (((w.alloc a).alloc b).alloc c).heap[w.heap.size]? = some a := by
  rw [Below.heap_alloc _ c _ (by simp; omega), Below.heap_alloc _ b _ (by simp)]
  exact heap_alloc_new w a
theorem sal3_1 (w : World) (a b c : Obj) : (((w.alloc a).alloc b).alloc c).heap[w.heap.size + 1]? = some b := by
  rw [Below.heap_alloc _ c _ (by simp)]
  have h := heap_alloc_new (w.alloc a) b
  rw [World.size_alloc] at h
  exact h
theorem sal3_2 (w : World) (a b c : Obj) : (((w.alloc a).alloc b).alloc c).heap[w.heap.size + 2]? = some c := by
  have h := heap_alloc_new ((w.alloc a).alloc b) c
  rw [World.size_alloc, World.size_alloc] at h
  exact h
theorem eight_set {w : World} {G : Nat} {x0 x1 x2 x3 x4 x5 x6 x7 : Value} {T : TypeId} (h : w.heap[G]? = some (.cells #[x0, x1, x2, x3, x4, x5, x6, x7] T (0, 0))) (a0 a1 a2 a3 a4 a5 a6 a7 : Value) : ((((((((w.setCell ⟨G, 0, none⟩ a0).setCell ⟨G, 1, none⟩ a1).setCell ⟨G, 2, none⟩ a2).setCell ⟨G, 3, none⟩ a3).setCell ⟨G, 4, none⟩ a4).setCell ⟨G, 5, none⟩ a5).setCell ⟨G, 6, none⟩ a6).setCell ⟨G, 7, none⟩ a7).heap[G]? = some (.cells #[a0, a1, a2, a3, a4, a5, a6, a7] T (0, 0)) := by
  have h1 : (w.setCell ⟨G, 0, none⟩ a0).heap[G]? = some (.cells #[a0, x1, x2, x3, x4, x5, x6, x7] T (0, 0)) := heap_setCell_same _ G 0 _ T a0 h
  have h2 : ((w.setCell ⟨G, 0, none⟩ a0).setCell ⟨G, 1, none⟩ a1).heap[G]? = some (.cells #[a0, a1, x2, x3, x4, x5, x6, x7] T (0, 0)) := heap_setCell_same _ G 1 _ T a1 h1
  have h3 : (((w.setCell ⟨G, 0, none⟩ a0).setCell ⟨G, 1, none⟩ a1).setCell ⟨G, 2, none⟩ a2).heap[G]? = some (.cells #[a0, a1, a2, x3, x4, x5, x6, x7] T (0, 0)) := heap_setCell_same _ G 2 _ T a2 h2
  have h4 : ((((w.setCell ⟨G, 0, none⟩ a0).setCell ⟨G, 1, none⟩ a1).setCell ⟨G, 2, none⟩ a2).setCell ⟨G, 3, none⟩ a3).heap[G]? = some (.cells #[a0, a1, a2, a3, x4, x5, x6, x7] T (0, 0)) := heap_setCell_same _ G 3 _ T a3 h3
  have h5 : (((((w.setCell ⟨G, 0, none⟩ a0).setCell ⟨G, 1, none⟩ a1).setCell ⟨G, 2, none⟩ a2).setCell ⟨G, 3, none⟩ a3).setCell ⟨G, 4, none⟩ a4).heap[G]? = some (.cells #[a0, a1, a2, a3, a4, x5, x6, x7] T (0, 0)) := heap_setCell_same _ G 4 _ T a4 h4
  have h6 : ((((((w.setCell ⟨G, 0, none⟩ a0).setCell ⟨G, 1, none⟩ a1).setCell ⟨G, 2, none⟩ a2).setCell ⟨G, 3, none⟩ a3).setCell ⟨G, 4, none⟩ a4).setCell ⟨G, 5, none⟩ a5).heap[G]? = some (.cells #[a0, a1, a2, a3, a4, a5, x6, x7] T (0, 0)) := heap_setCell_same _ G 5 _ T a5 h5
  have h7 : (((((((w.setCell ⟨G, 0, none⟩ a0).setCell ⟨G, 1, none⟩ a1).setCell ⟨G, 2, none⟩ a2).setCell ⟨G, 3, none⟩ a3).setCell ⟨G, 4, none⟩ a4).setCell ⟨G, 5, none⟩ a5).setCell ⟨G, 6, none⟩ a6).heap[G]? = some (.cells #[a0, a1, a2, a3, a4, a5, a6, x7] T (0, 0)) := heap_setCell_same _ G 6 _ T a6 h6
  have h8 : ((((((((w.setCell ⟨G, 0, none⟩ a0).setCell ⟨G, 1, none⟩ a1).setCell ⟨G, 2, none⟩ a2).setCell ⟨G, 3, none⟩ a3).setCell ⟨G, 4, none⟩ a4).setCell ⟨G, 5, none⟩ a5).setCell ⟨G, 6, none⟩ a6).setCell ⟨G, 7, none⟩ a7).heap[G]? = some (.cells #[a0, a1, a2, a3, a4, a5, a6, a7] T (0, 0)) := heap_setCell_same _ G 7 _ T a7 h7
  exact h8
theorem eight_below {v w : World} {G B : Nat} (h : Below B v w) (hB : B ≤ G) (a0 a1 a2 a3 a4 a5 a6 a7 : Value) : Below B v ((((((((w.setCell ⟨G, 0, none⟩ a0).setCell ⟨G, 1, none⟩ a1).setCell ⟨G, 2, none⟩ a2).setCell ⟨G, 3, none⟩ a3).setCell ⟨G, 4, none⟩ a4).setCell ⟨G, 5, none⟩ a5).setCell ⟨G, 6, none⟩ a6).setCell ⟨G, 7, none⟩ a7) :=
  (((((((h.setCell (p := ⟨G, 0, none⟩) hB _).setCell (p := ⟨G, 1, none⟩) hB _).setCell (p := ⟨G, 2, none⟩) hB _).setCell (p := ⟨G, 3, none⟩) hB _).setCell (p := ⟨G, 4, none⟩) hB _).setCell (p := ⟨G, 5, none⟩) hB _).setCell (p := ⟨G, 6, none⟩) hB _).setCell (p := ⟨G, 7, none⟩) hB _
theorem eight_ne {w : World} {G i : Nat} (h : i ≠ G) (k : Nat) (a0 a1 a2 a3 a4 a5 a6 a7 : Value) : ((((((((w.setCell ⟨G, 0, none⟩ a0).setCell ⟨G, 1, none⟩ a1).setCell ⟨G, 2, none⟩ a2).setCell ⟨G, 3, none⟩ a3).setCell ⟨G, 4, none⟩ a4).setCell ⟨G, 5, none⟩ a5).setCell ⟨G, 6, none⟩ a6).setCell ⟨G, 7, none⟩ a7).cell? ⟨i, k, none⟩ = w.cell? ⟨i, k, none⟩ := by
  have hne : ∀ j : Nat, (⟨G, j, none⟩ : Addr) ≠ ⟨i, k, none⟩ := fun j e => h (by cases e; rfl)
  rw [World.cell?_setCell_other _ _ _ _ (hne 7), World.cell?_setCell_other _ _ _ _ (hne 6), World.cell?_setCell_other _ _ _ _ (hne 5), World.cell?_setCell_other _ _ _ _ (hne 4), World.cell?_setCell_other _ _ _ _ (hne 3), World.cell?_setCell_other _ _ _ _ (hne 2), World.cell?_setCell_other _ _ _ _ (hne 1), World.cell?_setCell_other _ _ _ _ (hne 0)]
set_option maxRecDepth 100000 in
set_option maxHeartbeats 4000000 in
theorem l6Stat_any (f : FsD) (v : Value) (nd : Nat) (w : World) (hR : FsA w v f) (hs : szF f ≤ 1048576) (hlt : nd < f.nodes.length) : Calls Tryz.prog 49 #[v, .int .i64 (nd : Int)] w fun e w' => e = .returned (eightV (stI f.nodes nd)) ∧ Below w.heap.size w w' := by
  have HR := Lib.hid hR
  obtain ⟨nv, rfl, hN⟩ := hR
  obtain ⟨o, c, rfl, hm, hH⟩ := hN
  unfold maxLen at hm
  have HS := Lib.hid hs
  have hl : f.nodes.length ≤ 1048576 := (lists_small hs).1
  have hq9 : f.nodes[nd] = nodeAt f.nodes nd := (getD_at hlt).symm
  have hsm := (lists_small hs).2 _ (List.getElem_mem hlt)
  obtain ⟨g3, f3, lv3, rfl, hg3, hcc, hee, -⟩ := hH nd hlt
  rw [hq9] at hcc hee hsm
  obtain ⟨q, hq⟩ : ∃ q, q = nodeAt f.nodes nd := ⟨_, rfl⟩
  rw [← hq] at hcc hee hsm
  have hsm1 := hsm.1
  have hsm2 := hsm.2.1
  obtain ⟨n, hn⟩ : ∃ n, links (nd : Int) f.nodes = n := ⟨_, rfl⟩
  have HLN := Lib.hid hn
  obtain ⟨x, hx⟩ : ∃ x, x = bs q.data := ⟨_, rfl⟩
  have hxs : x.size = q.data.length := by rw [hx]; simp [bs, ByteArray.size]
  have HV : Hid (eightV (stI f.nodes nd) = .agg #[.int .i64 (nd : Int), .int .i64 q.kind, .int .i64 q.mode, .int .i64 q.uid, .int .i64 q.gid, .int .i64 q.time, .int .i64 ((x.size : Int) + q.list.length), .int .i64 (n : Int)]) := Lib.hid (by
    unfold eightV stI
    simp only [← hq, hn, hxs])
  obtain ⟨o2, c2, rfl, -, -⟩ := hee
  have hxb : x.size ≤ 1048576 := by omega
  have HXS := Lib.hid hxs
  have hb0 : Below w.heap.size w ((w.alloc (.cells #[.slice (some ⟨g3, f3, none⟩) f.nodes.length c, .int .i64 f.room] 34)).alloc (.cells #[.int .i64 0, .int .i64 0, .int .i64 0, .int .i64 0, .int .i64 0, .int .i64 0, .int .i64 0, .int .i64 0] 46)) := ((Below.refl _ _).alloc (Nat.le_refl _) _).alloc (by simp) _
  have HB0 := Lib.hid hb0
  have hcc0 := hcc.below hb0 hg3
  obtain ⟨d0, d1, d2, d3, d4, d5, d6⟩ := hcc0
  rw [← hx] at d5
  clear hH hs hcc hq hq9 hn hx hsm hb0 hxs
  go_enter Tryz.func49, Tryz.ntmps49
  go_wp2
  have hbw : Below w.heap.size w (((w.alloc (.cells #[.slice (some ⟨g3, f3, none⟩) f.nodes.length c, .int .i64 f.room] 34)).alloc (.cells #[.int .i64 0, .int .i64 0, .int .i64 0, .int .i64 0, .int .i64 0, .int .i64 0, .int .i64 0, .int .i64 0] 46)).alloc (.cells #[.int .i64 q.kind, .int .i64 q.mode, .int .i64 q.uid, .int .i64 q.gid, .int .i64 q.time, .string x, .slice o2 q.list.length c2] 91)) := (((Below.refl _ _).alloc (Nat.le_refl _) _).alloc (by simp) _).alloc (by simp; omega) _
  have hA := sal3_0 w (.cells #[.slice (some ⟨g3, f3, none⟩) f.nodes.length c, .int .i64 f.room] 34) (.cells #[.int .i64 0, .int .i64 0, .int .i64 0, .int .i64 0, .int .i64 0, .int .i64 0, .int .i64 0, .int .i64 0] 46) (.cells #[.int .i64 q.kind, .int .i64 q.mode, .int .i64 q.uid, .int .i64 q.gid, .int .i64 q.time, .string x, .slice o2 q.list.length c2] 91)
  have hZ := sal3_1 w (.cells #[.slice (some ⟨g3, f3, none⟩) f.nodes.length c, .int .i64 f.room] 34) (.cells #[.int .i64 0, .int .i64 0, .int .i64 0, .int .i64 0, .int .i64 0, .int .i64 0, .int .i64 0, .int .i64 0] 46) (.cells #[.int .i64 q.kind, .int .i64 q.mode, .int .i64 q.uid, .int .i64 q.gid, .int .i64 q.time, .string x, .slice o2 q.list.length c2] 91)
  have hX := sal3_2 w (.cells #[.slice (some ⟨g3, f3, none⟩) f.nodes.length c, .int .i64 f.room] 34) (.cells #[.int .i64 0, .int .i64 0, .int .i64 0, .int .i64 0, .int .i64 0, .int .i64 0, .int .i64 0, .int .i64 0] 46) (.cells #[.int .i64 q.kind, .int .i64 q.mode, .int .i64 q.uid, .int .i64 q.gid, .int .i64 q.time, .string x, .slice o2 q.list.length c2] 91)
  obtain ⟨W, hW⟩ : ∃ W, ((w.alloc (.cells #[.slice (some ⟨g3, f3, none⟩) f.nodes.length c, .int .i64 f.room] 34)).alloc (.cells #[.int .i64 0, .int .i64 0, .int .i64 0, .int .i64 0, .int .i64 0, .int .i64 0, .int .i64 0, .int .i64 0] 46)).alloc (.cells #[.int .i64 q.kind, .int .i64 q.mode, .int .i64 q.uid, .int .i64 q.gid, .int .i64 q.time, .string x, .slice o2 q.list.length c2] 91) = W := ⟨_, rfl⟩
  rw [hW] at hbw hA hZ hX ⊢
  have HBW := Lib.hid hbw.drew
  have HA := Lib.hid hA
  have HZ := Lib.hid hZ
  have HX := Lib.hid hX
  have pa0 : W.cell? ⟨w.heap.size, 0, none⟩ = some (.slice (some ⟨g3, f3, none⟩) f.nodes.length c) := cell_blk hA 0
  have pa1 : W.cell? ⟨w.heap.size, 1, none⟩ = some (.int .i64 f.room) := cell_blk hA 1
  have px0 : W.cell? ⟨w.heap.size + 2, 0, none⟩ = some (.int .i64 q.kind) := cell_blk hX 0
  have px1 : W.cell? ⟨w.heap.size + 2, 1, none⟩ = some (.int .i64 q.mode) := cell_blk hX 1
  have px2 : W.cell? ⟨w.heap.size + 2, 2, none⟩ = some (.int .i64 q.uid) := cell_blk hX 2
  have px3 : W.cell? ⟨w.heap.size + 2, 3, none⟩ = some (.int .i64 q.gid) := cell_blk hX 3
  have px4 : W.cell? ⟨w.heap.size + 2, 4, none⟩ = some (.int .i64 q.time) := cell_blk hX 4
  have px5 : W.cell? ⟨w.heap.size + 2, 5, none⟩ = some (.string x) := cell_blk hX 5
  have px6 : W.cell? ⟨w.heap.size + 2, 6, none⟩ = some (.slice o2 q.list.length c2) := cell_blk hX 6
  have qa0 : W.drew.cell? ⟨w.heap.size, 0, none⟩ = some (.slice (some ⟨g3, f3, none⟩) f.nodes.length c) := pa0
  have qa1 : W.drew.cell? ⟨w.heap.size, 1, none⟩ = some (.int .i64 f.room) := pa1
  have qx0 : W.drew.cell? ⟨w.heap.size + 2, 0, none⟩ = some (.int .i64 q.kind) := px0
  have qx1 : W.drew.cell? ⟨w.heap.size + 2, 1, none⟩ = some (.int .i64 q.mode) := px1
  have qx2 : W.drew.cell? ⟨w.heap.size + 2, 2, none⟩ = some (.int .i64 q.uid) := px2
  have qx3 : W.drew.cell? ⟨w.heap.size + 2, 3, none⟩ = some (.int .i64 q.gid) := px3
  have qx4 : W.drew.cell? ⟨w.heap.size + 2, 4, none⟩ = some (.int .i64 q.time) := px4
  have qx5 : W.drew.cell? ⟨w.heap.size + 2, 5, none⟩ = some (.string x) := px5
  have qx6 : W.drew.cell? ⟨w.heap.size + 2, 6, none⟩ = some (.slice o2 q.list.length c2) := px6
  clear hW hbw hA hZ hX d0 d1 d2 d3 d4 d5 d6
  go_region_held3 (fun w' => w'.cell? ⟨w.heap.size, 0, none⟩ = some (.slice (some ⟨g3, f3, none⟩) f.nodes.length c) ∧ w'.cell? ⟨w.heap.size, 1, none⟩ = some (.int .i64 f.room) ∧ w'.cell? ⟨w.heap.size + 2, 0, none⟩ = some (.int .i64 q.kind) ∧ w'.cell? ⟨w.heap.size + 2, 1, none⟩ = some (.int .i64 q.mode) ∧ w'.cell? ⟨w.heap.size + 2, 2, none⟩ = some (.int .i64 q.uid) ∧ w'.cell? ⟨w.heap.size + 2, 3, none⟩ = some (.int .i64 q.gid) ∧ w'.cell? ⟨w.heap.size + 2, 4, none⟩ = some (.int .i64 q.time) ∧ w'.cell? ⟨w.heap.size + 2, 5, none⟩ = some (.string x) ∧ w'.cell? ⟨w.heap.size + 2, 6, none⟩ = some (.slice o2 q.list.length c2)) (first | (with_reducible exact ⟨qa0, qa1, qx0, qx1, qx2, qx3, qx4, qx5, qx6⟩) | (with_reducible exact ⟨ra0, ra1, rx0, rx1, rx2, rx3, rx4, rx5, rx6⟩) | (with_reducible exact ⟨(eight_ne (by omega) _ _ _ _ _ _ _ _ _).trans ra0, (eight_ne (by omega) _ _ _ _ _ _ _ _ _).trans ra1, (eight_ne (by omega) _ _ _ _ _ _ _ _ _).trans rx0, (eight_ne (by omega) _ _ _ _ _ _ _ _ _).trans rx1, (eight_ne (by omega) _ _ _ _ _ _ _ _ _).trans rx2, (eight_ne (by omega) _ _ _ _ _ _ _ _ _).trans rx3, (eight_ne (by omega) _ _ _ _ _ _ _ _ _).trans rx4, (eight_ne (by omega) _ _ _ _ _ _ _ _ _).trans rx5, (eight_ne (by omega) _ _ _ _ _ _ _ _ _).trans rx6⟩))
    (first
      | (go_at_call 96; refine (l3Links_is HLN.out (HR.out.below HBW.out) HS.out).mono ?_; rintro e w5 ⟨rfl, hb5⟩; have HB5 := Lib.hid (HBW.out.trans (hb5.mono HBW.out.size)); have HA5 := Lib.hid ((hb5.block _ (lt_of_heap HA.out)).trans HA.out); have HZ5 := Lib.hid ((hb5.block _ (lt_of_heap HZ.out)).trans HZ.out); have HX5 := Lib.hid ((hb5.block _ (lt_of_heap HX.out)).trans HX.out); have ra0 : w5.cell? ⟨w.heap.size, 0, none⟩ = some (.slice (some ⟨g3, f3, none⟩) f.nodes.length c) := cell_blk HA5.out 0; have ra1 : w5.cell? ⟨w.heap.size, 1, none⟩ = some (.int .i64 f.room) := cell_blk HA5.out 1; have rx0 : w5.cell? ⟨w.heap.size + 2, 0, none⟩ = some (.int .i64 q.kind) := cell_blk HX5.out 0; have rx1 : w5.cell? ⟨w.heap.size + 2, 1, none⟩ = some (.int .i64 q.mode) := cell_blk HX5.out 1; have rx2 : w5.cell? ⟨w.heap.size + 2, 2, none⟩ = some (.int .i64 q.uid) := cell_blk HX5.out 2; have rx3 : w5.cell? ⟨w.heap.size + 2, 3, none⟩ = some (.int .i64 q.gid) := cell_blk HX5.out 3; have rx4 : w5.cell? ⟨w.heap.size + 2, 4, none⟩ = some (.int .i64 q.time) := cell_blk HX5.out 4; have rx5 : w5.cell? ⟨w.heap.size + 2, 5, none⟩ = some (.string x) := cell_blk HX5.out 5; have rx6 : w5.cell? ⟨w.heap.size + 2, 6, none⟩ = some (.slice o2 q.list.length c2) := cell_blk HX5.out 6; have z0 : w5.cell? ⟨w.heap.size + 1, 0, none⟩ = some (.int .i64 0) := cell_blk HZ5.out 0; have z1 : w5.cell? ⟨w.heap.size + 1, 1, none⟩ = some (.int .i64 0) := cell_blk HZ5.out 1; have z2 : w5.cell? ⟨w.heap.size + 1, 2, none⟩ = some (.int .i64 0) := cell_blk HZ5.out 2; have z3 : w5.cell? ⟨w.heap.size + 1, 3, none⟩ = some (.int .i64 0) := cell_blk HZ5.out 3; have z4 : w5.cell? ⟨w.heap.size + 1, 4, none⟩ = some (.int .i64 0) := cell_blk HZ5.out 4; have z5 : w5.cell? ⟨w.heap.size + 1, 5, none⟩ = some (.int .i64 0) := cell_blk HZ5.out 5; have z6 : w5.cell? ⟨w.heap.size + 1, 6, none⟩ = some (.int .i64 0) := cell_blk HZ5.out 6; have z7 : w5.cell? ⟨w.heap.size + 1, 7, none⟩ = some (.int .i64 0) := cell_blk HZ5.out 7; have zf := frozen_blk HZ5.out; clear hb5))
  all_goals
    go_wp2
    have hwr : IntKind.i64.wrap ((x.size : Int) + q.list.length) = (x.size : Int) + q.list.length := IntWalk.i64_in _ (by omega)
    have hy := eight_set HZ5.out (.int .i64 (nd : Int)) (.int .i64 q.kind) (.int .i64 q.mode) (.int .i64 q.uid) (.int .i64 q.gid) (.int .i64 q.time) (.int .i64 (IntKind.i64.wrap ((x.size : Int) + q.list.length))) (.int .i64 (n : Int))
    have hbl := eight_below HB5.out (Nat.le_succ _) (.int .i64 (nd : Int)) (.int .i64 q.kind) (.int .i64 q.mode) (.int .i64 q.uid) (.int .i64 q.gid) (.int .i64 q.time) (.int .i64 (IntKind.i64.wrap ((x.size : Int) + q.list.length))) (.int .i64 (n : Int))
    obtain ⟨W9, hW9⟩ : ∃ W9, ((((((((w5.setCell ⟨w.heap.size + 1, 0, none⟩ (.int .i64 (nd : Int))).setCell ⟨w.heap.size + 1, 1, none⟩ (.int .i64 q.kind)).setCell ⟨w.heap.size + 1, 2, none⟩ (.int .i64 q.mode)).setCell ⟨w.heap.size + 1, 3, none⟩ (.int .i64 q.uid)).setCell ⟨w.heap.size + 1, 4, none⟩ (.int .i64 q.gid)).setCell ⟨w.heap.size + 1, 5, none⟩ (.int .i64 q.time)).setCell ⟨w.heap.size + 1, 6, none⟩ (.int .i64 (IntKind.i64.wrap ((x.size : Int) + q.list.length)))).setCell ⟨w.heap.size + 1, 7, none⟩ (.int .i64 (n : Int))) = W9 := ⟨_, rfl⟩
    rw [hW9] at hy hbl ⊢
    clear hW9
    have y0 : W9.cell? ⟨w.heap.size + 1, 0, none⟩ = some (.int .i64 (nd : Int)) := cell_blk hy 0
    have y1 : W9.cell? ⟨w.heap.size + 1, 1, none⟩ = some (.int .i64 q.kind) := cell_blk hy 1
    have y2 : W9.cell? ⟨w.heap.size + 1, 2, none⟩ = some (.int .i64 q.mode) := cell_blk hy 2
    have y3 : W9.cell? ⟨w.heap.size + 1, 3, none⟩ = some (.int .i64 q.uid) := cell_blk hy 3
    have y4 : W9.cell? ⟨w.heap.size + 1, 4, none⟩ = some (.int .i64 q.gid) := cell_blk hy 4
    have y5 : W9.cell? ⟨w.heap.size + 1, 5, none⟩ = some (.int .i64 q.time) := cell_blk hy 5
    have y6 : W9.cell? ⟨w.heap.size + 1, 6, none⟩ = some (.int .i64 (IntKind.i64.wrap ((x.size : Int) + q.list.length))) := cell_blk hy 6
    have y7 : W9.cell? ⟨w.heap.size + 1, 7, none⟩ = some (.int .i64 (n : Int)) := cell_blk hy 7
    refine bodyPost_ret (v := .agg #[.int .i64 (nd : Int), .int .i64 q.kind, .int .i64 q.mode, .int .i64 q.uid, .int .i64 q.gid, .int .i64 q.time, .int .i64 (IntKind.i64.wrap ((x.size : Int) + q.list.length)), .int .i64 (n : Int)]) (by simp [results, Tryz.results49, go_sem, y0, y1, y2, y3, y4, y5, y6, y7]) rfl ?_
    exact ⟨by rw [HV.out, hwr], hbl⟩
end Go.Proofs.YtpkmkpeabfmbiaaGreatDoor


/-
  The program's statOfNode: what is told of a node.
  Conditions: a good file system of at most 2^20 values and letters together; a node that is there.
-/
namespace Go.Proofs.YtpkmkpeabfmbiaaGreatDoor
open Go.ChangeShapes Go.WideShapes Go.ChangeAt Go.RowKit Go.Joins
set_option linter.unusedVariables false
set_option linter.unusedSimpArgs false

theorem al2_1G (w : World) (a b : Obj) : ((w.alloc a).alloc b).heap[w.heap.size + 1]? = some b := by
  have h := heap_alloc_new (w.alloc a) b
  rw [World.size_alloc] at h
  exact h
theorem al2_0G (w : World) (a b : Obj) : ((w.alloc a).alloc b).heap[w.heap.size]? = some a := by
  rw [Below.heap_alloc (w.alloc a) b w.heap.size (by simp)]; exact heap_alloc_new w a
set_option maxRecDepth 100000 in
set_option maxHeartbeats 4000000 in
theorem statOfNode_any (f : FsD) (v : Value) (nd : Nat) (w : World) (hR : FsA w v f) (hs : szF f ≤ 1048576) (hlt : nd < f.nodes.length) (hg : goodF f = true) : Calls Tryz.prog 50 #[v, .int .i64 (nd : Int)] w fun e w' => e = .returned (eightV (stI f.nodes nd)) ∧ Below w.heap.size w w' := by
  have HR := Lib.hid hR
  have HLD := Lib.hid (good_lead hg)
  have HSZ : Hid (szNs f.nodes ≤ 1048576) := Lib.hid (by unfold szF at hs; omega)
  obtain ⟨nv, rfl, hN⟩ := hR
  have HN := Lib.hid hN
  obtain ⟨o, c, rfl, hm, hH⟩ := hN
  unfold maxLen at hm
  have HS := Lib.hid hs
  have hl : f.nodes.length ≤ 1048576 := (lists_small hs).1
  have hq9 : f.nodes[nd] = nodeAt f.nodes nd := (getD_at hlt).symm
  have hsm := (lists_small hs).2 _ (List.getElem_mem hlt)
  obtain ⟨g3, f3, lv3, rfl, hg3, hcc, hee, -⟩ := hH nd hlt
  rw [hq9] at hcc hee hsm
  obtain ⟨q, hq⟩ : ∃ q, q = nodeAt f.nodes nd := ⟨_, rfl⟩
  rw [← hq] at hcc hee hsm
  have hsm1 := hsm.1
  have hsm2 := hsm.2.1
  obtain ⟨n, hn⟩ : ∃ n, links (nd : Int) f.nodes = n := ⟨_, rfl⟩
  have HLN := Lib.hid hn
  obtain ⟨x, hx⟩ : ∃ x, x = bs q.data := ⟨_, rfl⟩
  have hxs : x.size = q.data.length := by rw [hx]; simp [bs, ByteArray.size]
  have HV : Hid (eightV (stI f.nodes nd) = .agg #[.int .i64 (nd : Int), .int .i64 q.kind, .int .i64 q.mode, .int .i64 q.uid, .int .i64 q.gid, .int .i64 q.time, .int .i64 ((x.size : Int) + q.list.length), .int .i64 (n : Int)]) := Lib.hid (by
    unfold eightV stI
    simp only [← hq, hn, hxs])
  obtain ⟨o2, c2, rfl, -, -⟩ := hee
  have hxb : x.size ≤ 1048576 := by omega
  have HXS := Lib.hid hxs
  have hb0 : Below w.heap.size w ((w.alloc (.cells #[.slice (some ⟨g3, f3, none⟩) f.nodes.length c, .int .i64 f.room] 34)).alloc (.cells #[.int .i64 0, .int .i64 0, .int .i64 0, .int .i64 0, .int .i64 0, .int .i64 0, .int .i64 0, .int .i64 0] 46)) := ((Below.refl _ _).alloc (Nat.le_refl _) _).alloc (by simp) _
  have HB0 := Lib.hid hb0
  have hcc0 := hcc.below hb0 hg3
  obtain ⟨d0, d1, d2, d3, d4, d5, d6⟩ := hcc0
  rw [← hx] at d5
  clear hH hs hcc hq hq9 hn hx hsm hb0 hxs
  go_enter Tryz.func50, Tryz.ntmps50
  go_wp2
  have hbw : Below w.heap.size w ((w.alloc (.cells #[.slice (some ⟨g3, f3, none⟩) f.nodes.length c, .int .i64 f.room] 34)).alloc (.cells #[.int .i64 0, .int .i64 0, .int .i64 0, .int .i64 0, .int .i64 0, .int .i64 0, .int .i64 0, .int .i64 0] 46)) := ((Below.refl _ _).alloc (Nat.le_refl _) _).alloc (by simp) _
  have hA := al2_0G w (.cells #[.slice (some ⟨g3, f3, none⟩) f.nodes.length c, .int .i64 f.room] 34) (.cells #[.int .i64 0, .int .i64 0, .int .i64 0, .int .i64 0, .int .i64 0, .int .i64 0, .int .i64 0, .int .i64 0] 46)
  have hZ := al2_1G w (.cells #[.slice (some ⟨g3, f3, none⟩) f.nodes.length c, .int .i64 f.room] 34) (.cells #[.int .i64 0, .int .i64 0, .int .i64 0, .int .i64 0, .int .i64 0, .int .i64 0, .int .i64 0, .int .i64 0] 46)
  obtain ⟨W, hW⟩ : ∃ W, (w.alloc (.cells #[.slice (some ⟨g3, f3, none⟩) f.nodes.length c, .int .i64 f.room] 34)).alloc (.cells #[.int .i64 0, .int .i64 0, .int .i64 0, .int .i64 0, .int .i64 0, .int .i64 0, .int .i64 0, .int .i64 0] 46) = W := ⟨_, rfl⟩
  rw [hW] at hbw hA hZ d0 d1 d2 d3 d4 d5 d6 ⊢
  have HBW := Lib.hid hbw.drew
  have HA := Lib.hid hA
  have HZ := Lib.hid hZ
  have pa0 : W.cell? ⟨w.heap.size, 0, none⟩ = some (.slice (some ⟨g3, f3, none⟩) f.nodes.length c) := cell_blk hA 0
  have pa1 : W.cell? ⟨w.heap.size, 1, none⟩ = some (.int .i64 f.room) := cell_blk hA 1
  have qa0 : W.drew.cell? ⟨w.heap.size, 0, none⟩ = some (.slice (some ⟨g3, f3, none⟩) f.nodes.length c) := pa0
  have qa1 : W.drew.cell? ⟨w.heap.size, 1, none⟩ = some (.int .i64 f.room) := pa1
  have qx0 : W.drew.cell? ⟨g3, f3 + nd * 7, none⟩ = some (.int .i64 q.kind) := d0
  have qx1 : W.drew.cell? ⟨g3, f3 + nd * 7 + 1, none⟩ = some (.int .i64 q.mode) := d1
  have qx2 : W.drew.cell? ⟨g3, f3 + nd * 7 + 2, none⟩ = some (.int .i64 q.uid) := d2
  have qx3 : W.drew.cell? ⟨g3, f3 + nd * 7 + 3, none⟩ = some (.int .i64 q.gid) := d3
  have qx4 : W.drew.cell? ⟨g3, f3 + nd * 7 + 4, none⟩ = some (.int .i64 q.time) := d4
  have qx5 : W.drew.cell? ⟨g3, f3 + nd * 7 + 5, none⟩ = some (.string x) := d5
  have qx6 : W.drew.cell? ⟨g3, f3 + nd * 7 + 6, none⟩ = some (.slice o2 q.list.length c2) := d6
  have HQ0 := Lib.hid qx0
  have HQ1 := Lib.hid qx1
  have HQ2 := Lib.hid qx2
  have HQ3 := Lib.hid qx3
  have HQ4 := Lib.hid qx4
  have HQ5 := Lib.hid qx5
  have HQ6 := Lib.hid qx6
  have hgW : g3 < W.drew.heap.size := Nat.lt_of_lt_of_le hg3 hbw.size
  clear hW hbw hA hZ
  refine wp_region_noPanic ?_
  refine wp_region_held_drew (S := (fun w' => w'.cell? ⟨w.heap.size, 0, none⟩ = some (.slice (some ⟨g3, f3, none⟩) f.nodes.length c) ∧ w'.cell? ⟨w.heap.size, 1, none⟩ = some (.int .i64 f.room) ∧ w'.cell? ⟨g3, f3 + nd * 7, none⟩ = some (.int .i64 q.kind) ∧ w'.cell? ⟨g3, f3 + nd * 7 + 1, none⟩ = some (.int .i64 q.mode) ∧ w'.cell? ⟨g3, f3 + nd * 7 + 2, none⟩ = some (.int .i64 q.uid) ∧ w'.cell? ⟨g3, f3 + nd * 7 + 3, none⟩ = some (.int .i64 q.gid) ∧ w'.cell? ⟨g3, f3 + nd * 7 + 4, none⟩ = some (.int .i64 q.time) ∧ w'.cell? ⟨g3, f3 + nd * 7 + 5, none⟩ = some (.string x) ∧ w'.cell? ⟨g3, f3 + nd * 7 + 6, none⟩ = some (.slice o2 q.list.length c2))) (by kernel_rfl) ⟨qa0, qa1, qx0, qx1, qx2, qx3, qx4, qx5, qx6⟩ (fun hHeld => ?_)
  refine wpAnyH_take (i := 0) (v := ?_) rfl (by kernel_rfl) (by kernel_rfl) (by kernel_rfl) (fun _ _ _ h => h) (Or.inl ⟨by rfl, ?_⟩) (by assumption) ?_
  rotate_left
  · (intro w9 hSw; obtain ⟨g1, g2, g3, g4, g5, g6, g7, g8, g9⟩ := hSw; go_simp; try with_reducible rfl)
  try simp only [Act.put, List.setIfInBounds_toArray, List.set_cons_zero, List.set_cons_succ]
  refine wpAnyH_take (i := 1) (v := ?_) rfl (by kernel_rfl) (by kernel_rfl) (by kernel_rfl) (fun _ _ _ h => h) (Or.inl ⟨by rfl, ?_⟩) (by assumption) ?_
  rotate_left
  · (intro w9 hSw; obtain ⟨g1, g2, g3, g4, g5, g6, g7, g8, g9⟩ := hSw; go_simp; try with_reducible rfl)
  try simp only [Act.put, List.setIfInBounds_toArray, List.set_cons_zero, List.set_cons_succ]
  refine wpAnyH_take (i := 2) (v := ?_) rfl (by kernel_rfl) (by kernel_rfl) (by kernel_rfl) (fun _ _ _ h => h) (Or.inl ⟨by rfl, ?_⟩) (by assumption) ?_
  rotate_left
  · (intro w9 hSw; obtain ⟨g1, g2, g3, g4, g5, g6, g7, g8, g9⟩ := hSw; go_simp; try with_reducible rfl)
  try simp only [Act.put, List.setIfInBounds_toArray, List.set_cons_zero, List.set_cons_succ]
  refine wpAnyH_take (i := 3) (v := ?_) rfl (by kernel_rfl) (by kernel_rfl) (by kernel_rfl) (fun _ _ _ h => h) (Or.inl ⟨by rfl, ?_⟩) (by assumption) ?_
  rotate_left
  · (intro w9 hSw; obtain ⟨g1, g2, g3, g4, g5, g6, g7, g8, g9⟩ := hSw; go_simp; try with_reducible rfl)
  try simp only [Act.put, List.setIfInBounds_toArray, List.set_cons_zero, List.set_cons_succ]
  refine wpAnyH_take (i := 4) (v := ?_) rfl (by kernel_rfl) (by kernel_rfl) (by kernel_rfl) (fun _ _ _ h => h) (Or.inl ⟨by rfl, ?_⟩) (by assumption) ?_
  rotate_left
  · (intro w9 hSw; obtain ⟨g1, g2, g3, g4, g5, g6, g7, g8, g9⟩ := hSw; go_simp; try with_reducible rfl)
  try simp only [Act.put, List.setIfInBounds_toArray, List.set_cons_zero, List.set_cons_succ]
  refine wpAnyH_take (i := 5) (v := ?_) rfl (by kernel_rfl) (by kernel_rfl) (by kernel_rfl) (fun _ _ _ h => h) (Or.inl ⟨by rfl, ?_⟩) (by assumption) ?_
  rotate_left
  · (intro w9 hSw; obtain ⟨g1, g2, g3, g4, g5, g6, g7, g8, g9⟩ := hSw; go_simp; try with_reducible rfl)
  try simp only [Act.put, List.setIfInBounds_toArray, List.set_cons_zero, List.set_cons_succ]
  refine wpAnyH_take (i := 6) (v := ?_) rfl (by kernel_rfl) (by kernel_rfl) (by kernel_rfl) (fun _ _ _ h => h) (Or.inl ⟨by rfl, ?_⟩) (by assumption) ?_
  rotate_left
  · (intro w9 hSw; obtain ⟨g1, g2, g3, g4, g5, g6, g7, g8, g9⟩ := hSw; go_simp; try with_reducible rfl)
  try simp only [Act.put, List.setIfInBounds_toArray, List.set_cons_zero, List.set_cons_succ]
  refine wpAnyH_take (i := 7) (v := ?_) rfl (by kernel_rfl) (by kernel_rfl) (by kernel_rfl) (fun _ _ _ h => h) (Or.inl ⟨by rfl, ?_⟩) (by assumption) ?_
  rotate_left
  · (intro w9 hSw; obtain ⟨g1, g2, g3, g4, g5, g6, g7, g8, g9⟩ := hSw; go_simp; try with_reducible rfl)
  try simp only [Act.put, List.setIfInBounds_toArray, List.set_cons_zero, List.set_cons_succ]
  refine wpAnyH_take (i := 8) (v := ?_) rfl (by kernel_rfl) (by kernel_rfl) (by kernel_rfl) (fun _ _ _ h => h) (Or.inl ⟨by rfl, ?_⟩) (by assumption) ?_
  rotate_left
  · (intro w9 hSw; obtain ⟨g1, g2, g3, g4, g5, g6, g7, g8, g9⟩ := hSw; go_simp; try with_reducible rfl)
  try simp only [Act.put, List.setIfInBounds_toArray, List.set_cons_zero, List.set_cons_succ]
  refine wpAnyH_take (i := 9) (v := ?_) rfl (by kernel_rfl) (by kernel_rfl) (by kernel_rfl) (fun _ _ _ h => h) (Or.inl ⟨by rfl, ?_⟩) (by assumption) ?_
  rotate_left
  · (intro w9 hSw; obtain ⟨g1, g2, g3, g4, g5, g6, g7, g8, g9⟩ := hSw; go_simp; try with_reducible rfl)
  try simp only [Act.put, List.setIfInBounds_toArray, List.set_cons_zero, List.set_cons_succ]
  refine wpAnyH_take (i := 10) (v := ?_) rfl (by kernel_rfl) (by kernel_rfl) (by kernel_rfl) (fun _ _ _ h => h) (Or.inl ⟨by rfl, ?_⟩) (by assumption) ?_
  rotate_left
  · (intro w9 hSw; obtain ⟨g1, g2, g3, g4, g5, g6, g7, g8, g9⟩ := hSw; go_simp; try with_reducible rfl)
  try simp only [Act.put, List.setIfInBounds_toArray, List.set_cons_zero, List.set_cons_succ]
  refine wpAnyH_take (i := 11) (v := ?_) rfl (by kernel_rfl) (by kernel_rfl) (by kernel_rfl) (fun _ _ _ h => h) (Or.inl ⟨by rfl, ?_⟩) (by assumption) ?_
  rotate_left
  · (intro w9 hSw; obtain ⟨g1, g2, g3, g4, g5, g6, g7, g8, g9⟩ := hSw; go_simp; try with_reducible rfl)
  try simp only [Act.put, List.setIfInBounds_toArray, List.set_cons_zero, List.set_cons_succ]
  refine wpAnyH_take (i := 12) (v := ?_) rfl (by kernel_rfl) (by kernel_rfl) (by kernel_rfl) (fun _ _ _ h => h) (Or.inl ⟨by rfl, ?_⟩) (by assumption) ?_
  rotate_left
  · (intro w9 hSw; obtain ⟨g1, g2, g3, g4, g5, g6, g7, g8, g9⟩ := hSw; go_simp; try with_reducible rfl)
  try simp only [Act.put, List.setIfInBounds_toArray, List.set_cons_zero, List.set_cons_succ]
  refine wpAnyH_take (i := 13) (v := ?_) rfl (by kernel_rfl) (by kernel_rfl) (by kernel_rfl) (fun _ _ _ h => h) (Or.inl ⟨by rfl, ?_⟩) (by assumption) ?_
  rotate_left
  · (intro w9 hSw; obtain ⟨g1, g2, g3, g4, g5, g6, g7, g8, g9⟩ := hSw; go_simp; try with_reducible rfl)
  try simp only [Act.put, List.setIfInBounds_toArray, List.set_cons_zero, List.set_cons_succ]
  refine wpAnyH_take (i := 14) (v := ?_) rfl (by kernel_rfl) (by kernel_rfl) (by kernel_rfl) (fun _ _ _ h => h) (Or.inl ⟨by rfl, ?_⟩) (by assumption) ?_
  rotate_left
  · (intro w9 hSw; obtain ⟨g1, g2, g3, g4, g5, g6, g7, g8, g9⟩ := hSw; go_simp; try with_reducible rfl)
  try simp only [Act.put, List.setIfInBounds_toArray, List.set_cons_zero, List.set_cons_succ]
  refine wpAnyH_take (i := 15) (v := ?_) rfl (by kernel_rfl) (by kernel_rfl) (by kernel_rfl) (fun _ _ _ h => h) (Or.inl ⟨by rfl, ?_⟩) (by assumption) ?_
  rotate_left
  · (intro w9 hSw; obtain ⟨g1, g2, g3, g4, g5, g6, g7, g8, g9⟩ := hSw; go_simp; try with_reducible rfl)
  try simp only [Act.put, List.setIfInBounds_toArray, List.set_cons_zero, List.set_cons_succ]
  refine wpAnyH_take (i := 16) (v := ?_) rfl (by kernel_rfl) (by kernel_rfl) (by kernel_rfl) (fun _ _ _ h => h) (Or.inl ⟨by rfl, ?_⟩) (by assumption) ?_
  rotate_left
  · (intro w9 hSw; obtain ⟨g1, g2, g3, g4, g5, g6, g7, g8, g9⟩ := hSw; go_simp; try with_reducible rfl)
  try simp only [Act.put, List.setIfInBounds_toArray, List.set_cons_zero, List.set_cons_succ]
  refine wpAnyH_take (i := 17) (v := ?_) rfl (by kernel_rfl) (by kernel_rfl) (by kernel_rfl) (fun _ _ _ h => h) (Or.inl ⟨by rfl, ?_⟩) (by assumption) ?_
  rotate_left
  · (intro w9 hSw; obtain ⟨g1, g2, g3, g4, g5, g6, g7, g8, g9⟩ := hSw; go_simp; try with_reducible rfl)
  try simp only [Act.put, List.setIfInBounds_toArray, List.set_cons_zero, List.set_cons_succ]
  refine wpAnyH_take (i := 18) (v := ?_) rfl (by kernel_rfl) (by kernel_rfl) (by kernel_rfl) (fun _ _ _ h => h) (Or.inl ⟨by rfl, ?_⟩) (by assumption) ?_
  rotate_left
  · (intro w9 hSw; obtain ⟨g1, g2, g3, g4, g5, g6, g7, g8, g9⟩ := hSw; go_simp; try with_reducible rfl)
  try simp only [Act.put, List.setIfInBounds_toArray, List.set_cons_zero, List.set_cons_succ]
  refine wpAnyH_take (i := 19) (v := ?_) rfl (by kernel_rfl) (by kernel_rfl) (by kernel_rfl) (fun _ _ _ h => h) (Or.inl ⟨by rfl, ?_⟩) (by assumption) ?_
  rotate_left
  · (intro w9 hSw; obtain ⟨g1, g2, g3, g4, g5, g6, g7, g8, g9⟩ := hSw; go_simp; try with_reducible rfl)
  try simp only [Act.put, List.setIfInBounds_toArray, List.set_cons_zero, List.set_cons_succ]
  refine wpAnyH_take (i := 20) (v := ?_) rfl (by kernel_rfl) (by kernel_rfl) (by kernel_rfl) (fun _ _ _ h => h) (Or.inl ⟨by rfl, ?_⟩) (by assumption) ?_
  rotate_left
  · (intro w9 hSw; obtain ⟨g1, g2, g3, g4, g5, g6, g7, g8, g9⟩ := hSw; go_simp; try with_reducible rfl)
  try simp only [Act.put, List.setIfInBounds_toArray, List.set_cons_zero, List.set_cons_succ]
  refine wpAnyH_take (i := 21) (v := ?_) rfl (by kernel_rfl) (by kernel_rfl) (by kernel_rfl) (fun _ _ _ h => h) (Or.inl ⟨by rfl, ?_⟩) (by assumption) ?_
  rotate_left
  · (intro w9 hSw; obtain ⟨g1, g2, g3, g4, g5, g6, g7, g8, g9⟩ := hSw; go_simp; try with_reducible rfl)
  try simp only [Act.put, List.setIfInBounds_toArray, List.set_cons_zero, List.set_cons_succ]
  refine wpAnyH_take (i := 22) (v := ?_) rfl (by kernel_rfl) (by kernel_rfl) (by kernel_rfl) (fun _ _ _ h => h) (Or.inl ⟨by rfl, ?_⟩) (by assumption) ?_
  rotate_left
  · (intro w9 hSw; obtain ⟨g1, g2, g3, g4, g5, g6, g7, g8, g9⟩ := hSw; go_simp; try with_reducible rfl)
  try simp only [Act.put, List.setIfInBounds_toArray, List.set_cons_zero, List.set_cons_succ]
  refine wpAnyH_take (i := 23) (v := ?_) rfl (by kernel_rfl) (by kernel_rfl) (by kernel_rfl) (fun _ _ _ h => h) (Or.inl ⟨by rfl, ?_⟩) (by assumption) ?_
  rotate_left
  · (intro w9 hSw; obtain ⟨g1, g2, g3, g4, g5, g6, g7, g8, g9⟩ := hSw; go_simp; try with_reducible rfl)
  try simp only [Act.put, List.setIfInBounds_toArray, List.set_cons_zero, List.set_cons_succ]
  refine wpAnyH_take (i := 24) (v := ?_) rfl (by kernel_rfl) (by kernel_rfl) (by kernel_rfl) (fun _ _ _ h => h) (Or.inl ⟨by rfl, ?_⟩) (by assumption) ?_
  rotate_left
  · (intro w9 hSw; obtain ⟨g1, g2, g3, g4, g5, g6, g7, g8, g9⟩ := hSw; go_simp; try with_reducible rfl)
  try simp only [Act.put, List.setIfInBounds_toArray, List.set_cons_zero, List.set_cons_succ]
  refine wpAnyH_take (i := 25) (v := ?_) rfl (by kernel_rfl) (by kernel_rfl) (by kernel_rfl) (fun _ _ _ h => h) (Or.inl ⟨by rfl, ?_⟩) (by assumption) ?_
  rotate_left
  · (intro w9 hSw; obtain ⟨g1, g2, g3, g4, g5, g6, g7, g8, g9⟩ := hSw; go_simp; try with_reducible rfl)
  try simp only [Act.put, List.setIfInBounds_toArray, List.set_cons_zero, List.set_cons_succ]
  refine wpAnyH_take (i := 26) (v := ?_) rfl (by kernel_rfl) (by kernel_rfl) (by kernel_rfl) (fun _ _ _ h => h) (Or.inl ⟨by rfl, ?_⟩) (by assumption) ?_
  rotate_left
  · (intro w9 hSw; obtain ⟨g1, g2, g3, g4, g5, g6, g7, g8, g9⟩ := hSw; go_simp; try with_reducible rfl)
  try simp only [Act.put, List.setIfInBounds_toArray, List.set_cons_zero, List.set_cons_succ]
  refine wpAnyH_take (i := 27) (v := ?_) rfl (by kernel_rfl) (by kernel_rfl) (by kernel_rfl) (fun _ _ _ h => h) (Or.inl ⟨by rfl, ?_⟩) (by assumption) ?_
  rotate_left
  · (intro w9 hSw; obtain ⟨g1, g2, g3, g4, g5, g6, g7, g8, g9⟩ := hSw; go_simp; try with_reducible rfl)
  try simp only [Act.put, List.setIfInBounds_toArray, List.set_cons_zero, List.set_cons_succ]
  refine wpAnyH_take (i := 28) (v := ?_) rfl (by kernel_rfl) (by kernel_rfl) (by kernel_rfl) (fun _ _ _ h => h) (Or.inl ⟨by rfl, ?_⟩) (by assumption) ?_
  rotate_left
  · (intro w9 hSw; obtain ⟨g1, g2, g3, g4, g5, g6, g7, g8, g9⟩ := hSw; go_simp; try with_reducible rfl)
  try simp only [Act.put, List.setIfInBounds_toArray, List.set_cons_zero, List.set_cons_succ]
  refine wpAnyH_take (i := 29) (v := ?_) rfl (by kernel_rfl) (by kernel_rfl) (by kernel_rfl) (fun _ _ _ h => h) (Or.inl ⟨by rfl, ?_⟩) (by assumption) ?_
  rotate_left
  · (intro w9 hSw; obtain ⟨g1, g2, g3, g4, g5, g6, g7, g8, g9⟩ := hSw; go_simp; try with_reducible rfl)
  try simp only [Act.put, List.setIfInBounds_toArray, List.set_cons_zero, List.set_cons_succ]
  refine wpAnyH_take (i := 30) (v := ?_) rfl (by kernel_rfl) (by kernel_rfl) (by kernel_rfl) (fun _ _ _ h => h) (Or.inl ⟨by rfl, ?_⟩) (by assumption) ?_
  rotate_left
  · (intro w9 hSw; obtain ⟨g1, g2, g3, g4, g5, g6, g7, g8, g9⟩ := hSw; go_simp; try with_reducible rfl)
  try simp only [Act.put, List.setIfInBounds_toArray, List.set_cons_zero, List.set_cons_succ]
  refine wpAnyH_take (i := 31) (v := ?_) rfl (by kernel_rfl) (by kernel_rfl) (by kernel_rfl) (fun _ _ _ h => h) (Or.inl ⟨by rfl, ?_⟩) (by assumption) ?_
  rotate_left
  · (intro w9 hSw; obtain ⟨g1, g2, g3, g4, g5, g6, g7, g8, g9⟩ := hSw; go_simp; try with_reducible rfl)
  try simp only [Act.put, List.setIfInBounds_toArray, List.set_cons_zero, List.set_cons_succ]
  refine wpAnyH_take (i := 32) (v := ?_) rfl (by kernel_rfl) (by kernel_rfl) (by kernel_rfl) (fun _ _ _ h => h) (Or.inl ⟨by rfl, ?_⟩) (by assumption) ?_
  rotate_left
  · (intro w9 hSw; obtain ⟨g1, g2, g3, g4, g5, g6, g7, g8, g9⟩ := hSw; go_simp; try with_reducible rfl)
  try simp only [Act.put, List.setIfInBounds_toArray, List.set_cons_zero, List.set_cons_succ]
  refine wpAnyH_take (i := 33) (v := ?_) rfl (by kernel_rfl) (by kernel_rfl) (by kernel_rfl) (fun _ _ _ h => h) (Or.inl ⟨by rfl, ?_⟩) (by assumption) ?_
  rotate_left
  · (intro w9 hSw; obtain ⟨g1, g2, g3, g4, g5, g6, g7, g8, g9⟩ := hSw; go_simp; try with_reducible rfl)
  try simp only [Act.put, List.setIfInBounds_toArray, List.set_cons_zero, List.set_cons_succ]
  refine wpAnyH_take (i := 35) (v := ?_) rfl (by kernel_rfl) (by kernel_rfl) (by kernel_rfl) (fun _ _ _ h => h) (Or.inl ⟨by rfl, ?_⟩) (by assumption) ?_
  rotate_left
  · (intro w9 hSw; obtain ⟨g1, g2, g3, g4, g5, g6, g7, g8, g9⟩ := hSw; go_simp; try with_reducible rfl)
  try simp only [Act.put, List.setIfInBounds_toArray, List.set_cons_zero, List.set_cons_succ]
  refine wpAnyH_ready (rs := [34]) (by kernel_rfl) (by simp) ?_
  refine AllReadyH.cons rfl (fun K hK => ?_) AllReadyH.nil
  go_simp
  refine (placesIn_any f.nodes _ _ (HN.out.below HBW.out) HSZ.out hl HLD.out).mono ?_
  rintro e w5 ⟨u5, rfl, hp5, hb5⟩; have HB5 := Lib.hid (HBW.out.trans (hb5.mono HBW.out.size)); have HA5 := Lib.hid ((hb5.block _ (lt_of_heap HA.out)).trans HA.out); have HZ5 := Lib.hid ((hb5.block _ (lt_of_heap HZ.out)).trans HZ.out); obtain ⟨G5, cp5, rfl, hcp5, hcm5, -, hr5⟩ := hp5; unfold maxLen at hcm5; have b0 := hr5.cell (j := nd * 3) (by omega); rw [plF0, pl_links, HLN.out] at b0; have ra0 : w5.cell? ⟨w.heap.size, 0, none⟩ = some (.slice (some ⟨g3, f3, none⟩) f.nodes.length c) := cell_blk HA5.out 0; have ra1 : w5.cell? ⟨w.heap.size, 1, none⟩ = some (.int .i64 f.room) := cell_blk HA5.out 1; have rx0 : w5.cell? ⟨g3, f3 + nd * 7, none⟩ = some (.int .i64 q.kind) := (hb5.cell (p := ⟨g3, f3 + nd * 7, none⟩) hgW).trans HQ0.out; have rx1 : w5.cell? ⟨g3, f3 + nd * 7 + 1, none⟩ = some (.int .i64 q.mode) := (hb5.cell (p := ⟨g3, f3 + nd * 7 + 1, none⟩) hgW).trans HQ1.out; have rx2 : w5.cell? ⟨g3, f3 + nd * 7 + 2, none⟩ = some (.int .i64 q.uid) := (hb5.cell (p := ⟨g3, f3 + nd * 7 + 2, none⟩) hgW).trans HQ2.out; have rx3 : w5.cell? ⟨g3, f3 + nd * 7 + 3, none⟩ = some (.int .i64 q.gid) := (hb5.cell (p := ⟨g3, f3 + nd * 7 + 3, none⟩) hgW).trans HQ3.out; have rx4 : w5.cell? ⟨g3, f3 + nd * 7 + 4, none⟩ = some (.int .i64 q.time) := (hb5.cell (p := ⟨g3, f3 + nd * 7 + 4, none⟩) hgW).trans HQ4.out; have rx5 : w5.cell? ⟨g3, f3 + nd * 7 + 5, none⟩ = some (.string x) := (hb5.cell (p := ⟨g3, f3 + nd * 7 + 5, none⟩) hgW).trans HQ5.out; have rx6 : w5.cell? ⟨g3, f3 + nd * 7 + 6, none⟩ = some (.slice o2 q.list.length c2) := (hb5.cell (p := ⟨g3, f3 + nd * 7 + 6, none⟩) hgW).trans HQ6.out; have z0 : w5.cell? ⟨w.heap.size + 1, 0, none⟩ = some (.int .i64 0) := cell_blk HZ5.out 0; have z1 : w5.cell? ⟨w.heap.size + 1, 1, none⟩ = some (.int .i64 0) := cell_blk HZ5.out 1; have z2 : w5.cell? ⟨w.heap.size + 1, 2, none⟩ = some (.int .i64 0) := cell_blk HZ5.out 2; have z3 : w5.cell? ⟨w.heap.size + 1, 3, none⟩ = some (.int .i64 0) := cell_blk HZ5.out 3; have z4 : w5.cell? ⟨w.heap.size + 1, 4, none⟩ = some (.int .i64 0) := cell_blk HZ5.out 4; have z5 : w5.cell? ⟨w.heap.size + 1, 5, none⟩ = some (.int .i64 0) := cell_blk HZ5.out 5; have z6 : w5.cell? ⟨w.heap.size + 1, 6, none⟩ = some (.int .i64 0) := cell_blk HZ5.out 6; have z7 : w5.cell? ⟨w.heap.size + 1, 7, none⟩ = some (.int .i64 0) := cell_blk HZ5.out 7; have zf := frozen_blk HZ5.out; clear hb5 hr5
  go_wp2_with fail
  refine hK.out _ _ ⟨ra0, ra1, rx0, rx1, rx2, rx3, rx4, rx5, rx6⟩ (fun hHeld => ?_)
  clear hK K
  refine wpAnyH_take (i := 36) (v := ?_) rfl (by kernel_rfl) (by kernel_rfl) (by kernel_rfl) (fun _ _ _ h => h) (Or.inl ⟨by rfl, ?_⟩) (by assumption) ?_
  rotate_left
  · (intro w9 hSw; obtain ⟨g1, g2, g3, g4, g5, g6, g7, g8, g9⟩ := hSw; go_simp; try with_reducible rfl)
  try simp only [Act.put, List.setIfInBounds_toArray, List.set_cons_zero, List.set_cons_succ]
  refine wpAnyH_take (i := 37) (v := ?_) rfl (by kernel_rfl) (by kernel_rfl) (by kernel_rfl) (fun _ _ _ h => h) (Or.inl ⟨by rfl, ?_⟩) (by assumption) ?_
  rotate_left
  · (intro w9 hSw; obtain ⟨g1, g2, g3, g4, g5, g6, g7, g8, g9⟩ := hSw; go_simp; try with_reducible rfl)
  try simp only [Act.put, List.setIfInBounds_toArray, List.set_cons_zero, List.set_cons_succ]
  refine wpAnyH_ready (rs := [38]) (by kernel_rfl) (by simp) ?_
  refine AllReadyH.cons rfl (fun K hK => ?_) AllReadyH.nil
  go_simp
  refine hK.out _ _ ⟨ra0, ra1, rx0, rx1, rx2, rx3, rx4, rx5, rx6⟩ (fun hHeld => ?_)
  clear hK K
  refine wpAnyH_take (i := 39) (v := ?_) rfl (by kernel_rfl) (by kernel_rfl) (by kernel_rfl) (fun _ _ _ h => h) (Or.inl ⟨by rfl, ?_⟩) (by assumption) ?_
  rotate_left
  · (intro w9 hSw; obtain ⟨g1, g2, g3, g4, g5, g6, g7, g8, g9⟩ := hSw; go_simp; try with_reducible rfl)
  try simp only [Act.put, List.setIfInBounds_toArray, List.set_cons_zero, List.set_cons_succ]
  refine wpAnyH_ready (rs := [40]) (by kernel_rfl) (by simp) ?_
  refine AllReadyH.cons rfl (fun K hK => ?_) AllReadyH.nil
  go_simp
  refine hK.out _ _ ?_ (fun hHeld => ?_)
  · exact ⟨(eight_ne (by omega) _ _ _ _ _ _ _ _ _).trans ra0, (eight_ne (by omega) _ _ _ _ _ _ _ _ _).trans ra1, (eight_ne (by omega) _ _ _ _ _ _ _ _ _).trans rx0, (eight_ne (by omega) _ _ _ _ _ _ _ _ _).trans rx1, (eight_ne (by omega) _ _ _ _ _ _ _ _ _).trans rx2, (eight_ne (by omega) _ _ _ _ _ _ _ _ _).trans rx3, (eight_ne (by omega) _ _ _ _ _ _ _ _ _).trans rx4, (eight_ne (by omega) _ _ _ _ _ _ _ _ _).trans rx5, (eight_ne (by omega) _ _ _ _ _ _ _ _ _).trans rx6⟩
  clear hK K
  refine wpAnyH_done (by kernel_rfl) ?_ _
  refine NoPanic.normal ?_
  all_goals
    go_wp2
    have hwr : IntKind.i64.wrap ((x.size : Int) + q.list.length) = (x.size : Int) + q.list.length := IntWalk.i64_in _ (by omega)
    have hy := eight_set HZ5.out (.int .i64 (nd : Int)) (.int .i64 q.kind) (.int .i64 q.mode) (.int .i64 q.uid) (.int .i64 q.gid) (.int .i64 q.time) (.int .i64 (IntKind.i64.wrap ((x.size : Int) + q.list.length))) (.int .i64 (n : Int))
    have hbl := eight_below HB5.out (Nat.le_succ _) (.int .i64 (nd : Int)) (.int .i64 q.kind) (.int .i64 q.mode) (.int .i64 q.uid) (.int .i64 q.gid) (.int .i64 q.time) (.int .i64 (IntKind.i64.wrap ((x.size : Int) + q.list.length))) (.int .i64 (n : Int))
    obtain ⟨W9, hW9⟩ : ∃ W9, ((((((((w5.setCell ⟨w.heap.size + 1, 0, none⟩ (.int .i64 (nd : Int))).setCell ⟨w.heap.size + 1, 1, none⟩ (.int .i64 q.kind)).setCell ⟨w.heap.size + 1, 2, none⟩ (.int .i64 q.mode)).setCell ⟨w.heap.size + 1, 3, none⟩ (.int .i64 q.uid)).setCell ⟨w.heap.size + 1, 4, none⟩ (.int .i64 q.gid)).setCell ⟨w.heap.size + 1, 5, none⟩ (.int .i64 q.time)).setCell ⟨w.heap.size + 1, 6, none⟩ (.int .i64 (IntKind.i64.wrap ((x.size : Int) + q.list.length)))).setCell ⟨w.heap.size + 1, 7, none⟩ (.int .i64 (n : Int))) = W9 := ⟨_, rfl⟩
    rw [hW9] at hy hbl ⊢
    clear hW9
    have y0 : W9.cell? ⟨w.heap.size + 1, 0, none⟩ = some (.int .i64 (nd : Int)) := cell_blk hy 0
    have y1 : W9.cell? ⟨w.heap.size + 1, 1, none⟩ = some (.int .i64 q.kind) := cell_blk hy 1
    have y2 : W9.cell? ⟨w.heap.size + 1, 2, none⟩ = some (.int .i64 q.mode) := cell_blk hy 2
    have y3 : W9.cell? ⟨w.heap.size + 1, 3, none⟩ = some (.int .i64 q.uid) := cell_blk hy 3
    have y4 : W9.cell? ⟨w.heap.size + 1, 4, none⟩ = some (.int .i64 q.gid) := cell_blk hy 4
    have y5 : W9.cell? ⟨w.heap.size + 1, 5, none⟩ = some (.int .i64 q.time) := cell_blk hy 5
    have y6 : W9.cell? ⟨w.heap.size + 1, 6, none⟩ = some (.int .i64 (IntKind.i64.wrap ((x.size : Int) + q.list.length))) := cell_blk hy 6
    have y7 : W9.cell? ⟨w.heap.size + 1, 7, none⟩ = some (.int .i64 (n : Int)) := cell_blk hy 7
    refine bodyPost_ret (v := .agg #[.int .i64 (nd : Int), .int .i64 q.kind, .int .i64 q.mode, .int .i64 q.uid, .int .i64 q.gid, .int .i64 q.time, .int .i64 (IntKind.i64.wrap ((x.size : Int) + q.list.length)), .int .i64 (n : Int)]) (by simp [results, Tryz.results50, go_sem, y0, y1, y2, y3, y4, y5, y6, y7]) rfl ?_
    exact ⟨by rw [HV.out, hwr], hbl⟩
end Go.Proofs.YtpkmkpeabfmbiaaGreatDoor


/-
  The contract of spec.l2Of.
  Conditions: lists of texts that together have at most 2^30 bytes.
-/
namespace Go.Proofs.YtpkmkpeabfmbiaaGreatDoor
open Go.ChangeShapes Go.WideShapes Go.ChangeAt Go.RowKit Go.Joins
set_option linter.unusedVariables false

theorem slashed_take {ps : List (List UInt8)} {k : Nat} (h : k < ps.length) : slashed (ps.take (k + 1)) = slashed (ps.take k) ++ 47 :: ps[k] := by
  rw [List.take_succ_eq_append_getElem h, slashed_snoc]
theorem slashed_app (a b : List (List UInt8)) : slashed (a ++ b) = slashed a ++ slashed b := by simp [slashed]
theorem slashed_pre (ps : List (List UInt8)) (k : Nat) : (slashed (ps.take k)).length ≤ (slashed ps).length := by
  conv => rhs; rw [← List.take_append_drop k ps]
  rw [slashed_app]; simp

end Go.Proofs.YtpkmkpeabfmbiaaGreatDoor


/-
  PathTo: the model's l3Path and PathTo, the program's pathFromRoot and PathTo, with the same answer.
  Conditions: at most 2^20 values and letters together.
-/
namespace Go.Proofs.YtpkmkpeabfmbiaaGreatDoor
open Go.ChangeShapes Go.WideShapes Go.ChangeAt Go.RowKit Go.Joins
set_option linter.unusedVariables false
set_option linter.unusedSimpArgs false

/-- The names from node 0 to a node, n steps up at most. -/
def nmsUp (P : Int → Pl) : Nat → Int → List (List UInt8)
  | 0, _ => []
  | n + 1, i => if i = 0 then [] else nmsUp P n ((P i).dir : Int) ++ [(P i).name]
theorem nmsUp_zero (P : Int → Pl) : ∀ n, nmsUp P n 0 = []
  | 0 => rfl
  | n + 1 => by rw [nmsUp, if_pos rfl]
theorem nmsUp_more (P : Int → Pl) : ∀ (n m : Nat) (i : Int), upN P n i = 0 → n ≤ m → nmsUp P m i = nmsUp P n i
  | 0, m, i, h, _ => by
    have h' : i = 0 := h
    rw [h', nmsUp_zero, nmsUp_zero]
  | n + 1, 0, i, _, hm => absurd hm (by omega)
  | n + 1, m + 1, i, h, hm => by
    rw [nmsUp, nmsUp]
    by_cases h0 : i = 0
    · rw [if_pos h0, if_pos h0]
    · rw [if_neg h0, if_neg h0, nmsUp_more P n m _ (by rw [← upN_one]; exact h) (by omega)]
theorem nmsUp_len (P : Int → Pl) : ∀ (n : Nat) (i : Int), (nmsUp P n i).length ≤ n
  | 0, i => by simp [nmsUp]
  | n + 1, i => by
    rw [nmsUp]
    by_cases h0 : i = 0
    · rw [if_pos h0]; simp
    · rw [if_neg h0]
      have := nmsUp_len P n ((P i).dir : Int)
      simp; omega
theorem nmsUp_all {P : Int → Pl} {b : Nat} (h : ∀ i, (P i).name.length ≤ b) : ∀ (n : Nat) (i : Int), ∀ p ∈ nmsUp P n i, p.length ≤ b
  | 0, i => by simp [nmsUp]
  | n + 1, i => by
    rw [nmsUp]
    by_cases h0 : i = 0
    · rw [if_pos h0]; simp
    · rw [if_neg h0]
      intro p hp
      rcases List.mem_append.1 hp with hp | hp
      · exact nmsUp_all h n _ p hp
      · rw [List.mem_singleton.1 hp]; exact h i
theorem slashed_le (b : Nat) : ∀ (ps : List (List UInt8)), (∀ p ∈ ps, p.length ≤ b) → (slashed ps).length ≤ (b + 1) * ps.length
  | [], _ => by simp [slashed]
  | p :: ps, h => by
    have h1 := slashed_le b ps (fun q hq => h q (by simp [hq]))
    have h2 := h p (by simp)
    have e : slashed (p :: ps) = 47 :: p ++ slashed ps := by simp [slashed]
    rw [e]
    simp only [List.length_append, List.length_cons, Nat.mul_add, Nat.mul_one]
    omega
theorem lastN_mem (i : Int) : ∀ (es : List Ent) (s : List UInt8), lastN i s es = s ∨ ∃ e ∈ es, lastN i s es = e.name
  | [], s => .inl rfl
  | e :: es, s => by
    unfold lastN
    rw [List.foldl_cons]
    by_cases he : e.node = i
    · rw [if_pos he]
      rcases lastN_mem i es e.name with h | ⟨x, hx, h⟩
      · exact .inr ⟨e, by simp, h⟩
      · exact .inr ⟨x, by simp [hx], h⟩
    · rw [if_neg he]
      rcases lastN_mem i es s with h | ⟨x, hx, h⟩
      · exact .inl h
      · exact .inr ⟨x, by simp [hx], h⟩
theorem lastN_take (i : Int) (s : List UInt8) {es : List Ent} {j : Nat} (h : j < es.length) : lastN i s (es.take (j + 1)) = if es[j].node = i then es[j].name else lastN i s (es.take j) := by
  unfold lastN
  rw [List.take_succ_eq_append_getElem h, List.foldl_append]
  rfl
theorem name_le {l : List UInt8} (h : nameB l = true) : l.length ≤ 8 := by
  have h1 := name_part h
  simp [partB] at h1
  omega
theorem ent_name {f : FsD} (h : goodF f = true) {n : Nod} (hn : n ∈ f.nodes) {e : Ent} (he : e ∈ n.list) : e.name.length ≤ 8 := by
  have h1 := (nodOk_iff.1 ((goodF_GoodF h).2.2.2.2.1 n hn)).1
  have h2 := (nodOkI_dir h1 (fun x => by rw [x] at he; cases he)).2
  obtain ⟨k, hk, rfl⟩ := List.getElem_of_mem he
  unfold entsOkI at h2
  rw [List.all_eq_true] at h2
  have h3 := h2 k (List.mem_range.2 hk)
  rw [entOkI_is hk] at h3
  simp only [Bool.and_eq_true, entGoodB] at h3
  exact name_le h3.1.1
theorem place_name {f : FsD} (h : goodF f = true) (i : Int) : (placesF f.nodes i).name.length ≤ 8 := by
  by_cases hl : 0 < links i f.nodes
  · obtain ⟨d, hd, -, -, e3⟩ := pl_some hl
    rw [e3]
    rcases lastN_mem i f.nodes[d].list [] with h1 | ⟨e, he, h1⟩
    · rw [h1]; simp
    · rw [h1]; exact ent_name h (List.getElem_mem hd) he
  · rw [pl_none (by omega)]; simp [pl0]
/-- The way up from a directory ends at node 0. -/
theorem good_up {f : FsD} (h : goodF f = true) {m : Nat} (hm : m < f.nodes.length) (hk : kindAt f.nodes m = 2) : upN (placesF f.nodes) f.nodes.length m = 0 := by
  have hI := (good_iff f).2 (goodF_GoodF h)
  have hp := good_pos h
  have h0 : links (0 : Int) f.nodes = 0 := ((goodF_GoodF h).2.2.2.2.2 0 hp).1 rfl
  rcases Nat.eq_zero_or_pos m with rfl | hpm
  · exact upN_zero (by rw [pl_none h0]; rfl) _
  · have h1 := hI.2.2.2.2.1 m hm
    unfold wellB at h1
    rw [if_neg (by rintro (h2 | h2) <;> omega), if_pos hk] at h1
    simp at h1
    exact h1.2
noncomputable def pathF (f : FsD) (node : Int) : List UInt8 := if parK f node = true then pathL (nmsUp (placesF f.nodes) f.nodes.length node) else []
/-- A directory above another one. -/
theorem good_above {f : FsD} (h : goodF f = true) {m : Nat} (hm : m < f.nodes.length) (hm0 : m ≠ 0) (hk : kindAt f.nodes m = 2) : ∃ d, ∃ hd : d < f.nodes.length, (placesF f.nodes m).dir = d ∧ parentOf m f.nodes = d ∧ kindAt f.nodes d = 2 ∧ (placesF f.nodes m).name = lastN m [] f.nodes[d].list := by
  have h1 : links m f.nodes = 1 := ((goodF_GoodF h).2.2.2.2.2 m hm).2.1 (by omega) hk
  obtain ⟨d, hd, e1, e2, e3⟩ := pl_some (ns := f.nodes) (i := m) (by omega)
  refine ⟨d, hd, e1, parent_is h1 hd e2, ?_, e3⟩
  have h4 := (nodOkI_dir ((nodOk_iff.1 ((goodF_GoodF h).2.2.2.2.1 _ (List.getElem_mem hd))).1) (fun x => by rw [x] at e2; simp [linksE, tot] at e2)).1
  rw [← h4]; simp [kindAt, List.getD, hd]

end Go.Proofs.YtpkmkpeabfmbiaaGreatDoor


/-
  The model's RealPath, ListDir and CodeText.
  Conditions: at most 2^20 values and letters together; a text of at most 2^20 bytes.
-/
namespace Go.Proofs.YtpkmkpeabfmbiaaGreatDoor
open Go.ChangeShapes Go.WideShapes Go.ChangeAt Go.RowKit Go.Joins
set_option linter.unusedVariables false
set_option linter.unusedSimpArgs false

theorem dirF_lt {f : FsD} (hF : LookFs f) (u g : Int) (l : List UInt8) : (dirF f.nodes u g l).2 < f.nodes.length := by
  unfold dirF
  split
  · exact hF.pos
  · exact lkFind_lt hF u g l true
theorem dirF_kind {ns : List Nod} {u g : Int} {l : List UInt8} (h : (dirF ns u g l).1 = 0) : (nodeAt ns (dirF ns u g l).2).kind = 2 := by
  unfold dirF at h ⊢
  by_cases hc : (lkFind ns u g l true).1 = 0 ∧ (nodeAt ns (lkFind ns u g l true).2).kind ≠ 2
  · rw [if_pos hc] at h; exact absurd h (by decide)
  · rw [if_neg hc] at h ⊢
    by_cases hk : (nodeAt ns (lkFind ns u g l true).2).kind = 2
    · exact hk
    · exact absurd ⟨h, hk⟩ hc
theorem kind_at {ns : List Nod} {i : Nat} (hi : i < ns.length) : kindAt ns (i : Int) = (nodeAt ns i).kind := by
  unfold kindAt nodeAt; simp
theorem names_smallL {f : FsD} (h : goodF f = true) (m : Int) : (slashed (nmsUp (placesF f.nodes) f.nodes.length m)).length ≤ 360 := by
  have h1 := nmsUp_len (placesF f.nodes) f.nodes.length m
  have h2 := slashed_le 8 _ (nmsUp_all (place_name h) f.nodes.length m)
  have h3 := inB_t (goodF_GoodF h).1
  omega
/-- What RealPath tells: a text and a code. -/
noncomputable def rpF (f : FsD) (u g : Int) (l : List UInt8) : List UInt8 × Int :=
  if (dirF f.nodes u g l).1 ≠ 0 then ([], (dirF f.nodes u g l).1) else (pathL (nmsUp (placesF f.nodes) f.nodes.length ((dirF f.nodes u g l).2 : Nat)), 0)
noncomputable def rpT (f : FsD) (u g : Int) (l : List UInt8) : List UInt8 := if askB4 f u g = true then (rpF f u g l).1 else []
noncomputable def rpC (f : FsD) (u g : Int) (l : List UInt8) : Int := if askB4 f u g = true then (rpF f u g l).2 else 0
/-- What ListDir tells: names and a code. -/
def ldC0 (ns : List Nod) (u g : Int) (l : List UInt8) : Int :=
  if (dirF ns u g l).1 = 0 ∧ mayB u g (nodeAt ns (dirF ns u g l).2).mode (nodeAt ns (dirF ns u g l).2).uid (nodeAt ns (dirF ns u g l).2).gid 4 = false then 4 else (dirF ns u g l).1
def namesOf (es : List Ent) : List (List UInt8) := es.map fun e => e.name
noncomputable def ldL (f : FsD) (u g : Int) (l : List UInt8) : List (List UInt8) := if askB4 f u g = true ∧ ldC0 f.nodes u g l = 0 then namesOf (nodeAt f.nodes (dirF f.nodes u g l).2).list else []
noncomputable def ldC (f : FsD) (u g : Int) (l : List UInt8) : Int := if askB4 f u g = true then ldC0 f.nodes u g l else 0
theorem names_take {es : List Ent} {k : Nat} (h : k < es.length) : namesOf (es.take (k + 1)) = namesOf (es.take k) ++ [es[k].name] := by
  unfold namesOf; rw [List.take_succ_eq_append_getElem h, List.map_append]; rfl
theorem cell_new1 (w : World) (a : Obj) (v : Value) (t : TypeId) : ∀ j u, [v][j]? = some u → ((w.alloc a).alloc (.cells #[v] t)).cell? ((⟨w.heap.size + 1, 0, none⟩ : Addr).add j) = some u := by
  have h := cell_one_new (w.alloc a) v t
  rw [World.size_alloc] at h
  exact h
end Go.Proofs.YtpkmkpeabfmbiaaGreatDoor


/-
  Contracts of the model's PathTo, of the program's pathFromRoot and PathTo: the same answer.
  Conditions: at most 2^20 values and letters together.
-/
namespace Go.Proofs.YtpkmkpeabfmbiaaGreatDoor
open Go.ChangeShapes Go.WideShapes Go.ChangeAt Go.RowKit Go.Joins
set_option linter.unusedVariables false
set_option linter.unusedSimpArgs false

theorem tupSB {a a' : ByteArray} {b b' : Bool} (h1 : a = a') (h2 : b = b') : Ending.returned (.tuple #[.string a, .bool b]) = .returned (.tuple #[.string a', .bool b']) := by rw [h1, h2]
def strLen : Value → Nat
  | .string s => s.size
  | _ => 0
theorem names_small {f : FsD} (h : goodF f = true) (m : Int) : (slashed (nmsUp (placesF f.nodes) f.nodes.length m)).length ≤ 360 := by
  have h1 := nmsUp_len (placesF f.nodes) f.nodes.length m
  have h2 := slashed_le 8 _ (nmsUp_all (place_name h) f.nodes.length m)
  have h3 := inB_t (goodF_GoodF h).1
  omega
theorem slashed_nil {ps : List (List UInt8)} : slashed ps = [] ↔ ps = [] := by
  cases ps <;> simp [slashed]

end Go.Proofs.YtpkmkpeabfmbiaaGreatDoor


/-
  The program's linkAt, ReadLink, dirAt, RealPath.
  Conditions: at most 2^20 values and letters together; a text of at most 2^20 bytes; the variable errors.errorType as the program's text lays it.
-/
namespace Go.Proofs.YtpkmkpeabfmbiaaGreatDoor
open Go.ChangeShapes Go.WideShapes Go.ChangeAt Go.RowKit Go.Joins
set_option linter.unusedVariables false
set_option linter.unusedSimpArgs false

theorem errV_ok (p : ByteArray) : errV p 0 = .nilIface := rfl
theorem lkFind_zero {ns : List Nod} {u g : Int} {l : List UInt8} {fol : Bool} (h : (lkFind ns u g l fol).1 ≠ 0) : (lkFind ns u g l fol).2 = 0 := by
  unfold lkFind at h ⊢
  by_cases h1 : goodB l = true ∧ wholeB l = true
  · rw [if_pos h1] at h ⊢
    by_cases h2 : (lkGo ns u g (fol || slashB l) ⟨0, parts l, 0⟩).1 ≠ 0
    · rw [if_pos h2]
    · rw [if_neg h2] at h ⊢
      by_cases h3 : slashB l = true ∧ (nodeAt ns (lkGo ns u g (fol || slashB l) ⟨0, parts l, 0⟩).2).kind ≠ 2
      · rw [if_pos h3]
      · rw [if_neg h3] at h; exact absurd rfl h
  · rw [if_neg h1]
/-- What dirAt finds: a code and a node. -/
def dirW (ns : List Nod) (u g : Int) (l : List UInt8) (want : Int) : Int × Nat :=
  if (lkFind ns u g l true).1 ≠ 0 then ((lkFind ns u g l true).1, 0)
  else if dirC (nodeAt ns (lkFind ns u g l true).2) u g want ≠ 0 then (dirC (nodeAt ns (lkFind ns u g l true).2) u g want, 0)
  else (0, (lkFind ns u g l true).2)
theorem dirW_none (ns : List Nod) (u g : Int) (l : List UInt8) : dirW ns u g l 0 = dirF ns u g l := by
  unfold dirW dirF
  by_cases h1 : (lkFind ns u g l true).1 = 0
  · rw [if_neg (by simp [h1]), dirC_none]
    by_cases h2 : (nodeAt ns (lkFind ns u g l true).2).kind = 2
    · rw [if_neg (by simp [h2]), if_neg (by simp [h2])]
      rw [← h1]
    · rw [if_pos h2, if_pos (show (3 : Int) ≠ 0 by decide), if_pos (show (lkFind ns u g l true).1 = 0 ∧ (nodeAt ns (lkFind ns u g l true).2).kind ≠ 2 from ⟨h1, h2⟩)]
  · rw [if_pos h1, if_neg (fun h => h1 h.1)]
    have h2 := lkFind_zero h1
    exact Prod.ext rfl h2.symm

end Go.Proofs.YtpkmkpeabfmbiaaGreatDoor
