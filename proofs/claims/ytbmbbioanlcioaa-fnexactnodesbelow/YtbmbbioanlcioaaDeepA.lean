
/-
  The model's l7Asked, l7Deep and DeepOf.
  Conditions: at most 2^20 values and letters together.
-/
import Derived.Test.YtbmbbioanlcioaaDeepM
namespace Go.Proofs.Ytbmbbioanlcioaa
open Go.ChangeShapes Go.WideShapes Go.ChangeAt Go.RowKit Go.Joins
set_option linter.unusedVariables false
set_option linter.unusedSimpArgs false

theorem l1Most_any (a b : Int) (w : World) : Calls Try.prog 55 #[.int .i64 a, .int .i64 b] w fun e w' => e = .returned (.int .i64 (max a b)) ∧ w = w' := by
  by_cases h : b < a
  · have hm : max a b = a := by omega
    rw [hm]
    go_enter Try.func55, Try.ntmps55
    go_wp2
    go_ret
    exact ⟨rfl, rfl⟩
  · have hm : max a b = b := by omega
    rw [hm]
    go_enter Try.func55, Try.ntmps55
    go_wp2
    go_ret
    exact ⟨rfl, rfl⟩

def DeepSays (f : FsD) (k : Nat) : Prop := ∀ (i : Nat) (v : Value) (w : World), FsA w v f → i < f.nodes.length → Down f.nodes k i → k ≤ 1000 → Calls Try.prog 40 #[v, .int .i64 (i : Int)] w fun e w' => e = .returned (.int .i64 (dpF f.nodes k i : Nat)) ∧ Below w.heap.size w w'
set_option maxRecDepth 100000 in
set_option maxHeartbeats 4000000 in
theorem l7Deep_step (f : FsD) (hs : szF f ≤ 1048576) (k : Nat) (ih : ∀ k2, k2 < k → DeepSays f k2) : DeepSays f k := by
  intro i v w hR hi hD hk
  have IH := Lib.hid ih
  have HR := Lib.hid hR
  obtain ⟨nv, rfl, hN⟩ := hR
  obtain ⟨o, c, rfl, hm, hH⟩ := hN
  unfold maxLen at hm
  have hl : f.nodes.length ≤ 1048576 := (lists_small hs).1
  have hll : (lsAt f.nodes i).length ≤ 1048576 := by rw [lsAt_is hi]; exact ((lists_small hs).2 _ (List.getElem_mem hi)).1
  obtain ⟨g3, f3, lv3, rfl, hg3, hc3, he3, -⟩ := hH i hi
  rw [← lsAt_is hi] at he3
  have hb0 : Below w.heap.size w (w.alloc (.cells #[.slice (some ⟨g3, f3, none⟩) f.nodes.length c, .int .i64 f.room] 31)) := (Below.refl _ _).alloc (Nat.le_refl _) _
  have HB0 := Lib.hid hb0
  have HK0 := Lib.hid (heap_alloc_new w (.cells #[.slice (some ⟨g3, f3, none⟩) f.nodes.length c, .int .i64 f.room] 31))
  have c6 := (hc3.below hb0 hg3).c6
  obtain ⟨o5, c5, rfl, -, hH5⟩ := he3
  have HH5 := Lib.hid hH5
  obtain ⟨es, hes⟩ : ∃ es, es = lsAt f.nodes i := ⟨_, rfl⟩
  have hval : ∃ k2, k ≤ k2 + 1 ∧ k2 ≤ k ∧ dpF f.nodes k i = dpS f.nodes k2 es ∧ ∀ e ∈ es, k = k2 + 1 ∧ (0 ≤ e.node ∧ e.node < f.nodes.length) ∧ Down f.nodes k2 e.node.toNat := by
    rw [hes]
    cases k with
    | zero => exact ⟨0, by omega, by omega, by show 0 = dpS _ _ _; rw [show lsAt f.nodes i = [] from hD]; rfl, fun e he => by rw [show lsAt f.nodes i = [] from hD] at he; cases he⟩
    | succ k => exact ⟨k, by omega, by omega, rfl, fun e he => ⟨rfl, hD e he⟩⟩
  obtain ⟨k2, hk2, hk3, hv2, hk4⟩ := hval
  rw [← hes] at HH5 c6 hll
  have HV := Lib.hid hv2
  have HK4 := Lib.hid hk4
  clear hH hb0 hD hv2 hk4 hc3 hH5 hes ih
  go_enter Try.func40, Try.ntmps40
  go_wp2
  go_loopw [5, 15] (fun t5 i9 wr => ∃ j : Nat, j ≤ es.length ∧ i9 = .int .i64 j ∧ t5 = .int .i64 (dpS f.nodes k2 (es.take j) : Nat) ∧ Below w.heap.size w wr ∧ wr.heap[w.heap.size]? = some (.cells #[.slice (some ⟨g3, f3, none⟩) f.nodes.length c, .int .i64 f.room] 31)) (fun _ i9 _ => es.length - (intOf i9).toNat)
  case atStart => exact ⟨0, Nat.zero_le _, rfl, rfl, HB0.out, HK0.out⟩
  case round =>
    obtain ⟨j, hj, rfl, rfl, hB, hX⟩ := hrel
    have HB := Lib.hid hB
    have HX := Lib.hid hX
    have hsx := lt_of_heap hX
    have hsz := hB.size
    by_cases hlt : j < es.length
    · obtain ⟨g9, f9, rfl, q9, y1, y2, -⟩ := HH5.out j hlt
      obtain ⟨he1, ⟨he2, he3⟩, he4⟩ := HK4.out _ (List.getElem_mem hlt)
      obtain ⟨cc, hcc⟩ : ∃ cc : Nat, es[j].node = cc := ⟨es[j].node.toNat, by omega⟩
      have HT := Lib.hid (dpS_take (ns := f.nodes) (k := k2) hlt)
      rw [hcc] at y2 he4 he3 HT
      rw [show ((cc : Int)).toNat = cc by simp] at he4 HT
      have a1 := (hB.cell (p := ⟨g9, f9 + j * 2, none⟩) q9).trans y1
      have a2 := (hB.cell (p := ⟨g9, f9 + j * 2 + 1, none⟩) q9).trans y2
      obtain ⟨x, hx⟩ : ∃ x, x = bs es[j].name := ⟨_, rfl⟩
      rw [← hx] at a1
      have hBa := hB.alloc hB.size (.cells #[.string x, .int .i64 (cc : Int)] 67)
      have HBa := Lib.hid hBa
      have HXa := Lib.hid ((Below.heap_alloc wr (.cells #[.string x, .int .i64 (cc : Int)] 67) _ hsx).trans hX)
      have k0 : wr.cell? ⟨w.heap.size, 0, none⟩ = some (.slice (some ⟨g3, f3, none⟩) f.nodes.length c) := cell_blk hX 0
      have k1 : wr.cell? ⟨w.heap.size, 1, none⟩ = some (.int .i64 f.room) := cell_blk hX 1
      have hd1 := dpS_le (ns := f.nodes) (k := k2) (es.take j)
      have hd2 := dpF_le (ns := f.nodes) k2 cc
      obtain ⟨D, hDD⟩ : ∃ D, D = dpS f.nodes k2 (es.take j) := ⟨_, rfl⟩
      obtain ⟨E, hEE⟩ : ∃ E, E = dpF f.nodes k2 cc := ⟨_, rfl⟩
      have HEE := Lib.hid hEE
      rw [← hDD] at HT hd1 ⊢
      rw [← hEE] at HT hd2
      have HD4 := Lib.hid he4
      clear hB hX y1 y2 hx hcc hBa hDD hEE he4
      go_wp2_with fail
      refine (IH.out k2 (by omega) cc _ _ (HR.out.below HBa.out) (by omega) HD4.out (by omega)).mono ?_
      rintro e w2 ⟨rfl, hb2⟩
      rw [← HEE.out]
      have HB2 := Lib.hid (HBa.out.trans (hb2.mono HBa.out.size))
      have HX2 := Lib.hid ((hb2.block _ (lt_of_heap HXa.out)).trans HXa.out)
      clear hb2
      go_wp2_with fail
      refine (l1Most_any _ _ _).mono ?_
      rintro e w3 ⟨rfl, rfl⟩
      go_wp2
      go_roundw
      case rel => exact ⟨j + 1, hlt, by go_num, by rw [HT.out]; go_num, HB2.out, HX2.out⟩
      case measure => simp [intOf]; omega
    · have HT : Hid (es.take j = es) := Lib.hid (List.take_of_length_le (by omega))
      go_wp2
      go_ret
      exact ⟨ret_int (by rw [HV.out, HT.out]), HB.out⟩
theorem l7Deep_any (f : FsD) (hs : szF f ≤ 1048576) (k : Nat) : DeepSays f k := by
  induction k using Nat.strongRecOn with
  | ind k ih => exact l7Deep_step f hs k ih
end Go.Proofs.Ytbmbbioanlcioaa
