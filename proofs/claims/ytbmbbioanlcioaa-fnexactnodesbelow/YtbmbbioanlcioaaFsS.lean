
/-
  Contracts of the laws' helpers eqNode, eqNodeS, eqFs on two that read the same.
  Conditions: both read as the same data.
-/
import Derived.Test.YtbmbbioanlcioaaFsR
namespace Go.Proofs.Ytbmbbioanlcioaa
open Go.ChangeShapes Go.WideShapes Go.ChangeAt Go.RowKit Go.Joins
set_option linter.unusedVariables false

set_option maxHeartbeats 1000000 in
theorem eqNode_same (k m u gi t : Int) (x : ByteArray) (es : List Ent) (l1 l2 : Value) (w : World) (hU : EntsA w l1 es) (hV : EntsA w l2 es) :
    Calls Try.prog 48 #[.agg #[.int .i64 k, .int .i64 m, .int .i64 u, .int .i64 gi, .int .i64 t, .string x, l1], .agg #[.int .i64 k, .int .i64 m, .int .i64 u, .int .i64 gi, .int .i64 t, .string x, l2]] w fun e w' => e = .returned (.bool true) ∧ Below w.heap.size w w' := by
  obtain ⟨o1, c1, rfl, _, _⟩ := id hU
  obtain ⟨o2, c2, rfl, _, _⟩ := id hV
  have HU := Lib.hid hU
  have HV := Lib.hid hV
  clear hU hV
  have HB : Hid (Below w.heap.size w ((w.alloc (.cells #[.int .i64 k, .int .i64 m, .int .i64 u, .int .i64 gi, .int .i64 t, .string x, .slice o1 es.length c1] 65)).alloc (.cells #[.int .i64 k, .int .i64 m, .int .i64 u, .int .i64 gi, .int .i64 t, .string x, .slice o2 es.length c2] 65))) := Lib.hid (((Below.refl _ _).alloc (Nat.le_refl _) _).alloc (by simp) _)
  go_enter Try.func48, Try.ntmps48
  go_wp2_with fail
  refine (eqEntryS_same es _ _ _ (HU.out.below HB.out) (HV.out.below HB.out)).mono ?_
  rintro e w1 ⟨rfl, hb1⟩
  go_wp2
  go_ret
  exact ⟨rfl, HB.out.trans (hb1.mono HB.out.size)⟩

set_option maxHeartbeats 2000000 in
theorem eqNodeS_same (ns : List Nod) (u v : Value) (w : World) (hU : NodsA w u ns) (hV : NodsA w v ns) : Calls Try.prog 31 #[u, v] w fun e w' => e = .returned (.bool true) ∧ Below w.heap.size w w' := by
  obtain ⟨o1, c1, rfl, hm1, hH1⟩ := hU
  obtain ⟨o2, c2, rfl, hm2, hH2⟩ := hV
  have HH1 := Lib.hid hH1
  have HH2 := Lib.hid hH2
  clear hH1 hH2
  unfold maxLen at hm1 hm2
  go_enter Try.func31, Try.ntmps31
  go_wp2
  go_loopw [5] (fun i wr => ∃ k : Nat, k ≤ ns.length ∧ i = .int .i64 k ∧ Below w.heap.size w wr) (fun i _ => ns.length - (intOf i).toNat)
  case atStart => exact ⟨0, Nat.zero_le _, rfl, Below.refl _ _⟩
  case round =>
    obtain ⟨k, hk, rfl, hB⟩ := hrel
    by_cases hlt : k < ns.length
    · obtain ⟨g1, f1, l1, rfl, q1, n1, e1, _⟩ := HH1.out k hlt
      obtain ⟨g2, f2, l2, rfl, q2, n2, e2, _⟩ := HH2.out k hlt
      obtain ⟨a0, a1, a2, a3, a4, a5, a6⟩ := n1.below hB q1
      obtain ⟨b0, b1, b2, b3, b4, b5, b6⟩ := n2.below hB q2
      obtain ⟨q, hqq⟩ : ∃ q, q = ns[k] := ⟨_, rfl⟩
      rw [← hqq] at a0 a1 a2 a3 a4 a5 e1 b0 b1 b2 b3 b4 b5 e2
      obtain ⟨x, hx⟩ : ∃ x, x = bs q.data := ⟨_, rfl⟩
      rw [← hx] at a5 b5
      have he1 := e1.below hB
      have he2 := e2.below hB
      have HE1 := Lib.hid he1
      have HE2 := Lib.hid he2
      obtain ⟨p1, d1, rfl, _, _⟩ := id he1
      obtain ⟨p2, d2, rfl, _, _⟩ := id he2
      clear n1 n2 e1 e2 he1 he2 hqq hx
      go_wp2
      have y0 := fun d os => cell_regrown (w := wr) a0 d os
      have y1 := fun d os => cell_regrown (w := wr) a1 d os
      have y2 := fun d os => cell_regrown (w := wr) a2 d os
      have y3 := fun d os => cell_regrown (w := wr) a3 d os
      have y4 := fun d os => cell_regrown (w := wr) a4 d os
      have y5 := fun d os => cell_regrown (w := wr) a5 d os
      have y6 := fun d os => cell_regrown (w := wr) a6 d os
      have z0 := fun d os => cell_regrown (w := wr) b0 d os
      have z1 := fun d os => cell_regrown (w := wr) b1 d os
      have z2 := fun d os => cell_regrown (w := wr) b2 d os
      have z3 := fun d os => cell_regrown (w := wr) b3 d os
      have z4 := fun d os => cell_regrown (w := wr) b4 d os
      have z5 := fun d os => cell_regrown (w := wr) b5 d os
      have z6 := fun d os => cell_regrown (w := wr) b6 d os
      refine wp_region_quiet_below (by kernel_rfl) (by kernel_rfl) ?_
      repeat (first | go_big_quiet_step ((go_at_call 48; exact Calls.regrown_of (eqNode_same _ _ _ _ _ _ _ _ _ _ (HE1.out.below (below_regrown _ _ _)) (HE2.out.below (below_regrown _ _ _))))) | quiet_step ((go_at_call 48; exact Calls.regrown_of (eqNode_same _ _ _ _ _ _ _ _ _ _ (HE1.out.below (below_regrown _ _ _)) (HE2.out.below (below_regrown _ _ _))))))
      refine wpQuiet_nil ?_
      intro w5 hwq
      have hb5 : Below wr.heap.size wr w5 := by
        obtain ⟨pp, rfl⟩ := hwq
        exact below_regrown _ _ _
      clear hwq y0 y1 y2 y3 y4 y5 y6 z0 z1 z2 z3 z4 z5 z6
      go_wp2
      go_roundw
      case rel => exact ⟨k + 1, hlt, by go_num, hB.trans (hb5.mono hB.size)⟩
      case measure => simp [intOf]; omega
    · go_wp2
      go_ret
      exact ⟨rfl, hB⟩

set_option maxHeartbeats 1000000 in
theorem eqFs_same (f : FsD) (u v : Value) (w : World) (hU : FsA w u f) (hV : FsA w v f) : Calls Try.prog 12 #[u, v] w fun e w' => e = .returned (.bool true) ∧ Below w.heap.size w w' := by
  obtain ⟨n1, rfl, hU⟩ := hU
  obtain ⟨n2, rfl, hV⟩ := hV
  obtain ⟨o1, c1, rfl, _, _⟩ := id hU
  obtain ⟨o2, c2, rfl, _, _⟩ := id hV
  have HU := Lib.hid hU
  have HV := Lib.hid hV
  clear hU hV
  have HB : Hid (Below w.heap.size w ((w.alloc (.cells #[.slice o1 f.nodes.length c1, .int .i64 f.room] 31)).alloc (.cells #[.slice o2 f.nodes.length c2, .int .i64 f.room] 31))) := Lib.hid (((Below.refl _ _).alloc (Nat.le_refl _) _).alloc (by simp) _)
  have k1 : ∀ w1, Below ((w.alloc (.cells #[.slice o1 f.nodes.length c1, .int .i64 f.room] 31)).alloc (.cells #[.slice o2 f.nodes.length c2, .int .i64 f.room] 31)).heap.size ((w.alloc (.cells #[.slice o1 f.nodes.length c1, .int .i64 f.room] 31)).alloc (.cells #[.slice o2 f.nodes.length c2, .int .i64 f.room] 31)) w1 →
      w1.cell? ⟨w.heap.size, 1, none⟩ = some (.int .i64 f.room) ∧ w1.cell? ⟨w.heap.size + 1, 1, none⟩ = some (.int .i64 f.room) := by
    intro w1 hb
    have h1 := heap_alloc_new w (.cells #[.slice o1 f.nodes.length c1, .int .i64 f.room] 31)
    have h2 := heap_alloc_new (w.alloc (.cells #[.slice o1 f.nodes.length c1, .int .i64 f.room] 31)) (.cells #[.slice o2 f.nodes.length c2, .int .i64 f.room] 31)
    have h3 := Below.heap_alloc (w.alloc (.cells #[.slice o1 f.nodes.length c1, .int .i64 f.room] 31)) (.cells #[.slice o2 f.nodes.length c2, .int .i64 f.room] 31) w.heap.size (by simp)
    rw [World.size_alloc] at h2
    exact ⟨(cell_blk ((hb.block w.heap.size (by simp; omega)).trans (h3.trans h1)) 1).trans rfl, (cell_blk ((hb.block (w.heap.size + 1) (by simp)).trans h2) 1).trans rfl⟩
  have HK := Lib.hid k1
  clear k1
  go_enter Try.func12, Try.ntmps12
  go_wp2_with fail
  refine (eqNodeS_same f.nodes _ _ _ (HU.out.below HB.out) (HV.out.below HB.out)).mono ?_
  rintro e w1 ⟨rfl, hb1⟩
  obtain ⟨r1, r2⟩ := HK.out w1 hb1
  have HB1 := Lib.hid (HB.out.trans (hb1.mono HB.out.size))
  clear hb1
  go_wp2
  go_ret
  exact ⟨rfl, HB1.out⟩
end Go.Proofs.Ytbmbbioanlcioaa
