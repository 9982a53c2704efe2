/-
  Joined: FsS FsT FsU InC NameC NameD FsV IterC.
  Conditions: as each states.
-/
import Derived.Deep.SlicePairs
import Derived.Lib.OthersKept
import Derived.Laws.Cover1
import Derived.RangeFuncNested
import Derived.RangeFuncBound
import Derived.RangeFuncCalls
import Derived.RangeFuncLeaves
import Derived.Shelf.Abstract
import Derived.Shelf.RegionOpen
import Derived.WalkKit
import Derived.OwnWalkIn
import Derived.TacticsInMore
import Derived.LoopNIn
import Derived.LoopIn
import Derived.Test.YtbmbbioanlcioaaGreatDoorLib1

/-
  Contracts of the laws' helpers eqNode, eqNodeS, eqFs on two that read the same.
  Conditions: both read as the same data.
-/
namespace Go.Proofs.YtbmbbioanlcioaaGreatDoor
open Go.ChangeShapes Go.WideShapes Go.ChangeAt Go.RowKit Go.Joins
set_option linter.unusedVariables false

set_option maxHeartbeats 1000000 in
theorem eqNode_same (k m u gi t : Int) (x : ByteArray) (es : List Ent) (l1 l2 : Value) (w : World) (hU : EntsA w l1 es) (hV : EntsA w l2 es) :
    Calls Tryz.prog 70 #[.agg #[.int .i64 k, .int .i64 m, .int .i64 u, .int .i64 gi, .int .i64 t, .string x, l1], .agg #[.int .i64 k, .int .i64 m, .int .i64 u, .int .i64 gi, .int .i64 t, .string x, l2]] w fun e w' => e = .returned (.bool true) ∧ Below w.heap.size w w' := by
  obtain ⟨o1, c1, rfl, _, _⟩ := id hU
  obtain ⟨o2, c2, rfl, _, _⟩ := id hV
  have HU := Lib.hid hU
  have HV := Lib.hid hV
  clear hU hV
  have HB : Hid (Below w.heap.size w ((w.alloc (.cells #[.int .i64 k, .int .i64 m, .int .i64 u, .int .i64 gi, .int .i64 t, .string x, .slice o1 es.length c1] 58)).alloc (.cells #[.int .i64 k, .int .i64 m, .int .i64 u, .int .i64 gi, .int .i64 t, .string x, .slice o2 es.length c2] 58))) := Lib.hid (((Below.refl _ _).alloc (Nat.le_refl _) _).alloc (by simp) _)
  go_enter Tryz.func70, Tryz.ntmps70
  go_wp2_with fail
  refine (eqEntryS_same es _ _ _ (HU.out.below HB.out) (HV.out.below HB.out)).mono ?_
  rintro e w1 ⟨rfl, hb1⟩
  go_wp2
  go_ret
  exact ⟨rfl, HB.out.trans (hb1.mono HB.out.size)⟩

set_option maxHeartbeats 2000000 in
theorem eqNodeS_same (ns : List Nod) (u v : Value) (w : World) (hU : NodsA w u ns) (hV : NodsA w v ns) : Calls Tryz.prog 35 #[u, v] w fun e w' => e = .returned (.bool true) ∧ Below w.heap.size w w' := by
  obtain ⟨o1, c1, rfl, hm1, hH1⟩ := hU
  obtain ⟨o2, c2, rfl, hm2, hH2⟩ := hV
  have HH1 := Lib.hid hH1
  have HH2 := Lib.hid hH2
  clear hH1 hH2
  unfold maxLen at hm1 hm2
  go_enter Tryz.func35, Tryz.ntmps35
  go_wp2
  go_loopw [5] (fun i wr => ∃ k : Nat, k ≤ ns.length ∧ i = .int .i64 k ∧ Below w.heap.size w wr) (fun i _ => ns.length - (intOf i).toNat)
  case atStart => exact ⟨0, Nat.zero_le _, rfl, Below.refl _ _⟩
  case round =>
    obtain ⟨k, hk, rfl, hB⟩ := hrel
    by_cases hlt : k < ns.length
    · obtain ⟨g1, f1, l1, rfl, q1, n1, e1, _⟩ := HH1.out k hlt
      obtain ⟨g2, f2, l2, rfl, q2, n2, e2, _⟩ := HH2.out k hlt
      obtain ⟨a0, a1, a2, a3, a4, a5, a6⟩ := n1.below hB q1
      obtain ⟨b0, b1, b2, b3, b4, b5, b6⟩ := n2.below hB q2
      obtain ⟨q, hqq⟩ : ∃ q, q = ns[k] := ⟨_, rfl⟩
      rw [← hqq] at a0 a1 a2 a3 a4 a5 e1 b0 b1 b2 b3 b4 b5 e2
      obtain ⟨x, hx⟩ : ∃ x, x = bs q.data := ⟨_, rfl⟩
      rw [← hx] at a5 b5
      have he1 := e1.below hB
      have he2 := e2.below hB
      have HE1 := Lib.hid he1
      have HE2 := Lib.hid he2
      obtain ⟨p1, d1, rfl, _, _⟩ := id he1
      obtain ⟨p2, d2, rfl, _, _⟩ := id he2
      clear n1 n2 e1 e2 he1 he2 hqq hx
      go_wp2
      have y0 := fun d os => cell_regrown (w := wr) a0 d os
      have y1 := fun d os => cell_regrown (w := wr) a1 d os
      have y2 := fun d os => cell_regrown (w := wr) a2 d os
      have y3 := fun d os => cell_regrown (w := wr) a3 d os
      have y4 := fun d os => cell_regrown (w := wr) a4 d os
      have y5 := fun d os => cell_regrown (w := wr) a5 d os
      have y6 := fun d os => cell_regrown (w := wr) a6 d os
      have z0 := fun d os => cell_regrown (w := wr) b0 d os
      have z1 := fun d os => cell_regrown (w := wr) b1 d os
      have z2 := fun d os => cell_regrown (w := wr) b2 d os
      have z3 := fun d os => cell_regrown (w := wr) b3 d os
      have z4 := fun d os => cell_regrown (w := wr) b4 d os
      have z5 := fun d os => cell_regrown (w := wr) b5 d os
      have z6 := fun d os => cell_regrown (w := wr) b6 d os
      refine wp_region_quiet_below (by kernel_rfl) (by kernel_rfl) ?_
      repeat (first | go_big_quiet_step ((go_at_call 70; exact Calls.regrown_of (eqNode_same _ _ _ _ _ _ _ _ _ _ (HE1.out.below (below_regrown _ _ _)) (HE2.out.below (below_regrown _ _ _))))) | quiet_step ((go_at_call 70; exact Calls.regrown_of (eqNode_same _ _ _ _ _ _ _ _ _ _ (HE1.out.below (below_regrown _ _ _)) (HE2.out.below (below_regrown _ _ _))))))
      refine wpQuiet_nil ?_
      intro w5 hwq
      have hb5 : Below wr.heap.size wr w5 := by
        obtain ⟨pp, rfl⟩ := hwq
        exact below_regrown _ _ _
      clear hwq y0 y1 y2 y3 y4 y5 y6 z0 z1 z2 z3 z4 z5 z6
      go_wp2
      go_roundw
      case rel => exact ⟨k + 1, hlt, by go_num, hB.trans (hb5.mono hB.size)⟩
      case measure => simp [intOf]; omega
    · go_wp2
      go_ret
      exact ⟨rfl, hB⟩

set_option maxHeartbeats 1000000 in
theorem eqFs_same (f : FsD) (u v : Value) (w : World) (hU : FsA w u f) (hV : FsA w v f) : Calls Tryz.prog 14 #[u, v] w fun e w' => e = .returned (.bool true) ∧ Below w.heap.size w w' := by
  obtain ⟨n1, rfl, hU⟩ := hU
  obtain ⟨n2, rfl, hV⟩ := hV
  obtain ⟨o1, c1, rfl, _, _⟩ := id hU
  obtain ⟨o2, c2, rfl, _, _⟩ := id hV
  have HU := Lib.hid hU
  have HV := Lib.hid hV
  clear hU hV
  have HB : Hid (Below w.heap.size w ((w.alloc (.cells #[.slice o1 f.nodes.length c1, .int .i64 f.room] 32)).alloc (.cells #[.slice o2 f.nodes.length c2, .int .i64 f.room] 32))) := Lib.hid (((Below.refl _ _).alloc (Nat.le_refl _) _).alloc (by simp) _)
  have k1 : ∀ w1, Below ((w.alloc (.cells #[.slice o1 f.nodes.length c1, .int .i64 f.room] 32)).alloc (.cells #[.slice o2 f.nodes.length c2, .int .i64 f.room] 32)).heap.size ((w.alloc (.cells #[.slice o1 f.nodes.length c1, .int .i64 f.room] 32)).alloc (.cells #[.slice o2 f.nodes.length c2, .int .i64 f.room] 32)) w1 →
      w1.cell? ⟨w.heap.size, 1, none⟩ = some (.int .i64 f.room) ∧ w1.cell? ⟨w.heap.size + 1, 1, none⟩ = some (.int .i64 f.room) := by
    intro w1 hb
    have h1 := heap_alloc_new w (.cells #[.slice o1 f.nodes.length c1, .int .i64 f.room] 32)
    have h2 := heap_alloc_new (w.alloc (.cells #[.slice o1 f.nodes.length c1, .int .i64 f.room] 32)) (.cells #[.slice o2 f.nodes.length c2, .int .i64 f.room] 32)
    have h3 := Below.heap_alloc (w.alloc (.cells #[.slice o1 f.nodes.length c1, .int .i64 f.room] 32)) (.cells #[.slice o2 f.nodes.length c2, .int .i64 f.room] 32) w.heap.size (by simp)
    rw [World.size_alloc] at h2
    exact ⟨(cell_blk ((hb.block w.heap.size (by simp; omega)).trans (h3.trans h1)) 1).trans rfl, (cell_blk ((hb.block (w.heap.size + 1) (by simp)).trans h2) 1).trans rfl⟩
  have HK := Lib.hid k1
  clear k1
  go_enter Tryz.func14, Tryz.ntmps14
  go_wp2_with fail
  refine (eqNodeS_same f.nodes _ _ _ (HU.out.below HB.out) (HV.out.below HB.out)).mono ?_
  rintro e w1 ⟨rfl, hb1⟩
  obtain ⟨r1, r2⟩ := HK.out w1 hb1
  have HB1 := Lib.hid (HB.out.trans (hb1.mono HB.out.size))
  clear hb1
  go_wp2
  go_ret
  exact ⟨rfl, HB1.out⟩
end Go.Proofs.YtbmbbioanlcioaaGreatDoor


/-
  What a file system that came in gives: it reads as plain data, its numbers in their range.
  Conditions: as it states.
-/
namespace Go.Proofs.YtbmbbioanlcioaaGreatDoor
open Go.ChangeShapes Go.WideShapes Go.ChangeAt Go.RowKit Go.Joins
set_option linter.unusedVariables false
set_option maxRecDepth 100000

def wf64 (n : Int) : Prop := (Lit.int .i64 n).wf = true
def EntW (e : Ent) : Prop := wf64 e.node
def NodW (n : Nod) : Prop := wf64 n.kind ∧ wf64 n.mode ∧ wf64 n.uid ∧ wf64 n.gid ∧ wf64 n.time ∧ ∀ e ∈ n.list, EntW e
def FsW (f : FsD) : Prop := wf64 f.room ∧ ∀ n ∈ f.nodes, NodW n

theorem spot_of_cell {w : World} {a : Addr} {v : Value} (h : w.cell? a = some v) : a.spot = none := by
  unfold World.cell? at h
  split at h
  · split at h
    · cases h
    · rename_i hs; cases hq : a.spot with
      | none => rfl
      | some y => rw [hq] at hs; exact absurd rfl hs
  · cases h
theorem add_plain (g off i : Nat) : (⟨g, off, none⟩ : Addr).add i = ⟨g, off + i, none⟩ := by
  unfold Addr.add; split
  · rename_i h; subst h; rfl
  · rfl
/-- An address where cells lie, in plain words. -/
theorem addr_plain {w : World} {a : Addr} {v : Value} (h : w.cell? a = some v) : a = ⟨a.block, a.off, none⟩ := by
  have := spot_of_cell h
  cases a; simp_all

theorem dataLe {s : ByteArray} {n : Nat} (h : s.size ≤ n) : s.data.toList.length ≤ n := by rw [Array.length_toList]; exact h

section
variable {H : Type} {enc : TypeId × Value → H} {W : World}

theorem cellsEnt : Tryz.prog.cellsOf 162 = 2 := by kernel_rfl
theorem cellsNod : Tryz.prog.cellsOf 90 = 7 := by kernel_rfl

theorem open_ents {fuel : Nat} {cs : List Value} {x : DataW H × List MemPlace} (h : DataW.trod enc Tryz.prog W 0 (fun _ => true) true fuel 88 cs = some x) :
    ∃ v es, cs = [v] ∧ EntsA W v es ∧ ∀ e ∈ es, EntW e := by
  rcases Go.Deep.open_slice_pairs Tryz.underlying88 Tryz.underlying162 cellsEnt rfl rfl (by kernel_rfl) (by kernel_rfl) h with ⟨rfl, -⟩ | ⟨a, len, cap, m, n, V0, V1, D0, D1, P0, P1, rfl, -, hl, hm, hmm, -, hx⟩
  · exact ⟨_, [], rfl, ⟨none, 0, rfl, Nat.zero_le _, fun i hi => absurd hi (by simp)⟩, by simp⟩
  · simp only [if_true] at hmm
    subst hmm
    have each : ∀ i, i < len → ∃ e : Ent, a = ⟨a.block, a.off, none⟩ ∧ a.block < W.heap.size ∧ W.cell? ⟨a.block, a.off + i * 2, none⟩ = some (.string (bs e.name)) ∧ W.cell? ⟨a.block, a.off + i * 2 + 1, none⟩ = some (.int .i64 e.node) ∧ e.name.length ≤ maxLen ∧ EntW e := by
      intro i hi
      have hp := addr_plain (hx 0 (by omega)).1
      obtain ⟨h0, h1, t0, t1⟩ := hx i (by omega)
      obtain ⟨s, e0, -, hs⟩ := DataW.trod_string Tryz.underlying9 t0
      obtain ⟨k, e1, -, hk⟩ := DataW.trod_int Tryz.underlying3 t1
      simp only [List.cons.injEq, and_true] at e0 e1
      rw [e0] at h0
      rw [e1] at h1
      have hb := World.block_lt_of_cell? W _ h0
      rw [addBlock] at hb
      have hpz : a = ⟨a.block, a.off, none⟩ := by simpa [Addr.add] using hp
      rw [hpz, add_plain] at h0 h1
      exact ⟨⟨s.data.toList, k⟩, hpz, hb, by simpa [bs_of] using h0, h1, dataLe hs, hk⟩
    haveI : Inhabited Ent := ⟨⟨[], 0⟩⟩
    obtain ⟨E, hE⟩ := Go.Deep.choose_lt each
    refine ⟨_, (List.range len).map E, rfl, ⟨some a, m, by simp, by simp; omega, fun i hi => ?_⟩, ?_⟩
    · simp at hi
      obtain ⟨h1, h2, h3, h4, h5, h6⟩ := hE i hi
      exact ⟨a.block, a.off, by rw [← h1], h2, by simpa using h3, by simpa using h4, by simpa using h5⟩
    · intro e he
      simp at he
      obtain ⟨i, hi, rfl⟩ := he
      exact (hE i hi).2.2.2.2.2

theorem open_nods {fuel : Nat} {cs : List Value} {x : DataW H × List MemPlace} (h : DataW.trod enc Tryz.prog W 0 (fun _ => true) true fuel 22 cs = some x) :
    ∃ v ns, cs = [v] ∧ NodsA W v ns ∧ ∀ n ∈ ns, NodW n := by
  rcases Go.Deep.open_slice Tryz.underlying22 h with ⟨rfl, -⟩ | ⟨a, len, cap, m, n, D, Pl, rfl, -, hl, hm, hmm, -, hx⟩
  · exact ⟨_, [], rfl, ⟨none, 0, rfl, Nat.zero_le _, fun i hi => absurd hi (by simp)⟩, by simp⟩
  · simp only [if_true] at hmm
    subst hmm
    have each : ∀ i, i < len → ∃ q : Nod, a = ⟨a.block, a.off, none⟩ ∧ a.block < W.heap.size ∧ (∃ lv, NodC W a.block (a.off + i * 7) lv q ∧ EntsA W lv q.list) ∧ q.data.length ≤ maxLen ∧ NodW q := by
      intro i hi
      have hp : a = ⟨a.block, a.off, none⟩ := by
        obtain ⟨c, h1, -⟩ := hx 0 (by omega)
        rw [cellsNod] at h1
        obtain ⟨_, hlen, hcell⟩ := World.cells?_some h1
        have h2 := hcell 0 (by omega)
        have h3 : ∃ v, c[0]? = some v := ⟨c[0], List.getElem?_eq_getElem (by omega)⟩
        obtain ⟨v, h3⟩ := h3
        rw [h3] at h2
        simpa [Addr.add] using addr_plain h2
      obtain ⟨c, h1, h2⟩ := hx i (by omega)
      rw [cellsNod] at h1
      obtain ⟨_, hlen, hcell⟩ := World.cells?_some h1
      obtain ⟨xs, k, -, -, -, hxl, hf⟩ := DataW.trod_struct Tryz.underlying90 h2
      match xs, hxl, c, hlen with
      | [y0, y1, y2, y3, y4, y5, y6], _, [v0, v1, v2, v3, v4, v5, v6], _ =>
        have g0 := hf 0 _ rfl
        have g1 := hf 1 _ rfl
        have g2 := hf 2 _ rfl
        have g3 := hf 3 _ rfl
        have g4 := hf 4 _ rfl
        have g5 := hf 5 _ rfl
        have g6 := hf 6 _ rfl
        have ci : Tryz.prog.cellsOf 3 = 1 := by kernel_rfl
        have cS : Tryz.prog.cellsOf 9 = 1 := by kernel_rfl
        have cL : Tryz.prog.cellsOf 88 = 1 := by kernel_rfl
        simp [ci, cS, cL] at g0 g1 g2 g3 g4 g5 g6
        obtain ⟨n0, e0, -, w0⟩ := DataW.trod_int Tryz.underlying3 g0
        obtain ⟨n1, e1, -, w1⟩ := DataW.trod_int Tryz.underlying3 g1
        obtain ⟨n2, e2, -, w2⟩ := DataW.trod_int Tryz.underlying3 g2
        obtain ⟨n3, e3, -, w3⟩ := DataW.trod_int Tryz.underlying3 g3
        obtain ⟨n4, e4, -, w4⟩ := DataW.trod_int Tryz.underlying3 g4
        obtain ⟨s, e5, -, hs⟩ := DataW.trod_string Tryz.underlying9 g5
        obtain ⟨lv, es, e6, hE, hW⟩ := open_ents g6
        simp only [List.cons.injEq, and_true] at e0 e1 e2 e3 e4 e5 e6
        subst e0 e1 e2 e3 e4 e5 e6
        rw [hp] at hcell
        simp only [add_plain] at hcell
        have c0 := hcell 0 (by omega)
        have hb := World.block_lt_of_cell? W _ c0
        exact ⟨⟨n0, n1, n2, n3, n4, s.data.toList, es⟩, hp, hb, ⟨v6, ⟨c0, hcell 1 (by omega), hcell 2 (by omega), hcell 3 (by omega), hcell 4 (by omega), by rw [bs_of]; exact hcell 5 (by omega), hcell 6 (by omega)⟩, hE⟩, dataLe hs, w0, w1, w2, w3, w4, hW⟩
    haveI : Inhabited Nod := ⟨⟨0, 0, 0, 0, 0, [], []⟩⟩
    obtain ⟨E, hE⟩ := Go.Deep.choose_lt each
    refine ⟨_, (List.range len).map E, rfl, ⟨some a, m, by simp, by simp; omega, fun i hi => ?_⟩, ?_⟩
    · simp at hi
      obtain ⟨h1, h2, ⟨lv, h3, h4⟩, h5, h6⟩ := hE i hi
      exact ⟨a.block, a.off, lv, by rw [← h1], h2, by simpa using h3, by simpa using h4, by simpa using h5⟩
    · intro e he
      simp at he
      obtain ⟨i, hi, rfl⟩ := he
      exact (hE i hi).2.2.2.2

theorem open_fsA {base : Nat} {v : Value} {d : DataW H} {p : List MemPlace} (hval : Value.okWide Tryz.prog W .any base 24 v) (h : DataW.Trod enc Tryz.prog W 0 (fun _ => true) true 24 v d p) :
    ∃ f, FsA W v f ∧ FsW f := by
  obtain ⟨v0, v1, y0, y1, m, rfl, -, -, h0, h1⟩ := open_agg2 Tryz.underlying24 (by kernel_rfl) (by kernel_rfl) hval h
  obtain ⟨nv, ns, e0, hN, hW⟩ := open_nods h0
  obtain ⟨r, e1, -, hr⟩ := DataW.trod_int Tryz.underlying3 h1
  simp only [List.cons.injEq, and_true] at e0 e1
  subst e0 e1
  exact ⟨⟨ns, r⟩, ⟨_, rfl, hN⟩, hr, hW⟩
end
end Go.Proofs.YtbmbbioanlcioaaGreatDoor


/-
  The model's plain counts over a file system: l3Bytes, l3Links, l3Parent, l3Free.
  Conditions: at most 2^20 values and letters together.
-/
namespace Go.Proofs.YtbmbbioanlcioaaGreatDoor
open Go.ChangeShapes Go.WideShapes Go.ChangeAt Go.RowKit Go.Joins
set_option linter.unusedVariables false

def sumD (ns : List Nod) : Nat := (ns.map fun n => n.data.length).sum
theorem sumD_take {ns : List Nod} {k : Nat} (h : k < ns.length) : sumD (ns.take (k + 1)) = sumD (ns.take k) + ns[k].data.length := by
  unfold sumD; rw [List.take_succ_eq_append_getElem h]; simp only [List.map_append, List.sum_append, List.map_cons, List.map_nil, List.sum_cons, List.sum_nil, Nat.add_zero]
theorem sumD_pre (ns : List Nod) (k : Nat) : sumD (ns.take k) ≤ sumD ns := by
  conv => rhs; rw [← List.take_append_drop k ns]
  unfold sumD; rw [List.map_append, List.sum_append]; omega
theorem sumD_le (ns : List Nod) : sumD ns ≤ szNs ns := by
  unfold sumD szNs szN
  induction ns with
  | nil => simp
  | cons a r ih => simp only [List.map_cons, List.sum_cons]; omega

set_option maxHeartbeats 2000000 in
theorem l3Bytes_any (f : FsD) (v : Value) (w : World) (hR : FsA w v f) (hs : szF f ≤ 1048576) : Calls Tryz.prog 38 #[v] w fun e w' => e = .returned (.int .i64 (sumD f.nodes : Nat)) ∧ Below w.heap.size w w' := by
  obtain ⟨nv, rfl, hN⟩ := hR
  obtain ⟨o, c, rfl, hm, hH⟩ := hN
  have HH := Lib.hid hH
  clear hH
  unfold maxLen at hm
  have hT : sumD f.nodes ≤ 1048576 := by have := sumD_le f.nodes; unfold szF at hs; omega
  have hl : f.nodes.length ≤ 1048576 := by unfold szF at hs; omega
  clear hs
  go_enter Tryz.func38, Tryz.ntmps38
  go_wp2
  have hbw : Below w.heap.size w (w.alloc (.cells #[.slice o f.nodes.length c, .int .i64 f.room] 32)) := (Below.refl _ _).alloc (Nat.le_refl _) _
  go_loopw [3, 9] (fun t i wr => ∃ k : Nat, k ≤ f.nodes.length ∧ i = .int .i64 k ∧ t = .int .i64 (sumD (f.nodes.take k) : Nat) ∧ Below w.heap.size w wr) (fun _ i _ => f.nodes.length - (intOf i).toNat)
  case atStart => exact ⟨0, Nat.zero_le _, rfl, rfl, hbw⟩
  case round =>
    obtain ⟨k, hk, rfl, rfl, hB⟩ := hrel
    by_cases hlt : k < f.nodes.length
    · obtain ⟨g, off, lv, rfl, hg, hc, he, hml⟩ := HH.out k hlt
      have HS := Lib.hid (sumD_take hlt)
      have hle := sumD_pre f.nodes (k + 1)
      obtain ⟨d0, d1, d2, d3, d4, d5, d6⟩ := hc.below hB hg
      obtain ⟨q, hqq⟩ : ∃ q, q = f.nodes[k] := ⟨_, rfl⟩
      rw [← hqq] at d0 d1 d2 d3 d4 d5 he hml HS
      obtain ⟨o2, c2, rfl, _, _⟩ := id he
      have HZ : Hid ((bs q.data).size = q.data.length) := Lib.hid (bs_size _)
      have hT2 : sumD (f.nodes.take k) + q.data.length ≤ 1048576 := by rw [HS.out] at hle; omega
      have hx : (bs q.data).size + sumD (f.nodes.take k) ≤ 1048576 := by rw [HZ.out]; omega
      obtain ⟨x, hxx⟩ : ∃ x, x = bs q.data := ⟨_, rfl⟩
      rw [← hxx] at d5 hx HZ
      have HX := Lib.hid hxx
      clear hc he hml hqq hxx hle
      go_wp2
      go_roundw
      case rel =>
        refine ⟨k + 1, hlt, by go_num, by rw [HS.out, ← HZ.out]; go_num, ?_⟩
        exact hB.alloc hB.size _
      case measure => simp [intOf]; omega
    · have HT : Hid (f.nodes.take k = f.nodes) := Lib.hid (List.take_of_length_le (by omega))
      go_wp2
      go_ret
      exact ⟨ret_int (by rw [HT.out]), hB⟩

def tot {α : Type} (g : α → Nat) (l : List α) : Nat := (l.map g).sum
theorem tot_take {α : Type} (g : α → Nat) {l : List α} {k : Nat} (h : k < l.length) : tot g (l.take (k + 1)) = tot g (l.take k) + g l[k] := by
  unfold tot; rw [List.take_succ_eq_append_getElem h]; simp only [List.map_append, List.sum_append, List.map_cons, List.map_nil, List.sum_cons, List.sum_nil, Nat.add_zero]
theorem tot_pre {α : Type} (g : α → Nat) (l : List α) (k : Nat) : tot g (l.take k) ≤ tot g l := by
  conv => rhs; rw [← List.take_append_drop k l]
  unfold tot; rw [List.map_append, List.sum_append]; omega
theorem tot_le {α : Type} {g g' : α → Nat} (h : ∀ a, g a ≤ g' a) (l : List α) : tot g l ≤ tot g' l := by
  unfold tot
  induction l with
  | nil => simp
  | cons a r ih => simp only [List.map_cons, List.sum_cons]; have := h a; omega

def one (node : Int) (e : Ent) : Nat := if e.node = node then 1 else 0
def linksE (node : Int) (es : List Ent) : Nat := tot (one node) es
def links (node : Int) (ns : List Nod) : Nat := tot (fun n => linksE node n.list) ns
theorem linksE_le (node : Int) (es : List Ent) : linksE node es ≤ es.length := by
  unfold linksE tot
  induction es with
  | nil => simp
  | cons a r ih => 
    have : one node a ≤ 1 := by unfold one; split <;> omega
    simp only [List.map_cons, List.sum_cons, List.length_cons]; omega
theorem links_le (node : Int) (ns : List Nod) : links node ns ≤ szNs ns := by
  unfold links szNs
  exact tot_le (g' := szN) (fun n => by have := linksE_le node n.list; unfold szN; omega) ns

set_option maxHeartbeats 4000000 in
theorem l3Links_any (f : FsD) (node : Int) (v : Value) (w : World) (hR : FsA w v f) (hs : szF f ≤ 1048576) : Calls Tryz.prog 80 #[v, .int .i64 node] w fun e w' => e = .returned (.int .i64 (links node f.nodes : Nat)) ∧ Below w.heap.size w w' := by
  obtain ⟨nv, rfl, hN⟩ := hR
  obtain ⟨o, c, rfl, hm, hH⟩ := hN
  have HH := Lib.hid hH
  clear hH
  unfold maxLen at hm
  have hT : links node f.nodes ≤ 1048576 := by have := links_le node f.nodes; unfold szF at hs; omega
  have hl : f.nodes.length ≤ 1048576 := by unfold szF at hs; omega
  have hL : ∀ n ∈ f.nodes, n.list.length ≤ 1048576 := fun n hn => ((lists_small hs).2 n hn).1
  have HL := Lib.hid hL
  clear hs hL
  go_enter Tryz.func80, Tryz.ntmps80
  go_wp2
  have hbw : Below w.heap.size w (w.alloc (.cells #[.slice o f.nodes.length c, .int .i64 f.room] 32)) := (Below.refl _ _).alloc (Nat.le_refl _) _
  go_loopw [5, 13] (fun t i wr => ∃ k : Nat, k ≤ f.nodes.length ∧ i = .int .i64 k ∧ t = .int .i64 (links node (f.nodes.take k) : Nat) ∧ Below w.heap.size w wr) (fun _ i _ => f.nodes.length - (intOf i).toNat)
  case atStart => exact ⟨0, Nat.zero_le _, rfl, rfl, hbw⟩
  case round =>
    obtain ⟨k, hk, rfl, rfl, hB⟩ := hrel
    by_cases hlt : k < f.nodes.length
    · obtain ⟨g, off, lv, rfl, hg, hc, he, hml⟩ := HH.out k hlt
      have HS : Hid (links node (f.nodes.take (k + 1)) = links node (f.nodes.take k) + linksE node f.nodes[k].list) := Lib.hid (tot_take _ hlt)
      have hle : links node (f.nodes.take (k + 1)) ≤ links node f.nodes := tot_pre _ f.nodes (k + 1)
      obtain ⟨d0, d1, d2, d3, d4, d5, d6⟩ := hc.below hB hg
      have hq2 := HL.out f.nodes[k] (List.getElem_mem hlt)
      obtain ⟨q, hqq⟩ : ∃ q, q = f.nodes[k] := ⟨_, rfl⟩
      rw [← hqq] at d0 d1 d2 d3 d4 d5 he hml HS hq2
      obtain ⟨o2, c2, rfl, -, hE⟩ := id he
      have HE := Lib.hid hE
      have hT2 : links node (f.nodes.take k) + linksE node q.list ≤ 1048576 := by rw [HS.out] at hle; omega
      obtain ⟨x, hxx⟩ : ∃ x, x = bs q.data := ⟨_, rfl⟩
      rw [← hxx] at d5
      clear hc he hml hqq hxx hle hE
      go_wp2
      go_loopw [5, 20] (fun t i wi => ∃ j : Nat, j ≤ q.list.length ∧ i = .int .i64 j ∧ t = .int .i64 ((links node (f.nodes.take k) + linksE node (q.list.take j) : Nat) : Int) ∧ Below w.heap.size w wi) (fun _ i _ => q.list.length - (intOf i).toNat)
      case atStart =>
        exact ⟨0, Nat.zero_le _, rfl, rfl, hB.alloc hB.size _⟩
      case round =>
        obtain ⟨j, hj, rfl, rfl, hB2⟩ := hrel
        by_cases hlt2 : j < q.list.length
        · obtain ⟨g2, f2, rfl, q2, x2, y2, _⟩ := HE.out j hlt2
          have HS2 : Hid (linksE node (q.list.take (j + 1)) = linksE node (q.list.take j) + one node q.list[j]) := Lib.hid (tot_take _ hlt2)
          have hle2 : linksE node (q.list.take (j + 1)) ≤ linksE node q.list := tot_pre _ q.list (j + 1)
          have a1 := (hB2.cell (p := ⟨g2, f2 + j * 2, none⟩) q2).trans x2
          have a2 := (hB2.cell (p := ⟨g2, f2 + j * 2 + 1, none⟩) q2).trans y2
          obtain ⟨z, hzz⟩ : ∃ z, z = q.list[j] := ⟨_, rfl⟩
          rw [← hzz] at a1 a2 HS2
          obtain ⟨y, hyy⟩ : ∃ y, y = bs z.name := ⟨_, rfl⟩
          rw [← hyy] at a1
          obtain ⟨r, hr⟩ : ∃ r, r = z.node := ⟨_, rfl⟩
          rw [← hr] at a2
          have HZ : Hid (one node z = if r = node then 1 else 0) := Lib.hid (by rw [hr]; rfl)
          clear x2 y2 hzz hyy hr
          by_cases hrn : r = node
          · have HO : Hid (one node z = 1) := Lib.hid (by rw [HZ.out, if_pos hrn])
            have hx3 : links node (f.nodes.take k) + linksE node (q.list.take j) + 1 ≤ 1048576 := by rw [HS2.out, HO.out] at hle2; omega
            clear HZ hle2
            go_wp2
            go_roundw
            case rel =>
              exact ⟨j + 1, hlt2, by go_num, by rw [HS2.out, HO.out]; go_num, hB2.alloc hB2.size _⟩
            case measure => simp [intOf]; omega
          · have HO : Hid (one node z = 0) := Lib.hid (by rw [HZ.out, if_neg hrn])
            clear HZ hle2
            go_wp2
            go_roundw
            case rel =>
              exact ⟨j + 1, hlt2, by go_num, by rw [HS2.out, HO.out]; go_num, hB2.alloc hB2.size _⟩
            case measure => simp [intOf]; omega
        · have HT : Hid (q.list.take j = q.list) := Lib.hid (List.take_of_length_le (by omega))
          go_wp2
          go_roundw
          case rel => exact ⟨k + 1, hlt, by go_num, by rw [HS.out, HT.out], hB2⟩
          case measure => simp [intOf]; omega
    · have HT : Hid (f.nodes.take k = f.nodes) := Lib.hid (List.take_of_length_le (by omega))
      go_wp2
      go_ret
      exact ⟨ret_int (by rw [HT.out]), hB⟩

theorem lt_of_heap {w : World} {b : Nat} {o : Obj} (h : w.heap[b]? = some o) : b < w.heap.size := (Array.getElem?_eq_some_iff.1 h).1
def freeAt (ns : List Nod) : Int := match ns.findIdx? (fun n => n.kind == 0) with
  | some k => k
  | none => if ns.length = 40 then -1 else ns.length
theorem findIdx_is {α : Type} {p : α → Bool} {l : List α} {k : Nat} (h : k < l.length) (hp : p l[k] = true) (hn : ∀ j (hj : j < l.length), j < k → p l[j] = false) : l.findIdx? p = some k :=
  List.findIdx?_eq_some_iff_getElem.2 ⟨h, hp, fun j hj => by rw [hn j (by omega) hj]; simp⟩
theorem findIdx_not {α : Type} {p : α → Bool} {l : List α} (hn : ∀ j (hj : j < l.length), p l[j] = false) : l.findIdx? p = none := by
  rw [List.findIdx?_eq_none_iff]
  intro x hx
  obtain ⟨j, hj, rfl⟩ := List.getElem_of_mem hx
  exact hn j hj

def hasE (node : Int) (es : List Ent) : Bool := es.any fun e => e.node == node
def parentOf (node : Int) (ns : List Nod) : Nat := match ns.findIdx? (fun n => hasE node n.list) with
  | some k => k
  | none => 0

set_option maxHeartbeats 4000000 in
theorem l3Parent_any (f : FsD) (node : Int) (v : Value) (w : World) (hR : FsA w v f) (hs : szF f ≤ 1048576) : Calls Tryz.prog 108 #[v, .int .i64 node] w fun e w' => e = .returned (.int .i64 (parentOf node f.nodes : Nat)) ∧ Below w.heap.size w w' := by
  obtain ⟨nv, rfl, hN⟩ := hR
  obtain ⟨o, c, rfl, hm, hH⟩ := hN
  have HH := Lib.hid hH
  clear hH
  unfold maxLen at hm
  have hl : f.nodes.length ≤ 1048576 := by unfold szF at hs; omega
  have hL : ∀ n ∈ f.nodes, n.list.length ≤ 1048576 := fun n hn => ((lists_small hs).2 n hn).1
  have HL := Lib.hid hL
  clear hs hL
  go_enter Tryz.func108, Tryz.ntmps108
  go_wp2
  have hbw : Below w.heap.size w (w.alloc (.cells #[.slice o f.nodes.length c, .int .i64 f.room] 32)) := (Below.refl _ _).alloc (Nat.le_refl _) _
  go_loopw [12] (fun i wr => ∃ k : Nat, k ≤ f.nodes.length ∧ i = .int .i64 k ∧ Below w.heap.size w wr ∧ ∀ j (hj : j < f.nodes.length), j < k → hasE node f.nodes[j].list = false) (fun i _ => f.nodes.length - (intOf i).toNat)
  case atStart => exact ⟨0, Nat.zero_le _, rfl, hbw, fun j hj h => absurd h (Nat.not_lt_zero _)⟩
  case round =>
    obtain ⟨k, hk, rfl, hB, hj⟩ := hrel
    have HJ := Lib.hid hj
    clear hj
    by_cases hlt : k < f.nodes.length
    · obtain ⟨g, off, lv, rfl, hg, hc, he, hml⟩ := HH.out k hlt
      obtain ⟨d0, d1, d2, d3, d4, d5, d6⟩ := hc.below hB hg
      have hq2 := HL.out f.nodes[k] (List.getElem_mem hlt)
      obtain ⟨q, hqq⟩ : ∃ q, q = f.nodes[k] := ⟨_, rfl⟩
      have HQ := Lib.hid hqq
      rw [← hqq] at d0 d1 d2 d3 d4 d5 he hml hq2
      obtain ⟨o2, c2, rfl, -, hE⟩ := id he
      have HE := Lib.hid hE
      obtain ⟨x, hxx⟩ : ∃ x, x = bs q.data := ⟨_, rfl⟩
      rw [← hxx] at d5
      clear hc he hml hqq hxx hE
      go_wp2
      go_loopw [20] (fun i wi => ∃ j : Nat, j ≤ q.list.length ∧ i = .int .i64 j ∧ Below w.heap.size w wi ∧ ∀ m (hm : m < q.list.length), m < j → (q.list[m].node == node) = false) (fun i _ => q.list.length - (intOf i).toNat)
      case atStart =>
        exact ⟨0, Nat.zero_le _, rfl, hB.alloc hB.size _, fun j hj h => absurd h (Nat.not_lt_zero _)⟩
      case round =>
        obtain ⟨j, hj, rfl, hB2, hM⟩ := hrel
        have HM := Lib.hid hM
        clear hM
        by_cases hlt2 : j < q.list.length
        · obtain ⟨g2, f2, rfl, q2, x2, y2, _⟩ := HE.out j hlt2
          have a1 := (hB2.cell (p := ⟨g2, f2 + j * 2, none⟩) q2).trans x2
          have a2 := (hB2.cell (p := ⟨g2, f2 + j * 2 + 1, none⟩) q2).trans y2
          obtain ⟨z, hzz⟩ : ∃ z, z = q.list[j] := ⟨_, rfl⟩
          have HZ := Lib.hid hzz
          rw [← hzz] at a1 a2
          obtain ⟨y, hyy⟩ : ∃ y, y = bs z.name := ⟨_, rfl⟩
          rw [← hyy] at a1
          obtain ⟨r, hr⟩ : ∃ r, r = z.node := ⟨_, rfl⟩
          have HR := Lib.hid hr
          rw [← hr] at a2
          clear x2 y2 hzz hyy hr
          by_cases hrn : r = node
          · have HF : Hid (parentOf node f.nodes = k) := Lib.hid (by
              unfold parentOf
              rw [findIdx_is (p := fun n => hasE node n.list) hlt (by
                show hasE node f.nodes[k].list = true
                rw [← HQ.out]
                unfold hasE
                rw [List.any_eq_true]
                exact ⟨q.list[j], List.getElem_mem hlt2, by rw [← HZ.out, ← HR.out, hrn]; simp⟩) HJ.out])
            go_wp2
            go_ret
            exact ⟨ret_int (by rw [HF.out]), hB2.alloc hB2.size _⟩
          · have HM2 : Hid (∀ m (hm : m < q.list.length), m < j + 1 → (q.list[m].node == node) = false) := Lib.hid (by
              intro m hm h
              rcases Nat.lt_succ_iff_lt_or_eq.1 h with h1 | rfl
              · exact HM.out m hm h1
              · rw [← HZ.out, ← HR.out]; simpa using hrn)
            go_wp2
            go_roundw
            case rel =>
              exact ⟨j + 1, hlt2, by go_num, hB2.alloc hB2.size _, HM2.out⟩
            case measure => simp [intOf]; omega
        · have HJ2 : Hid (∀ j (hj : j < f.nodes.length), j < k + 1 → hasE node f.nodes[j].list = false) := Lib.hid (by
            intro i hi h
            rcases Nat.lt_succ_iff_lt_or_eq.1 h with h1 | rfl
            · exact HJ.out i hi h1
            · rw [← HQ.out]
              unfold hasE
              rw [List.any_eq_false]
              intro e he
              obtain ⟨m, hm, rfl⟩ := List.getElem_of_mem he
              rw [HM.out m hm (by omega)]; simp)
          go_wp2
          go_roundw
          case rel => exact ⟨k + 1, hlt, by go_num, hB2, HJ2.out⟩
          case measure => simp [intOf]; omega
    · have HF : Hid (parentOf node f.nodes = 0) := Lib.hid (by
        unfold parentOf
        rw [findIdx_not (p := fun n => hasE node n.list) (fun j hj => HJ.out j hj (by omega))])
      go_wp2
      go_ret
      exact ⟨ret_int (by rw [HF.out]; rfl), hB⟩
end Go.Proofs.YtbmbbioanlcioaaGreatDoor


/-
  The contract of the model's range test l1In.
  Conditions: none.
-/
namespace Go.Proofs.YtbmbbioanlcioaaGreatDoor
open Go.ChangeShapes Go.WideShapes Go.ChangeAt Go.RowKit Go.Joins
set_option linter.unusedVariables false

set_option maxHeartbeats 400000 in
theorem l1In_any (n lo hi : Int) (w : World) : Calls Tryz.prog 52 #[.int .i64 n, .int .i64 lo, .int .i64 hi] w fun e w' => e = .returned (.bool (inB lo hi n)) ∧ w = w' := by
  by_cases h0 : lo ≤ n
  · by_cases h1 : n ≤ hi
    · go_enter Tryz.func52, Tryz.ntmps52
      go_wp2
      go_ret
      exact ⟨ret_bool (inB_mk h0 h1), rfl⟩
    · go_enter Tryz.func52, Tryz.ntmps52
      go_wp2
      go_ret
      exact ⟨ret_bool (inB_no (by omega)), rfl⟩
  · go_enter Tryz.func52, Tryz.ntmps52
    go_wp2
    go_ret
    exact ⟨ret_bool (inB_no (by omega)), rfl⟩
end Go.Proofs.YtbmbbioanlcioaaGreatDoor


/-
  Contracts of the tests of a name on both sides: impl.isNameSign, impl.isPart, impl.GoodName, spec.l1In, spec.l2Name, spec.GoodName.
  Conditions: a rune is a number of 32 bits; a text's length is a length.
-/
namespace Go.Proofs.YtbmbbioanlcioaaGreatDoor
open Go.ChangeShapes Go.WideShapes Go.ChangeAt Go.RowKit Go.Joins
set_option linter.unusedVariables false

theorem sign_yes {n : Nat} (h : 97 ≤ n ∧ n ≤ 122 ∨ 48 ≤ n ∧ n ≤ 57 ∨ n = 46 ∨ n = 95 ∨ n = 45) : true = signN n := by simp [signN, h]

set_option maxHeartbeats 1000000 in
theorem sign_any (n : Nat) (w : World) (h : n ≤ 2147483647) : Calls Tryz.prog 145 #[.int .i32 (n : Int)] w fun e w' => e = .returned (.bool (signN n)) ∧ w = w' := by
  go_enter Tryz.func145, Tryz.ntmps145
  go_wp2
  all_goals
    go_ret
    exact ⟨ret_bool (by rw [Bool.eq_iff_iff]; simp [signN]; omega), rfl⟩

theorem below_iter (w : World) (s : ByteArray) (p : Nat) : Below w.heap.size w (w.iter s p) := (Below.refl _ _).alloc (Nat.le_refl _) _

theorem part_no {l : List UInt8} (h : ¬ (1 ≤ l.length ∧ l.length ≤ 8)) : false = partB l := by simp [partB, h]
theorem part_in {l : List UInt8} (h : 1 ≤ l.length ∧ l.length ≤ 8) : partB l = signsB l := by simp [partB, h]
theorem signs_bad {s : ByteArray} {k : Nat} (h : k < s.size) (hb : signN (s[k]'h).toNat = false) : signsB s.data.toList = false := by
  unfold signsB
  rw [List.all_eq_false]
  exact ⟨s[k]'h, List.getElem_mem (by simpa using h), by simp [hb]⟩

set_option maxHeartbeats 1000000 in
theorem isPart_any (s : ByteArray) (w : World) : Calls Tryz.prog 133 #[.string s] w fun e w' => e = .returned (.bool (partB s.data.toList)) ∧ Below w.heap.size w w' := by
  have hl : s.data.toList.length = s.size := len_size s
  by_cases h1 : 1 ≤ s.size
  · by_cases h8 : s.size ≤ 8
    · have e0 : ¬ ((s.size : Int) < 1) := by omega
      have e8 : ¬ (8 < (s.size : Int)) := by omega
      have HP := Lib.hid (part_in (l := s.data.toList) (by omega))
      have HL := Lib.hid hl
      clear hl
      go_enter Tryz.func133, Tryz.ntmps133
      go_wp2
      go_loopw [] (fun wr => ∃ k : Nat, wr = w.iter s k ∧ k ≤ s.size ∧ signsB (s.data.toList.take k) = true) (fun wr => s.size - wr.iterPos w.heap.size)
      case atStart => exact ⟨0, rfl, Nat.zero_le _, rfl⟩
      case round =>
        obtain ⟨k, rfl, hk, hs⟩ := hrel
        have HS := Lib.hid hs
        clear hs
        by_cases hlt : k < s.size
        · by_cases hg : signN (s[k]'hlt).toNat = true
          · have HG := Lib.hid hg
            have hnx := fun ty => run_next_ascii (P := Tryz.prog) w s k ty hlt (signN_lt hg)
            clear hg
            go_wp2_with (go_at_call 145; refine (sign_any _ _ (by have := (s[k]'hlt).toNat_lt; omega)).mono ?_; rintro e w' ⟨rfl, rfl⟩; rw [HG.out])
            go_roundw
            case rel => exact ⟨k + 1, rfl, hlt, by rw [take_snoc' s k hlt, signsB_snoc, HS.out, HG.out]; rfl⟩
            case measure => simp; omega
          · have hr : signN (Utf8.decode s k).1 = false := by
              by_cases ha : (s[k]'hlt).toNat < 128
              · rw [decode_ascii s k hlt ha]; simpa using hg
              · exact signN_hi (decode_high s k hlt (by omega)).1
            have HR := Lib.hid hr
            have HB := Lib.hid (signs_bad hlt (by simpa using hg))
            have hnx := fun ty => run_next_any (P := Tryz.prog) w s k ty hlt
            have hdl := decode_le s k
            clear hg hr
            go_wp2_with (go_at_call 145; refine (sign_any _ _ hdl).mono ?_; rintro e w' ⟨rfl, rfl⟩; rw [HR.out])
            go_ret
            exact ⟨ret_bool (by rw [HP.out, HB.out]), below_iter _ _ _⟩
        · have hnx := fun ty => run_next_end (P := Tryz.prog) w s k ty hlt
          go_wp2
          go_ret
          refine ⟨ret_bool ?_, below_iter _ _ _⟩
          rw [HP.out, ← HS.out, List.take_of_length_le (by rw [HL.out]; omega)]
    · have e0 : ¬ ((s.size : Int) < 1) := by omega
      have HP := Lib.hid (part_no (l := s.data.toList) (by omega))
      clear hl
      go_enter Tryz.func133, Tryz.ntmps133
      go_wp2
      go_ret
      exact ⟨ret_bool HP.out, Below.refl _ _⟩
  · have HP := Lib.hid (part_no (l := s.data.toList) (by omega))
    clear hl
    go_enter Tryz.func133, Tryz.ntmps133
    go_wp2
    go_ret
    exact ⟨ret_bool HP.out, Below.refl _ _⟩
end Go.Proofs.YtbmbbioanlcioaaGreatDoor


/-
  Contracts of impl.GoodName, spec.l2Name, spec.GoodName.
  Conditions: a text's length is a length.
-/
namespace Go.Proofs.YtbmbbioanlcioaaGreatDoor
open Go.ChangeShapes Go.WideShapes Go.ChangeAt Go.RowKit Go.Joins
set_option linter.unusedVariables false

set_option maxHeartbeats 1000000 in
theorem goodName_any (s : ByteArray) (w : World) : Calls Tryz.prog 148 #[.string s] w fun e w' => e = .returned (.bool (nameB s.data.toList)) ∧ Below w.heap.size w w' := by
  go_enter Tryz.func148, Tryz.ntmps148
  go_wp2_with fail
  refine (isPart_any _ _).mono ?_
  rintro e w' ⟨rfl, hb⟩
  go_wp2
  all_goals
    go_ret
    refine ⟨ret_bool ?_, hb⟩
    try simp only [ByteArray.toList_eq] at *
    simp [nameB, *]

theorem name_no {l : List UInt8} (h : signsB l = false) : false = nameB l := by simp [nameB, partB, h]
theorem name_in {l : List UInt8} (h : signsB l = true) : nameB l = (inB 1 8 l.length && (!(l == [46]) && !(l == [46, 46]))) := by
  have : decide (1 ≤ l.length ∧ l.length ≤ 8) = inB 1 8 l.length := by
    rw [Bool.eq_iff_iff]; simp [inB]; omega
  simp only [nameB, partB, h, this, Bool.and_true]

set_option maxHeartbeats 1000000 in
theorem l2Name_any (s : ByteArray) (w : World) (hs : s.size ≤ maxLen) : Calls Tryz.prog 131 #[.string s] w fun e w' => e = .returned (.bool (nameB s.data.toList)) ∧ w = w' := by
  unfold maxLen at hs
  go_enter Tryz.func131, Tryz.ntmps131
  go_wp2
  go_loop [3] (fun i => ∃ k : Nat, k ≤ s.size ∧ i = .int .i64 k ∧ signsB (s.data.toList.take k) = true) (fun i => s.size - (intOf i).toNat)
  case atStart => exact ⟨0, Nat.zero_le _, rfl, rfl⟩
  case round =>
    obtain ⟨k, hk, rfl, hg⟩ := hrel
    have HG := Lib.hid hg
    clear hg
    by_cases hlt : k < s.size
    · go_wp2
      all_goals first
        | (go_round
           case rel => exact ⟨k + 1, hlt, by go_num, by rw [take_snoc' s k hlt, signsB_snoc, HG.out]; simp at *; simp [signN]; omega⟩
           case measure => simp [intOf]; omega)
        | (go_ret
           refine ⟨ret_bool (name_no (signs_bad hlt ?_)), rfl⟩
           simp at *; simp [signN]; omega)
    · have HN := Lib.hid (name_in (l := s.data.toList) (by rw [← HG.out, List.take_of_length_le (by rw [len_size]; omega)]))
      go_wp2_with (go_at_call 52; refine (l1In_any _ _ _ _).mono ?_; rintro e w' ⟨rfl, rfl⟩)
      all_goals
        go_ret
        refine ⟨ret_bool ?_, rfl⟩
        rw [HN.out]
        simp only [ByteArray.toList_eq, len_size] at *
        simp [*]

end Go.Proofs.YtbmbbioanlcioaaGreatDoor


/-
  The model's l3Entries: a directory's list is in order, its names and nodes are good.
  Conditions: at most 2^20 values and letters together.
-/
namespace Go.Proofs.YtbmbbioanlcioaaGreatDoor
open Go.ChangeShapes Go.WideShapes Go.ChangeAt Go.RowKit Go.Joins
set_option linter.unusedVariables false

def kindAt (ns : List Nod) (i : Int) : Int := (ns.getD i.toNat ⟨0, 0, 0, 0, 0, [], []⟩).kind
def entOk (ns : List Nod) (es : List Ent) (k : Nat) : Bool :=
  nameB (es.getD k ⟨[], 0⟩).name && (k == 0 || Op.bytesLess (es.getD (k - 1) ⟨[], 0⟩).name (es.getD k ⟨[], 0⟩).name) && inB 1 ((ns.length : Int) - 1) (es.getD k ⟨[], 0⟩).node && !(kindAt ns (es.getD k ⟨[], 0⟩).node == 0)
def entsOk (ns : List Nod) (es : List Ent) : Bool := (List.range es.length).all (entOk ns es)

theorem bsl (l : List UInt8) : (bs l).toList = l := by rw [ByteArray.toList_eq]; simp [bs]
theorem entsOk_no {ns : List Nod} {es : List Ent} {k : Nat} (hk : k < es.length) (h : entOk ns es k = false) : entsOk ns es = false := by
  unfold entsOk
  rw [List.all_eq_false]
  exact ⟨k, List.mem_range.2 hk, by rw [h]; simp⟩
theorem entsOk_yes {ns : List Nod} {es : List Ent} (h : ∀ k, k < es.length → entOk ns es k = true) : entsOk ns es = true := by
  unfold entsOk
  rw [List.all_eq_true]
  exact fun k hk => h k (List.mem_range.1 hk)

theorem l1In_is {n lo hi : Int} {b : Bool} (h : inB lo hi n = b) (w : World) : Calls Tryz.prog 52 #[.int .i64 n, .int .i64 lo, .int .i64 hi] w fun e w' => e = .returned (.bool b) ∧ Below w.heap.size w w' :=
  (l1In_any n lo hi w).mono fun e w' ⟨h1, h2⟩ => ⟨by rw [h1, h], by rw [← h2]; exact Below.refl _ _⟩
theorem l2Name_is {l : List UInt8} {b : Bool} (h : nameB l = b) (hl : l.length ≤ maxLen) (s : ByteArray) (hs : s = bs l) (w : World) : Calls Tryz.prog 131 #[.string s] w fun e w' => e = .returned (.bool b) ∧ Below w.heap.size w w' :=
  (l2Name_any s w (by rw [hs, bs_size]; exact hl)).mono fun e w' ⟨h1, h2⟩ => ⟨by rw [h1, hs, ← h]; simp [bs], by rw [← h2]; exact Below.refl _ _⟩

set_option maxHeartbeats 4000000 in
theorem l3Entries_any (f : FsD) (es : List Ent) (v lv : Value) (w : World) (hR : FsA w v f) (hE0 : EntsA w lv es) (hs : f.nodes.length ≤ 1048576) (hs2 : es.length ≤ 1048576) : Calls Tryz.prog 117 #[v, lv] w fun e w' => e = .returned (.bool (entsOk f.nodes es)) ∧ Below w.heap.size w w' := by
  obtain ⟨nv, rfl, hN⟩ := hR
  obtain ⟨o, c, rfl, hm, hH⟩ := hN
  have HH := Lib.hid hH
  obtain ⟨o2, c2, rfl, -, hE⟩ := hE0
  have HE := Lib.hid hE
  clear hH hE
  unfold maxLen at hm
  have hbw : Below w.heap.size w (w.alloc (.cells #[.slice o f.nodes.length c, .int .i64 f.room] 32)) := (Below.refl _ _).alloc (Nat.le_refl _) _
  have hk0 := heap_alloc_new w (.cells #[.slice o f.nodes.length c, .int .i64 f.room] 32)
  go_enter Tryz.func117, Tryz.ntmps117
  go_wp2
  go_loopw [9] (fun i wr => ∃ k : Nat, k ≤ es.length ∧ i = .int .i64 k ∧ Below w.heap.size w wr ∧ wr.heap[w.heap.size]? = some (.cells #[.slice o f.nodes.length c, .int .i64 f.room] 32) ∧ ∀ j, j < k → entOk f.nodes es j = true) (fun i _ => es.length - (intOf i).toNat)
  case atStart => exact ⟨0, Nat.zero_le _, rfl, hbw, hk0, fun j h => absurd h (Nat.not_lt_zero _)⟩
  case round =>
    obtain ⟨k, hk, rfl, hB, hb, hj⟩ := hrel
    have HJ := Lib.hid hj
    clear hj hbw hk0
    by_cases hlt : k < es.length
    · obtain ⟨g2, f2, rfl, q2, x2, y2, hn⟩ := HE.out k hlt
      have HK : Hid (es.getD k ⟨[], 0⟩ = es[k]) := Lib.hid (by simp [List.getD, hlt])
      have a1 := (hB.cell (p := ⟨g2, f2 + k * 2, none⟩) q2).trans x2
      have a2 := (hB.cell (p := ⟨g2, f2 + k * 2 + 1, none⟩) q2).trans y2
      obtain ⟨z, hzz⟩ : ∃ z, z = es[k] := ⟨_, rfl⟩
      rw [← hzz] at a1 a2 HK hn
      obtain ⟨y, hyy⟩ : ∃ y, y = bs z.name := ⟨_, rfl⟩
      have HY := Lib.hid hyy
      rw [← hyy] at a1
      obtain ⟨r, hr⟩ : ∃ r, r = z.node := ⟨_, rfl⟩
      have HR := Lib.hid hr
      rw [← hr] at a2
      have HNL := Lib.hid hn
      have HB1 : Hid (∀ oo, Below w.heap.size w (wr.alloc oo)) := Lib.hid (fun oo => hB.alloc hB.size oo)
      have HW : Hid (∀ oo, (wr.alloc oo).heap[w.heap.size]? = some (.cells #[.slice o f.nodes.length c, .int .i64 f.room] 32)) := Lib.hid (fun oo => (Below.heap_alloc _ _ _ (lt_of_heap hb)).trans hb)
      have e0 := cell_blk (heap_alloc_new wr (.cells #[.string y, .int .i64 r] 152)) 0
      have e1 := cell_blk (heap_alloc_new wr (.cells #[.string y, .int .i64 r] 152)) 1
      have s0 := cell_blk (HW.out (.cells #[.string y, .int .i64 r] 152)) 0
      clear x2 y2 hzz hyy hr hn
      go_wp2
      have HB2 := Lib.hid (HB1.out (.cells #[.string y, .int .i64 r] 152))
      have HW2 := Lib.hid (HW.out (.cells #[.string y, .int .i64 r] 152))
      obtain ⟨W2, hW2⟩ : ∃ W2, wr.alloc (.cells #[.string y, .int .i64 r] 152) = W2 := ⟨_, rfl⟩
      rw [hW2] at e0 e1 s0 HB2 HW2 ⊢
      have e0' := e0.trans rfl
      have e1' := e1.trans rfl
      have s0' := s0.trans rfl
      clear hW2 HW HB1 e0 e1 s0
      have z0 := fun d os => cell_regrown (w := W2) e0' d os
      have z1 := fun d os => cell_regrown (w := W2) e1' d os
      have z2 := fun d os => cell_regrown (w := W2) s0' d os
      by_cases hna : nameB z.name = true
      · have HA := Lib.hid hna
        clear hna
        rcases Nat.eq_zero_or_pos k with rfl | hpos
        · skip
          by_cases hc : inB 1 ((f.nodes.length : Int) - 1) r = true
          · have HC := Lib.hid hc
            obtain ⟨r1, r2⟩ := inB_t hc
            obtain ⟨m, rfl⟩ : ∃ m : Nat, r = m := ⟨r.toNat, by omega⟩
            have hml : m < f.nodes.length := by omega
            obtain ⟨g, off, nl, rfl, hg, hcc, -, -⟩ := HH.out m hml
            have d0 := (HB2.out.cell (p := ⟨g, off + m * 7, none⟩) hg).trans hcc.c0
            obtain ⟨kd, hkd⟩ : ∃ kd, kd = f.nodes[m].kind := ⟨_, rfl⟩
            rw [← hkd] at d0
            have HKD : Hid (kindAt f.nodes (m : Int) = kd) := Lib.hid (by rw [hkd]; simp [kindAt, List.getD, hml])
            have z3 := fun d os => cell_regrown (w := W2) d0 d os
            clear hcc hkd hc
            by_cases hz : kd = 0
            · have HF : Hid (entsOk f.nodes es = false) := Lib.hid (entsOk_no hlt (by unfold entOk; rw [HK.out, HA.out, ← HR.out, HKD.out, hz]; simp))
              subst hz
              refine wp_region_quiet_below (by kernel_rfl) (by kernel_rfl) ?_
              repeat (first | go_big_quiet_step ((first | (go_at_call 131; exact Calls.regrown_of (l2Name_is HA.out HNL.out _ HY.out _)) | (go_at_call 52; exact Calls.regrown_of (l1In_is HC.out _)))) | quiet_step ((first | (go_at_call 131; exact Calls.regrown_of (l2Name_is HA.out HNL.out _ HY.out _)) | (go_at_call 52; exact Calls.regrown_of (l1In_is HC.out _)))))
              refine wpQuiet_nil ?_
              intro w5 hwq
              have hb5 : Below W2.heap.size W2 w5 := by
                obtain ⟨pp, rfl⟩ := hwq
                exact below_regrown _ _ _
              have HB5 := Lib.hid (HB2.out.trans (hb5.mono HB2.out.size))
              have HW5 := Lib.hid ((hb5.block w.heap.size (lt_of_heap HW2.out)).trans HW2.out)
              clear hwq hb5
              go_wp2
              go_ret
              exact ⟨ret_bool HF.out.symm, HB5.out⟩
            · have HO : Hid (entOk f.nodes es (0) = true) := Lib.hid (by unfold entOk; rw [HK.out, HA.out, ← HR.out, HKD.out, HC.out]; simp [hz])
              have HJ2 : Hid (∀ i, i < 0 + 1 → entOk f.nodes es i = true) := Lib.hid (by
                intro i h
                rcases Nat.lt_succ_iff_lt_or_eq.1 h with h1 | rfl
                · exact HJ.out i h1
                · exact HO.out)
              refine wp_region_quiet_below (by kernel_rfl) (by kernel_rfl) ?_
              repeat (first | go_big_quiet_step ((first | (go_at_call 131; exact Calls.regrown_of (l2Name_is HA.out HNL.out _ HY.out _)) | (go_at_call 52; exact Calls.regrown_of (l1In_is HC.out _)))) | quiet_step ((first | (go_at_call 131; exact Calls.regrown_of (l2Name_is HA.out HNL.out _ HY.out _)) | (go_at_call 52; exact Calls.regrown_of (l1In_is HC.out _)))))
              refine wpQuiet_nil ?_
              intro w5 hwq
              have hb5 : Below W2.heap.size W2 w5 := by
                obtain ⟨pp, rfl⟩ := hwq
                exact below_regrown _ _ _
              have HB5 := Lib.hid (HB2.out.trans (hb5.mono HB2.out.size))
              have HW5 := Lib.hid ((hb5.block w.heap.size (lt_of_heap HW2.out)).trans HW2.out)
              clear hwq hb5
              go_wp2
              go_roundw
              case rel => exact ⟨_, hlt, by go_num, HB5.out, HW5.out, HJ2.out⟩
              case measure => simp [intOf]; omega
          · have HC : Hid (inB 1 ((f.nodes.length : Int) - 1) r = false) := Lib.hid (by simpa using hc)
            have HF : Hid (entsOk f.nodes es = false) := Lib.hid (entsOk_no hlt (by unfold entOk; rw [HK.out, HA.out, ← HR.out, HC.out]; simp))
            clear hc
            refine wp_region_quiet_below (by kernel_rfl) (by kernel_rfl) ?_
            repeat (first | go_big_quiet_step ((first | (go_at_call 131; exact Calls.regrown_of (l2Name_is HA.out HNL.out _ HY.out _)) | (go_at_call 52; exact Calls.regrown_of (l1In_is HC.out _)))) | quiet_step ((first | (go_at_call 131; exact Calls.regrown_of (l2Name_is HA.out HNL.out _ HY.out _)) | (go_at_call 52; exact Calls.regrown_of (l1In_is HC.out _)))))
            refine wpQuiet_nil ?_
            intro w5 hwq
            have hb5 : Below W2.heap.size W2 w5 := by
              obtain ⟨pp, rfl⟩ := hwq
              exact below_regrown _ _ _
            have HB5 := Lib.hid (HB2.out.trans (hb5.mono HB2.out.size))
            have HW5 := Lib.hid ((hb5.block w.heap.size (lt_of_heap HW2.out)).trans HW2.out)
            clear hwq hb5
            go_wp2
            go_ret
            exact ⟨ret_bool HF.out.symm, HB5.out⟩
        · obtain ⟨j, rfl⟩ : ∃ j, k = j + 1 := ⟨k - 1, by omega⟩
          obtain ⟨g3, f3, e3, -, x3, -, -⟩ := HE.out j (by omega)
          obtain ⟨rfl, rfl⟩ : g2 = g3 ∧ f2 = f3 := by simpa using e3
          have p0 := (HB2.out.cell (p := ⟨g2, f2 + j * 2, none⟩) q2).trans x3
          obtain ⟨x, hx⟩ : ∃ x, x = bs es[j].name := ⟨_, rfl⟩
          rw [← hx] at p0
          have z4 := fun d os => cell_regrown (w := W2) p0 d os
          have HLT : Hid (Op.bytesLess (es.getD (j + 1 - 1) ⟨[], 0⟩).name z.name = Op.bytesLess x.toList y.toList) := Lib.hid (by
            have h1 : es.getD (j + 1 - 1) ⟨[], 0⟩ = es[j] := by simp [List.getD, show j < es.length by omega]
            rw [h1, hx, HY.out, bsl, bsl])
          clear x3 hx e3
          by_cases hl : Op.bytesLess x.toList y.toList = true
          · have HL : Hid (Op.bytesLess (es.getD (j + 1 - 1) ⟨[], 0⟩).name z.name = true) := Lib.hid (HLT.out.trans hl)
            by_cases hc : inB 1 ((f.nodes.length : Int) - 1) r = true
            · have HC := Lib.hid hc
              obtain ⟨r1, r2⟩ := inB_t hc
              obtain ⟨m, rfl⟩ : ∃ m : Nat, r = m := ⟨r.toNat, by omega⟩
              have hml : m < f.nodes.length := by omega
              obtain ⟨g, off, nl, rfl, hg, hcc, -, -⟩ := HH.out m hml
              have d0 := (HB2.out.cell (p := ⟨g, off + m * 7, none⟩) hg).trans hcc.c0
              obtain ⟨kd, hkd⟩ : ∃ kd, kd = f.nodes[m].kind := ⟨_, rfl⟩
              rw [← hkd] at d0
              have HKD : Hid (kindAt f.nodes (m : Int) = kd) := Lib.hid (by rw [hkd]; simp [kindAt, List.getD, hml])
              have z3 := fun d os => cell_regrown (w := W2) d0 d os
              clear hcc hkd hc
              by_cases hz : kd = 0
              · have HF : Hid (entsOk f.nodes es = false) := Lib.hid (entsOk_no hlt (by unfold entOk; rw [HK.out, HA.out, ← HR.out, HL.out, HKD.out, hz]; simp))
                subst hz
                refine wp_region_quiet_below (by kernel_rfl) (by kernel_rfl) ?_
                repeat (first | go_big_quiet_step ((first | (go_at_call 131; exact Calls.regrown_of (l2Name_is HA.out HNL.out _ HY.out _)) | (go_at_call 52; exact Calls.regrown_of (l1In_is HC.out _)))) | quiet_step ((first | (go_at_call 131; exact Calls.regrown_of (l2Name_is HA.out HNL.out _ HY.out _)) | (go_at_call 52; exact Calls.regrown_of (l1In_is HC.out _)))))
                refine wpQuiet_nil ?_
                intro w5 hwq
                have hb5 : Below W2.heap.size W2 w5 := by
                  obtain ⟨pp, rfl⟩ := hwq
                  exact below_regrown _ _ _
                have HB5 := Lib.hid (HB2.out.trans (hb5.mono HB2.out.size))
                have HW5 := Lib.hid ((hb5.block w.heap.size (lt_of_heap HW2.out)).trans HW2.out)
                clear hwq hb5
                go_wp2
                go_ret
                exact ⟨ret_bool HF.out.symm, HB5.out⟩
              · have HO : Hid (entOk f.nodes es (j + 1) = true) := Lib.hid (by unfold entOk; rw [HK.out, HA.out, ← HR.out, HL.out, HKD.out, HC.out]; simp [hz])
                have HJ2 : Hid (∀ i, i < j + 1 + 1 → entOk f.nodes es i = true) := Lib.hid (by
                  intro i h
                  rcases Nat.lt_succ_iff_lt_or_eq.1 h with h1 | rfl
                  · exact HJ.out i h1
                  · exact HO.out)
                refine wp_region_quiet_below (by kernel_rfl) (by kernel_rfl) ?_
                repeat (first | go_big_quiet_step ((first | (go_at_call 131; exact Calls.regrown_of (l2Name_is HA.out HNL.out _ HY.out _)) | (go_at_call 52; exact Calls.regrown_of (l1In_is HC.out _)))) | quiet_step ((first | (go_at_call 131; exact Calls.regrown_of (l2Name_is HA.out HNL.out _ HY.out _)) | (go_at_call 52; exact Calls.regrown_of (l1In_is HC.out _)))))
                refine wpQuiet_nil ?_
                intro w5 hwq
                have hb5 : Below W2.heap.size W2 w5 := by
                  obtain ⟨pp, rfl⟩ := hwq
                  exact below_regrown _ _ _
                have HB5 := Lib.hid (HB2.out.trans (hb5.mono HB2.out.size))
                have HW5 := Lib.hid ((hb5.block w.heap.size (lt_of_heap HW2.out)).trans HW2.out)
                clear hwq hb5
                go_wp2
                go_roundw
                case rel => exact ⟨_, hlt, by go_num, HB5.out, HW5.out, HJ2.out⟩
                case measure => simp [intOf]; omega
            · have HC : Hid (inB 1 ((f.nodes.length : Int) - 1) r = false) := Lib.hid (by simpa using hc)
              have HF : Hid (entsOk f.nodes es = false) := Lib.hid (entsOk_no hlt (by unfold entOk; rw [HK.out, HA.out, ← HR.out, HL.out, HC.out]; simp))
              clear hc
              refine wp_region_quiet_below (by kernel_rfl) (by kernel_rfl) ?_
              repeat (first | go_big_quiet_step ((first | (go_at_call 131; exact Calls.regrown_of (l2Name_is HA.out HNL.out _ HY.out _)) | (go_at_call 52; exact Calls.regrown_of (l1In_is HC.out _)))) | quiet_step ((first | (go_at_call 131; exact Calls.regrown_of (l2Name_is HA.out HNL.out _ HY.out _)) | (go_at_call 52; exact Calls.regrown_of (l1In_is HC.out _)))))
              refine wpQuiet_nil ?_
              intro w5 hwq
              have hb5 : Below W2.heap.size W2 w5 := by
                obtain ⟨pp, rfl⟩ := hwq
                exact below_regrown _ _ _
              have HB5 := Lib.hid (HB2.out.trans (hb5.mono HB2.out.size))
              have HW5 := Lib.hid ((hb5.block w.heap.size (lt_of_heap HW2.out)).trans HW2.out)
              clear hwq hb5
              go_wp2
              go_ret
              exact ⟨ret_bool HF.out.symm, HB5.out⟩
          · have hl2 : Op.bytesLess x.toList y.toList = false := by simpa using hl
            have HF : Hid (entsOk f.nodes es = false) := Lib.hid (entsOk_no hlt (by unfold entOk; rw [HK.out, HLT.out, hl2]; simp))
            clear hl
            refine wp_region_quiet_below (by kernel_rfl) (by kernel_rfl) ?_
            repeat (first | go_big_quiet_step ((go_at_call 131; exact Calls.regrown_of (l2Name_is HA.out HNL.out _ HY.out _))) | quiet_step ((go_at_call 131; exact Calls.regrown_of (l2Name_is HA.out HNL.out _ HY.out _))))
            refine wpQuiet_nil ?_
            intro w5 hwq
            have hb5 : Below W2.heap.size W2 w5 := by
              obtain ⟨pp, rfl⟩ := hwq
              exact below_regrown _ _ _
            have HB5 := Lib.hid (HB2.out.trans (hb5.mono HB2.out.size))
            have HW5 := Lib.hid ((hb5.block w.heap.size (lt_of_heap HW2.out)).trans HW2.out)
            clear hwq hb5
            go_wp2
            go_ret
            exact ⟨ret_bool HF.out.symm, HB5.out⟩
      · have HA : Hid (nameB z.name = false) := Lib.hid (by simpa using hna)
        have HF : Hid (entsOk f.nodes es = false) := Lib.hid (entsOk_no hlt (by unfold entOk; rw [HK.out, HA.out]; simp))
        clear hna
        refine wp_region_quiet_below (by kernel_rfl) (by kernel_rfl) ?_
        repeat (first | go_big_quiet_step ((go_at_call 131; exact Calls.regrown_of (l2Name_is HA.out HNL.out _ HY.out _))) | quiet_step ((go_at_call 131; exact Calls.regrown_of (l2Name_is HA.out HNL.out _ HY.out _))))
        refine wpQuiet_nil ?_
        intro w5 hwq
        have hb5 : Below W2.heap.size W2 w5 := by
          obtain ⟨pp, rfl⟩ := hwq
          exact below_regrown _ _ _
        have HB5 := Lib.hid (HB2.out.trans (hb5.mono HB2.out.size))
        have HW5 := Lib.hid ((hb5.block w.heap.size (lt_of_heap HW2.out)).trans HW2.out)
        clear hwq hb5
        go_wp2
        go_ret
        exact ⟨ret_bool HF.out.symm, HB5.out⟩
    · go_wp2
      go_ret
      exact ⟨ret_bool (entsOk_yes fun j h => HJ.out j (by omega)).symm, hB⟩
end Go.Proofs.YtbmbbioanlcioaaGreatDoor


/-
  The iterator impl.partsIn: it gives the parts of a text between slashes, in order, to whatever loop body keeps the text's own box and all iterators.
  Conditions: a text's length is a length.
-/
namespace Go.Proofs.YtbmbbioanlcioaaGreatDoor
open Go.RowKit Go.Shelf
set_option linter.unusedVariables false
attribute [local go_sem] Oper.semAt_some

/-- What a round keeps: the iterators, and the text in box b. -/
def KpB (b : Nat) (W W' : World) : Prop := KeepsWalks W W' ∧ W'.cell? ⟨b, 0, none⟩ = W.cell? ⟨b, 0, none⟩
theorem kpB_t {b : Nat} {X Y Z : World} (h : KpB b X Y) (k : KpB b Y Z) : KpB b X Z := ⟨h.1.trans k.1, k.2.trans h.2⟩
theorem kpB_b {b : Nat} {w : World} (hb : b < w.heap.size) (W : World) (l : Nat) (o o' : Obj) (hl : w.heap.size ≤ l) (h : W.heap[l]? = some o) (_ : o.isCells = false) (hw : o.isWalk = false) : KpB b W (W.putObj l o') :=
  ⟨KeepsWalks.putObj _ h hw, World.cell?_of_block (World.putObj_heap_other (show b ≠ l by omega))⟩
theorem kpB_below {b n₀ : Nat} {W W' : World} (h : KeepsOthers W W') (hb : Below n₀ W W') (hn : b < n₀) : KpB b W W' := ⟨h.walks, hb.cell (p := ⟨b, 0, none⟩) hn⟩
theorem others_below {W W' : World} (hb : Below W.heap.size W W') : KeepsOthers W W' := ⟨hb.size, fun k o hk _ => (hb.block k (Array.getElem?_eq_some_iff.1 hk).1).trans hk⟩

theorem sp_prefix (a b : List UInt8) : (sp a).1 <+: (sp (a ++ b)).1 := by
  induction b generalizing a with
  | nil => simp
  | cons c b ih =>
    have e : a ++ c :: b = (a ++ [c]) ++ b := by simp
    rw [e]
    refine List.IsPrefix.trans ?_ (ih (a ++ [c]))
    rw [sp_snoc, spStep]
    split
    · exact ⟨[(sp a).2], rfl⟩
    · exact List.prefix_refl _
theorem full_prefix {a b : List (List UInt8)} (h : a <+: b) : full a <+: full b := by
  obtain ⟨t, rfl⟩ := h
  exact ⟨full t, (full_app a t).symm⟩
theorem done_prefix (l : List UInt8) (k : Nat) : full (sp (l.take k)).1 <+: parts l := by
  have h := sp_prefix (l.take k) (l.drop k)
  rw [List.take_append_drop] at h
  refine (full_prefix h).trans ?_
  exact full_prefix ⟨[(sp l).2], rfl⟩
theorem len_of_prefix {a b : List (List UInt8)} {x : List UInt8} (h : a ++ [x] <+: b) : a.length < b.length := by
  have := h.length_le; simp at this; omega
theorem map_prefix {a b : List (List UInt8)} (h : a <+: b) : a.map bs <+: b.map bs := by
  obtain ⟨t, rfl⟩ := h
  exact ⟨t.map bs, by simp⟩

/-- How far a text has been cut, at a place between two runes. -/
structure Cut (s : ByteArray) (pos frm : Nat) : Prop where
  le : frm ≤ pos
  top : pos ≤ s.size
  cur : (sp (s.data.toList.take pos)).2 = (s.data.toList.take pos).drop frm

/-- What has been given till then. -/
def given (s : ByteArray) (pos : Nat) : List (List UInt8) := full (sp (s.data.toList.take pos)).1

theorem Cut.start (s : ByteArray) : Cut s 0 0 := ⟨Nat.le_refl _, Nat.zero_le _, by simp [sp]⟩
theorem given_start (s : ByteArray) : given s 0 = [] := by simp [given, sp, full]
theorem Cut.rune {s : ByteArray} {pos frm : Nat} (h : Cut s pos frm) (hp : pos < s.size) (hn : (Utf8.decode s pos).1 ≠ 47) : Cut s (pos + (Utf8.decode s pos).2) frm ∧ given s (pos + (Utf8.decode s pos).2) = given s pos := by
  obtain ⟨hle, h1, _⟩ := decode_bytes s pos hp
  have e := sp_rune s pos hp hn
  refine ⟨⟨by have := h.le; omega, hle, ?_⟩, by unfold given; rw [e]⟩
  rw [e]
  simp only
  rw [h.cur]
  have hl := len_size s
  have e1 := (List.take_append_drop pos (s.data.toList.take (pos + (Utf8.decode s pos).2))).symm
  rw [List.take_take, Nat.min_eq_left (by omega)] at e1
  conv => rhs; rw [e1]
  rw [List.drop_append_of_le_length (by rw [List.length_take]; have := h.le; omega)]
theorem Cut.slash {s : ByteArray} {pos frm : Nat} (h : Cut s pos frm) (hp : pos < s.size) (h47 : (s[pos]'hp) = 47) :
    Cut s (pos + 1) (pos + 1) ∧ sp (s.data.toList.take (pos + 1)) = ((sp (s.data.toList.take pos)).1 ++ [(s.data.toList.take pos).drop frm], []) := by
  have e : sp (s.data.toList.take (pos + 1)) = ((sp (s.data.toList.take pos)).1 ++ [(s.data.toList.take pos).drop frm], []) := by
    rw [take_snoc' s pos hp, sp_snoc, spStep, if_pos h47, h.cur]
  refine ⟨⟨Nat.le_refl _, hp, ?_⟩, e⟩
  rw [e]
  exact (List.drop_eq_nil_of_le (by rw [List.length_take]; omega)).symm
theorem Cut.gives {s : ByteArray} {pos frm : Nat} (h : Cut s pos frm) (hp : pos < s.size) (h47 : (s[pos]'hp) = 47) (hlt : frm < pos) : given s (pos + 1) = given s pos ++ [(s.data.toList.take pos).drop frm] := by
  unfold given
  rw [(h.slash hp h47).2, full_app]
  have : (s.data.toList.take pos).drop frm ≠ [] := by
    intro e
    have := congrArg List.length e
    have hl := len_size s
    simp only [List.length_drop, List.length_take, List.length_nil, hl] at this
    omega
  simp [full, this]
theorem Cut.skips {s : ByteArray} {pos frm : Nat} (h : Cut s pos frm) (hp : pos < s.size) (h47 : (s[pos]'hp) = 47) (hlt : ¬ frm < pos) : given s (pos + 1) = given s pos := by
  unfold given
  rw [(h.slash hp h47).2, full_app]
  have : (s.data.toList.take pos).drop frm = [] := List.drop_eq_nil_of_le (by rw [List.length_take]; have := h.le; omega)
  simp [full, this]
theorem Cut.last {s : ByteArray} {frm : Nat} (h : Cut s s.size frm) (hlt : frm < s.size) : parts s.data.toList = given s s.size ++ [(s.data.toList.take s.size).drop frm] := by
  have hl := len_size s
  have c := h.cur
  have ht : s.data.toList.take s.size = s.data.toList := List.take_of_length_le (by omega)
  unfold parts given
  rw [full_app]
  rw [ht] at c ⊢
  rw [c]
  have : s.data.toList.drop frm ≠ [] := by
    intro e
    have := congrArg List.length e
    simp only [List.length_drop, List.length_nil, hl] at this
    omega
  simp [full, this]
theorem Cut.ended {s : ByteArray} {frm : Nat} (h : Cut s s.size frm) (hlt : ¬ frm < s.size) : parts s.data.toList = given s s.size := by
  have hl := len_size s
  have c := h.cur
  have ht : s.data.toList.take s.size = s.data.toList := List.take_of_length_le (by omega)
  unfold parts given
  rw [full_app]
  rw [ht] at c ⊢
  rw [c, List.drop_eq_nil_of_le (by omega)]
  simp [full]
theorem given_prefix (s : ByteArray) (pos : Nat) : given s pos <+: parts s.data.toList := done_prefix _ _

theorem slash_byte {s : ByteArray} {pos : Nat} (hp : pos < s.size) (h : (Utf8.decode s pos).1 = 47) : (s[pos]'hp) = 47 ∧ (Utf8.decode s pos).2 = 1 := by
  obtain ⟨h1, h2⟩ := decode_low s pos hp (by omega)
  exact ⟨UInt8.toNat_inj.1 (by rw [h1, h]; rfl), h2⟩

theorem abides_next {J : List ByteArray → World → Prop} {B I : Nat} (h : AbidesFrom B J) {pre : List ByteArray} {W : World} (hj : J pre W) {s : ByteArray} {pos : Nat} (hI : W.heap[I]? = some (.stringIter s pos)) (hB : B ≤ I) (pos' : Nat) : J pre (W.iterAt I s pos') :=
  h pre W _ (some I) hj ⟨rfl, rfl, rfl, by rw [Lib.iterAt_size]; exact Nat.le_refl _, fun k _ hk => Lib.iterAt_other W I k s pos' (fun e => hk (by rw [e]))⟩ (fun r e => by cases e; exact ⟨hB, _, hI, rfl⟩)
theorem cell_iterAt {W : World} {I : Nat} {s : ByteArray} {pos : Nat} {b : Nat} {v : Value} (hI : W.heap[I]? = some (.stringIter s pos)) (h : W.cell? ⟨b, 0, none⟩ = some v) (pos' : Nat) : (W.iterAt I s pos').cell? ⟨b, 0, none⟩ = some v := by
  have hne : b ≠ I := by
    intro e
    subst e
    simp [World.cell?, hI] at h
  exact (World.cell?_of_block (a := ⟨b, 0, none⟩) (Lib.iterAt_other W I b s pos' hne)).trans h

end Go.Proofs.YtbmbbioanlcioaaGreatDoor
