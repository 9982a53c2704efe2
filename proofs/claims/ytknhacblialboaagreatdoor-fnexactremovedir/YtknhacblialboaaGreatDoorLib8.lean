/-
  Joined: LookC.
  Conditions: as each states.
-/
import Derived.Test.YtknhacblialboaaGreatDoorLib7
namespace Go.Proofs.YtknhacblialboaaGreatDoor
open Go.ChangeShapes Go.WideShapes Go.ChangeAt Go.RowKit Go.Joins
set_option linter.unusedVariables false
set_option linter.unusedSimpArgs false
set_option maxHeartbeats 16000000
theorem l4May_is {f : FsD} {v : Value} {u g : Int} {m : Nat} {want : Int} {w : World} {b : Bool} (h : mayB u g (aC9 f.nodes m).mode (aC9 f.nodes m).uid (aC9 f.nodes m).gid want = b) (hR : FsA w v f) (hm : m < f.nodes.length) (hmo : inB 0 511 (aC9 f.nodes m).mode = true) (hs : f.nodes.length ≤ 1048576) :
   Calls Tryz.prog 105 #[v, .agg #[.int .i64 u, .int .i64 g], .int .i64 (m : Int), .int .i64 want] w fun e w' => e = .returned (.bool b) ∧ Below w.heap.size w w' :=
 (l4May_any f v u g m want w hR hm hmo hs).mono fun e w' ⟨h1, h2⟩ => ⟨by rw [h1, h], h2⟩
def OnlyG (w w' : World) (G : Nat) : Prop := w.heap.size ≤ w'.heap.size ∧ ∀ b, b < w.heap.size → b ≠ G → w'.heap[b]? = w.heap[b]?
theorem OnlyG.below {a b : World} (G : Nat) (h : Below a.heap.size a b) : OnlyG a b G := ⟨h.size, fun i hi _ => h.block i hi⟩
theorem OnlyG.trans {a b c : World} {G : Nat} (h : OnlyG a b G) (k : OnlyG b c G) : OnlyG a c G := ⟨Nat.le_trans h.1 k.1, fun i hi hn => (k.2 i (Nat.lt_of_lt_of_le hi h.1) hn).trans (h.2 i hi hn)⟩
theorem OnlyG.set {a b : World} {G : Nat} (h : OnlyG a b G) (j : Nat) (u : Value) : OnlyG a (b.setCell ⟨G, j, none⟩ u) G := ⟨by simpa using h.1, fun i hi hn => (Below.heap_setCell b ⟨G, j, none⟩ u i hn).trans (h.2 i hi hn)⟩
theorem rd_first {w : World} {pg po pc : Nat} {p : List UInt8} {r : List (List UInt8)} (h : Rd w (.slice (some ⟨pg, po, none⟩) (p :: r).length pc) (p :: r)) : pg < w.heap.size ∧ r.length + 1 ≤ pc ∧ pc ≤ maxLen ∧ w.cell? ⟨pg, po, none⟩ = some (.string (bs p)) ∧ (pc = 1 → Rd w (.slice (some ⟨pg, po, none⟩) 0 0) r) ∧ Rd w (.slice (some ⟨pg, po + 1, none⟩) r.length (pc - 1)) r := by
 obtain ⟨o, c, e, hlc, hcm, hH⟩ := h
 simp only [Value.slice.injEq, true_and] at e
 obtain ⟨rfl, rfl⟩ := e
 simp only [List.length_cons] at hlc
 obtain ⟨g, off, e, hg, hc⟩ := hH 0 (by simp)
 simp only [Option.some.injEq, Addr.mk.injEq, and_true] at e
 obtain ⟨rfl, rfl⟩ := e
 refine ⟨hg, hlc, hcm, hc, fun h1 => ?_, ⟨_, _, rfl, by omega, by omega, fun i hi => ?_⟩⟩
 · have h2 : r = [] := List.eq_nil_of_length_eq_zero (by omega)
   subst h2
   exact ⟨_, _, rfl, Nat.le_refl _, Nat.zero_le _, fun i hi => absurd hi (by simp)⟩
 · obtain ⟨g', off', e, hg', hc'⟩ := hH (i + 1) (by simp; omega)
   simp only [Option.some.injEq, Addr.mk.injEq, and_true] at e
   obtain ⟨rfl, rfl⟩ := e
   exact ⟨pg, po + 1, rfl, hg', by rw [show po + 1 + i = po + (i + 1) by omega]; simpa using hc'⟩
theorem step_may (f : FsD) (o : Option Addr) (c : Nat) (u g : Int) (fol : Bool) (b node hops : Nat) (p : List UInt8) (r : List (List UInt8)) (pg po pc : Nat) (w0 w : World) (hF : LookFs f) (hN0 : NodsA w0 (.slice o f.nodes.length c) f.nodes) (hB0 : Below w0.heap.size w0 w) (hb0 : w0.heap.size ≤ b) (hb : w.heap[b]? = some (.cells (bD9 o f.nodes.length c f.room u g node (.slice (some ⟨pg, po, none⟩) (r.length + 1) pc) hops) 140 (0, 0))) (hn : node < f.nodes.length) (hP : Rd w (.slice (some ⟨pg, po, none⟩) (p :: r).length pc) (p :: r)) (hpb : pg ≠ b) (hrl : r.length ≤ 1000) (hk : (aC9 f.nodes node).kind = 2) (hmay : mayB u g (aC9 f.nodes node).mode (aC9 f.nodes node).uid (aC9 f.nodes node).gid 1 = false) : Calls Tryz.prog 114 #[.pointer (some ⟨b, 0, none⟩), .bool fol] w fun e w' => e = .returned (.int .i64 4) ∧ Below w.heap.size w w' := by
 have hN := hN0.below hB0
 have HN0 := qhZ hN0
 have HB0 := qhZ hB0
 obtain ⟨o0, c00, e00, -, hH0⟩ := id hN0
 simp only [Value.slice.injEq, true_and] at e00
 obtain ⟨rfl, rfl⟩ := e00
 obtain ⟨gg0, off0, lv0, e00, hg0, hcc0, he0, -⟩ := hH0 node hn
 obtain ⟨o', c', e1, hmm, hH⟩ := id hN
 simp only [Value.slice.injEq, true_and] at e1
 obtain ⟨rfl, rfl⟩ := e1
 unfold maxLen at hmm
 have hl : f.nodes.length ≤ 1048576 := (aG9 hF.size).1
 obtain ⟨gg, off, lv, rfl, hg, hcc, he, -⟩ := hH node hn
 have hqe : f.nodes[node] = aC9 f.nodes node := (aR9 hn).symm
 have HHH := qhZ hH
 have HMO : Hid (inB 0 511 (aC9 f.nodes node).mode = true) := qhZ (hF.mode node hn (by rw [hk]; decide))
 have hql : (aC9 f.nodes node).list.length ≤ 1048576 := by rw [← hqe]; exact ((aG9 hF.size).2 _ (List.getElem_mem hn)).1
 rw [hqe] at hcc he hcc0 he0
 obtain ⟨q, hq⟩ : ∃ q, q = aC9 f.nodes node := ⟨_, rfl⟩
 have HQ := qhZ hq
 rw [← hq] at hcc hk he hql hcc0 he0
 obtain ⟨o2, c2, rfl, -, -⟩ := he
 obtain ⟨d0, d1, d2, d3, d4, d5, d6⟩ := hcc
 have hlv : lv0 = .slice o2 q.list.length c2 := by
   simp only [Option.some.injEq, Addr.mk.injEq, and_true] at e00
   obtain ⟨rfl, rfl⟩ := e00
   have h1 := (hB0.cell (p := ⟨gg, off + node * 7 + 6, none⟩) hg0).trans hcc0.c6
   rw [d6] at h1
   simpa using h1.symm
 subst hlv
 have HE := qhZ he0
 have hbs := aB9 hb
 have c0 : w.cell? ⟨b, 0, none⟩ = some (.slice (some ⟨gg, off, none⟩) f.nodes.length c) := aA9 hb 0
 have c4 : w.cell? ⟨b, 4, none⟩ = some (.int .i64 (node : Int)) := aA9 hb 4
 have hne1 : w.heap.size ≠ b := by omega
 have hne2 : w.heap.size ≠ gg := by omega
 have HB := qhZ hb
 have HN := qhZ hN
 have HP := qhZ hP
 rw [hk] at d0
 clear hq hqe hH hb hN hP hN0 hB0 hH0 hcc0 he0 e00 hg0
 go_enter Tryz.func114, Tryz.ntmps114
 go_wp2
 go_region
 obtain ⟨W1, hW1⟩ : ∃ W1, (w.alloc (.cells #[.int .i64 2, .int .i64 q.mode, .int .i64 q.uid, .int .i64 q.gid, .int .i64 q.time, .string (bs q.data), .slice o2 q.list.length c2] 55)).drew = W1 := ⟨_, rfl⟩
 have hB1 : Below w.heap.size w W1 := by rw [← hW1]; exact ((Below.refl _ _).alloc (Nat.le_refl _) _).drew
 have hX1 : W1.heap[w.heap.size]? = some (.cells #[.int .i64 2, .int .i64 q.mode, .int .i64 q.uid, .int .i64 q.gid, .int .i64 q.time, .string (bs q.data), .slice o2 q.list.length c2] 55) := by rw [← hW1]; exact heap_alloc_new _ _
 rw [hW1]
 clear hW1 c0 c4 d0 d1 d2 d3 d4 d5 d6
 have hb1 := (hB1.block b hbs).trans HB.out
 have HFS1 : Hid (FsA W1 (.agg #[.slice (some ⟨gg, off, none⟩) f.nodes.length c, .int .i64 f.room]) f) := qhZ ⟨_, rfl, HN.out.below hB1⟩
 have s0 : W1.cell? ⟨b, 0, none⟩ = some (.slice (some ⟨gg, off, none⟩) f.nodes.length c) := aA9 hb1 0
 have s1 : W1.cell? ⟨b, 1, none⟩ = some (.int .i64 f.room) := aA9 hb1 1
 have s2 : W1.cell? ⟨b, 2, none⟩ = some (.int .i64 u) := aA9 hb1 2
 have s3 : W1.cell? ⟨b, 3, none⟩ = some (.int .i64 g) := aA9 hb1 3
 have s4 : W1.cell? ⟨b, 4, none⟩ = some (.int .i64 (node : Int)) := aA9 hb1 4
 have x0 : W1.cell? ⟨w.heap.size, 0, none⟩ = some (.int .i64 2) := aA9 hX1 0
 have z0 := fun d os => cell_regrown (w := W1) s0 d os
 have z1 := fun d os => cell_regrown (w := W1) s1 d os
 have z2 := fun d os => cell_regrown (w := W1) s2 d os
 have z3 := fun d os => cell_regrown (w := W1) s3 d os
 have z4 := fun d os => cell_regrown (w := W1) s4 d os
 go_wp2
 have HMAY : Hid (mayB u g (aC9 f.nodes node).mode (aC9 f.nodes node).uid (aC9 f.nodes node).gid 1 = false) := qhZ hmay
 refine wp_region_quiet_below (by kernel_rfl) (by kernel_rfl) ?_
 repeat (first | go_big_quiet_step ((go_at_call 105; exact Calls.regrown_of (l4May_is HMAY.out (HFS1.out.below (below_regrown _ _ _)) hn HMO.out hl))) | quiet_step ((go_at_call 105; exact Calls.regrown_of (l4May_is HMAY.out (HFS1.out.below (below_regrown _ _ _)) hn HMO.out hl))))
 refine wpQuiet_nil ?_
 intro w2 hwq
 have hb5 : Below W1.heap.size W1 w2 := by
   obtain ⟨pp, rfl⟩ := hwq
   exact below_regrown _ _ _
 have hB2 := hB1.trans (hb5.mono hB1.size)
 have hb2 := (hb5.block b (aB9 hb1)).trans hb1
 have hX2 := (hb5.block w.heap.size (aB9 hX1)).trans hX1
 have hBb2 : Below b w w2 := hB2.mono (Nat.le_of_lt hbs)
 clear hwq hb5 hX1 hb1 z0 z1 z2 z3 z4 s0 s1 s2 s3 s4 x0 hmay HFS1
 go_wp2
 go_ret
 exact ⟨rfl, hB2⟩
theorem rd_kept {w w' : World} {b pg po n k : Nat} {ps : List (List UInt8)} (h : Rd w (.slice (some ⟨pg, po, none⟩) n k) ps) (hO : OnlyG w w' b) (hb : pg ≠ b) : Rd w' (.slice (some ⟨pg, po, none⟩) n k) ps := by
 obtain ⟨o, c, e, h1, h2, hH⟩ := h
 refine ⟨o, c, e, h1, h2, fun i hi => ?_⟩
 obtain ⟨g, off, e2, hg, hc⟩ := hH i hi
 subst e2
 simp only [Value.slice.injEq, Option.some.injEq, Addr.mk.injEq, and_true] at e
 obtain ⟨⟨rfl, rfl⟩, -, -⟩ := e
 refine ⟨pg, po, rfl, Nat.lt_of_lt_of_le hg hO.1, ?_⟩
 rw [← hc]
 unfold World.cell?
 rw [hO.2 pg hg hb]
theorem step_dot (f : FsD) (o : Option Addr) (c : Nat) (u g : Int) (fol : Bool) (b node hops : Nat) (p : List UInt8) (r : List (List UInt8)) (pg po pc : Nat) (w0 w : World) (hF : LookFs f) (hN0 : NodsA w0 (.slice o f.nodes.length c) f.nodes) (hB0 : Below w0.heap.size w0 w) (hb0 : w0.heap.size ≤ b) (hb : w.heap[b]? = some (.cells (bD9 o f.nodes.length c f.room u g node (.slice (some ⟨pg, po, none⟩) (r.length + 1) pc) hops) 140 (0, 0))) (hn : node < f.nodes.length) (hP : Rd w (.slice (some ⟨pg, po, none⟩) (p :: r).length pc) (p :: r)) (hpb : pg ≠ b) (hrl : r.length ≤ 1000) (hk : (aC9 f.nodes node).kind = 2) (hmay : mayB u g (aC9 f.nodes node).mode (aC9 f.nodes node).uid (aC9 f.nodes node).gid 1 = true) (hp : p = [46]) : Calls Tryz.prog 114 #[.pointer (some ⟨b, 0, none⟩), .bool fol] w fun e w' => e = .returned (.int .i64 0) ∧ ∃ pv, w'.heap[b]? = some (.cells (bD9 o f.nodes.length c f.room u g node pv hops) 140 (0, 0)) ∧ Rd w' pv r ∧ (∀ a l k, pv = .slice (some a) l k → a.block ≠ b) ∧ Below b w w' := by
 have hN := hN0.below hB0
 have HN0 := qhZ hN0
 have HB0 := qhZ hB0
 obtain ⟨o0, c00, e00, -, hH0⟩ := id hN0
 simp only [Value.slice.injEq, true_and] at e00
 obtain ⟨rfl, rfl⟩ := e00
 obtain ⟨gg0, off0, lv0, e00, hg0, hcc0, he0, -⟩ := hH0 node hn
 obtain ⟨o', c', e1, hmm, hH⟩ := id hN
 simp only [Value.slice.injEq, true_and] at e1
 obtain ⟨rfl, rfl⟩ := e1
 unfold maxLen at hmm
 have hl : f.nodes.length ≤ 1048576 := (aG9 hF.size).1
 obtain ⟨gg, off, lv, rfl, hg, hcc, he, -⟩ := hH node hn
 have hqe : f.nodes[node] = aC9 f.nodes node := (aR9 hn).symm
 have HHH := qhZ hH
 have HMO : Hid (inB 0 511 (aC9 f.nodes node).mode = true) := qhZ (hF.mode node hn (by rw [hk]; decide))
 have hql : (aC9 f.nodes node).list.length ≤ 1048576 := by rw [← hqe]; exact ((aG9 hF.size).2 _ (List.getElem_mem hn)).1
 rw [hqe] at hcc he hcc0 he0
 obtain ⟨q, hq⟩ : ∃ q, q = aC9 f.nodes node := ⟨_, rfl⟩
 have HQ := qhZ hq
 rw [← hq] at hcc hk he hql hcc0 he0
 obtain ⟨o2, c2, rfl, -, -⟩ := he
 obtain ⟨d0, d1, d2, d3, d4, d5, d6⟩ := hcc
 have hlv : lv0 = .slice o2 q.list.length c2 := by
   simp only [Option.some.injEq, Addr.mk.injEq, and_true] at e00
   obtain ⟨rfl, rfl⟩ := e00
   have h1 := (hB0.cell (p := ⟨gg, off + node * 7 + 6, none⟩) hg0).trans hcc0.c6
   rw [d6] at h1
   simpa using h1.symm
 subst hlv
 have HE := qhZ he0
 have hbs := aB9 hb
 have c0 : w.cell? ⟨b, 0, none⟩ = some (.slice (some ⟨gg, off, none⟩) f.nodes.length c) := aA9 hb 0
 have c4 : w.cell? ⟨b, 4, none⟩ = some (.int .i64 (node : Int)) := aA9 hb 4
 have hne1 : w.heap.size ≠ b := by omega
 have hne2 : w.heap.size ≠ gg := by omega
 have HB := qhZ hb
 have HN := qhZ hN
 have HP := qhZ hP
 rw [hk] at d0
 clear hq hqe hH hb hN hP hN0 hB0 hH0 hcc0 he0 e00 hg0
 go_enter Tryz.func114, Tryz.ntmps114
 go_wp2
 go_region
 obtain ⟨W1, hW1⟩ : ∃ W1, (w.alloc (.cells #[.int .i64 2, .int .i64 q.mode, .int .i64 q.uid, .int .i64 q.gid, .int .i64 q.time, .string (bs q.data), .slice o2 q.list.length c2] 55)).drew = W1 := ⟨_, rfl⟩
 have hB1 : Below w.heap.size w W1 := by rw [← hW1]; exact ((Below.refl _ _).alloc (Nat.le_refl _) _).drew
 have hX1 : W1.heap[w.heap.size]? = some (.cells #[.int .i64 2, .int .i64 q.mode, .int .i64 q.uid, .int .i64 q.gid, .int .i64 q.time, .string (bs q.data), .slice o2 q.list.length c2] 55) := by rw [← hW1]; exact heap_alloc_new _ _
 rw [hW1]
 clear hW1 c0 c4 d0 d1 d2 d3 d4 d5 d6
 have hb1 := (hB1.block b hbs).trans HB.out
 have HFS1 : Hid (FsA W1 (.agg #[.slice (some ⟨gg, off, none⟩) f.nodes.length c, .int .i64 f.room]) f) := qhZ ⟨_, rfl, HN.out.below hB1⟩
 have s0 : W1.cell? ⟨b, 0, none⟩ = some (.slice (some ⟨gg, off, none⟩) f.nodes.length c) := aA9 hb1 0
 have s1 : W1.cell? ⟨b, 1, none⟩ = some (.int .i64 f.room) := aA9 hb1 1
 have s2 : W1.cell? ⟨b, 2, none⟩ = some (.int .i64 u) := aA9 hb1 2
 have s3 : W1.cell? ⟨b, 3, none⟩ = some (.int .i64 g) := aA9 hb1 3
 have s4 : W1.cell? ⟨b, 4, none⟩ = some (.int .i64 (node : Int)) := aA9 hb1 4
 have x0 : W1.cell? ⟨w.heap.size, 0, none⟩ = some (.int .i64 2) := aA9 hX1 0
 have z0 := fun d os => cell_regrown (w := W1) s0 d os
 have z1 := fun d os => cell_regrown (w := W1) s1 d os
 have z2 := fun d os => cell_regrown (w := W1) s2 d os
 have z3 := fun d os => cell_regrown (w := W1) s3 d os
 have z4 := fun d os => cell_regrown (w := W1) s4 d os
 go_wp2
 have HMAY : Hid (mayB u g (aC9 f.nodes node).mode (aC9 f.nodes node).uid (aC9 f.nodes node).gid 1 = true) := qhZ hmay
 refine wp_region_quiet_below (by kernel_rfl) (by kernel_rfl) ?_
 repeat (first | go_big_quiet_step ((go_at_call 105; exact Calls.regrown_of (l4May_is HMAY.out (HFS1.out.below (below_regrown _ _ _)) hn HMO.out hl))) | quiet_step ((go_at_call 105; exact Calls.regrown_of (l4May_is HMAY.out (HFS1.out.below (below_regrown _ _ _)) hn HMO.out hl))))
 refine wpQuiet_nil ?_
 intro w2 hwq
 have hb5 : Below W1.heap.size W1 w2 := by
   obtain ⟨pp, rfl⟩ := hwq
   exact below_regrown _ _ _
 have hB2 := hB1.trans (hb5.mono hB1.size)
 have hb2 := (hb5.block b (aB9 hb1)).trans hb1
 have hX2 := (hb5.block w.heap.size (aB9 hX1)).trans hX1
 have hBb2 : Below b w w2 := hB2.mono (Nat.le_of_lt hbs)
 clear hwq hb5 hX1 hb1 z0 z1 z2 z3 z4 s0 s1 s2 s3 s4 x0 hmay HFS1
 obtain ⟨hpg, hpl, hpm, hp0, hr1, hr2⟩ := rd_first HP.out
 unfold maxLen at hpm
 have p0 := (hB2.cell (p := ⟨pg, po, none⟩) hpg).trans hp0
 have t5 : w2.cell? ⟨b, 5, none⟩ = some (.slice (some ⟨pg, po, none⟩) (r.length + 1) pc) := aA9 hb2 5
 have f5 := aE9 hb2 5
 have HK2 := qhZ hb2
 have HX2 := qhZ hX2
 have HB2 := qhZ hB2
 have HT1 := qhZ hr1
 have HT2 := qhZ hr2
 clear hp0 hr1 hr2 hb2 hX2
 have hx : bs p = ⟨#[46]⟩ := by rw [hp]; rfl
 rw [hx] at p0
 clear hx hp
 by_cases hpc : pc = 1
 · subst hpc
   obtain rfl : r = [] := List.eq_nil_of_length_eq_zero (by omega)
   simp only [List.length_nil] at *
   go_wp2
   go_ret
   have hO := (OnlyG.below b HB2.out).set 5 (.slice (some ⟨pg, po, none⟩) 0 0)
   exact ⟨rfl, (.slice (some ⟨pg, po, none⟩) 0 0), heap_setCell_same w2 b 5 _ _ (.slice (some ⟨pg, po, none⟩) 0 0) HK2.out, (rd_kept (HT1.out trivial) hO hpb), fun a l k e => by cases e; exact hpb, hBb2.setCell (p := ⟨b, 5, none⟩) (Nat.le_refl _) _⟩
 · have hpc2 : ¬ 1 = pc := fun e => hpc e.symm
   go_wp2
   go_ret
   have hO := (OnlyG.below b HB2.out).set 5 (.slice (some ⟨pg, po + 1, none⟩) r.length (pc - 1))
   exact ⟨rfl, (.slice (some ⟨pg, po + 1, none⟩) r.length (pc - 1)), heap_setCell_same w2 b 5 _ _ (.slice (some ⟨pg, po + 1, none⟩) r.length (pc - 1)) HK2.out, (rd_kept (HT2.out) hO hpb), fun a l k e => by cases e; exact hpb, hBb2.setCell (p := ⟨b, 5, none⟩) (Nat.le_refl _) _⟩
theorem bytes_neP {x : ByteArray} {l : List UInt8} (h : x.data.toList ≠ l) : (x.toList == l) = false := by
 rw [beq_eq_false_iff_ne, ByteArray.toList_eq]; exact h
theorem step_none (f : FsD) (o : Option Addr) (c : Nat) (u g : Int) (fol : Bool) (b node hops : Nat) (p : List UInt8) (r : List (List UInt8)) (pg po pc : Nat) (w0 w : World) (hF : LookFs f) (hN0 : NodsA w0 (.slice o f.nodes.length c) f.nodes) (hB0 : Below w0.heap.size w0 w) (hb0 : w0.heap.size ≤ b) (hb : w.heap[b]? = some (.cells (bD9 o f.nodes.length c f.room u g node (.slice (some ⟨pg, po, none⟩) (r.length + 1) pc) hops) 140 (0, 0))) (hn : node < f.nodes.length) (hP : Rd w (.slice (some ⟨pg, po, none⟩) (p :: r).length pc) (p :: r)) (hpb : pg ≠ b) (hrl : r.length ≤ 1000) (hk : (aC9 f.nodes node).kind = 2) (hmay : mayB u g (aC9 f.nodes node).mode (aC9 f.nodes node).uid (aC9 f.nodes node).gid 1 = true) (hp1 : p ≠ [46]) (hp2 : p ≠ [46, 46]) (hat : atE (aC9 f.nodes node).list p < 0) : Calls Tryz.prog 114 #[.pointer (some ⟨b, 0, none⟩), .bool fol] w fun e w' => e = .returned (.int .i64 2) ∧ Below b w w' := by
 have hN := hN0.below hB0
 have HN0 := qhZ hN0
 have HB0 := qhZ hB0
 obtain ⟨o0, c00, e00, -, hH0⟩ := id hN0
 simp only [Value.slice.injEq, true_and] at e00
 obtain ⟨rfl, rfl⟩ := e00
 obtain ⟨gg0, off0, lv0, e00, hg0, hcc0, he0, -⟩ := hH0 node hn
 obtain ⟨o', c', e1, hmm, hH⟩ := id hN
 simp only [Value.slice.injEq, true_and] at e1
 obtain ⟨rfl, rfl⟩ := e1
 unfold maxLen at hmm
 have hl : f.nodes.length ≤ 1048576 := (aG9 hF.size).1
 obtain ⟨gg, off, lv, rfl, hg, hcc, he, -⟩ := hH node hn
 have hqe : f.nodes[node] = aC9 f.nodes node := (aR9 hn).symm
 have HHH := qhZ hH
 have HMO : Hid (inB 0 511 (aC9 f.nodes node).mode = true) := qhZ (hF.mode node hn (by rw [hk]; decide))
 have hql : (aC9 f.nodes node).list.length ≤ 1048576 := by rw [← hqe]; exact ((aG9 hF.size).2 _ (List.getElem_mem hn)).1
 rw [hqe] at hcc he hcc0 he0
 obtain ⟨q, hq⟩ : ∃ q, q = aC9 f.nodes node := ⟨_, rfl⟩
 have HQ := qhZ hq
 rw [← hq] at hcc hk he hql hcc0 he0
 obtain ⟨o2, c2, rfl, -, -⟩ := he
 obtain ⟨d0, d1, d2, d3, d4, d5, d6⟩ := hcc
 have hlv : lv0 = .slice o2 q.list.length c2 := by
   simp only [Option.some.injEq, Addr.mk.injEq, and_true] at e00
   obtain ⟨rfl, rfl⟩ := e00
   have h1 := (hB0.cell (p := ⟨gg, off + node * 7 + 6, none⟩) hg0).trans hcc0.c6
   rw [d6] at h1
   simpa using h1.symm
 subst hlv
 have HE := qhZ he0
 have hbs := aB9 hb
 have c0 : w.cell? ⟨b, 0, none⟩ = some (.slice (some ⟨gg, off, none⟩) f.nodes.length c) := aA9 hb 0
 have c4 : w.cell? ⟨b, 4, none⟩ = some (.int .i64 (node : Int)) := aA9 hb 4
 have hne1 : w.heap.size ≠ b := by omega
 have hne2 : w.heap.size ≠ gg := by omega
 have HB := qhZ hb
 have HN := qhZ hN
 have hat1 := hat
 rw [← hq] at hat1
 clear hat
 have HP := qhZ hP
 rw [hk] at d0
 clear hq hqe hH hb hN hP hN0 hB0 hH0 hcc0 he0 e00 hg0
 go_enter Tryz.func114, Tryz.ntmps114
 go_wp2
 go_region
 obtain ⟨W1, hW1⟩ : ∃ W1, (w.alloc (.cells #[.int .i64 2, .int .i64 q.mode, .int .i64 q.uid, .int .i64 q.gid, .int .i64 q.time, .string (bs q.data), .slice o2 q.list.length c2] 55)).drew = W1 := ⟨_, rfl⟩
 have hB1 : Below w.heap.size w W1 := by rw [← hW1]; exact ((Below.refl _ _).alloc (Nat.le_refl _) _).drew
 have hX1 : W1.heap[w.heap.size]? = some (.cells #[.int .i64 2, .int .i64 q.mode, .int .i64 q.uid, .int .i64 q.gid, .int .i64 q.time, .string (bs q.data), .slice o2 q.list.length c2] 55) := by rw [← hW1]; exact heap_alloc_new _ _
 rw [hW1]
 clear hW1 c0 c4 d0 d1 d2 d3 d4 d5 d6
 have hb1 := (hB1.block b hbs).trans HB.out
 have HFS1 : Hid (FsA W1 (.agg #[.slice (some ⟨gg, off, none⟩) f.nodes.length c, .int .i64 f.room]) f) := qhZ ⟨_, rfl, HN.out.below hB1⟩
 have s0 : W1.cell? ⟨b, 0, none⟩ = some (.slice (some ⟨gg, off, none⟩) f.nodes.length c) := aA9 hb1 0
 have s1 : W1.cell? ⟨b, 1, none⟩ = some (.int .i64 f.room) := aA9 hb1 1
 have s2 : W1.cell? ⟨b, 2, none⟩ = some (.int .i64 u) := aA9 hb1 2
 have s3 : W1.cell? ⟨b, 3, none⟩ = some (.int .i64 g) := aA9 hb1 3
 have s4 : W1.cell? ⟨b, 4, none⟩ = some (.int .i64 (node : Int)) := aA9 hb1 4
 have x0 : W1.cell? ⟨w.heap.size, 0, none⟩ = some (.int .i64 2) := aA9 hX1 0
 have z0 := fun d os => cell_regrown (w := W1) s0 d os
 have z1 := fun d os => cell_regrown (w := W1) s1 d os
 have z2 := fun d os => cell_regrown (w := W1) s2 d os
 have z3 := fun d os => cell_regrown (w := W1) s3 d os
 have z4 := fun d os => cell_regrown (w := W1) s4 d os
 go_wp2
 have HMAY : Hid (mayB u g (aC9 f.nodes node).mode (aC9 f.nodes node).uid (aC9 f.nodes node).gid 1 = true) := qhZ hmay
 refine wp_region_quiet_below (by kernel_rfl) (by kernel_rfl) ?_
 repeat (first | go_big_quiet_step ((go_at_call 105; exact Calls.regrown_of (l4May_is HMAY.out (HFS1.out.below (below_regrown _ _ _)) hn HMO.out hl))) | quiet_step ((go_at_call 105; exact Calls.regrown_of (l4May_is HMAY.out (HFS1.out.below (below_regrown _ _ _)) hn HMO.out hl))))
 refine wpQuiet_nil ?_
 intro w2 hwq
 have hb5 : Below W1.heap.size W1 w2 := by
   obtain ⟨pp, rfl⟩ := hwq
   exact below_regrown _ _ _
 have hB2 := hB1.trans (hb5.mono hB1.size)
 have hb2 := (hb5.block b (aB9 hb1)).trans hb1
 have hX2 := (hb5.block w.heap.size (aB9 hX1)).trans hX1
 have hBb2 : Below b w w2 := hB2.mono (Nat.le_of_lt hbs)
 clear hwq hb5 hX1 hb1 z0 z1 z2 z3 z4 s0 s1 s2 s3 s4 x0 hmay HFS1
 obtain ⟨hpg, hpl, hpm, hp0, hr1, hr2⟩ := rd_first HP.out
 unfold maxLen at hpm
 have p0 := (hB2.cell (p := ⟨pg, po, none⟩) hpg).trans hp0
 have t5 : w2.cell? ⟨b, 5, none⟩ = some (.slice (some ⟨pg, po, none⟩) (r.length + 1) pc) := aA9 hb2 5
 have f5 := aE9 hb2 5
 have HK2 := qhZ hb2
 have HX2 := qhZ hX2
 have HB2 := qhZ hB2
 have HT1 := qhZ hr1
 have HT2 := qhZ hr2
 clear hp0 hr1 hr2 hb2 hX2
 have hx1 := bytes_neP (x := bs p) (l := [46]) (by rw [aY9]; exact hp1)
 have hx2 := bytes_neP (x := bs p) (l := [46, 46]) (by rw [aY9]; exact hp2)
 have HPB : Hid ((bs p).data.toList = p) := qhZ (aY9 p)
 obtain ⟨x, hx⟩ : ∃ x, x = bs p := ⟨_, rfl⟩
 rw [← hx] at p0 hx1 hx2 HPB
 clear hx hp1 hp2
 obtain ⟨ne, hne⟩ : ∃ ne, ne = atE q.list p := ⟨_, rfl⟩
 have HAT : Hid (atE q.list x.data.toList = ne) := qhZ (by rw [HPB.out, hne])
 rw [← hne] at hat1
 clear hne
 by_cases hpc : pc = 1
 · subst hpc
   obtain rfl : r = [] := List.eq_nil_of_length_eq_zero (by omega)
   simp only [List.length_nil] at *
   have hO3 := (OnlyG.below b HB2.out).set 5 (.slice (some ⟨pg, po, none⟩) 0 0)
   have hX3 : (w2.setCell ⟨b, 5, none⟩ (.slice (some ⟨pg, po, none⟩) 0 0)).heap[w.heap.size]? = some (.cells #[.int .i64 2, .int .i64 q.mode, .int .i64 q.uid, .int .i64 q.gid, .int .i64 q.time, .string (bs q.data), .slice o2 q.list.length c2] 55) := (Below.heap_setCell w2 ⟨b, 5, none⟩ (.slice (some ⟨pg, po, none⟩) 0 0) w.heap.size hne1).trans HX2.out
   have hb3 : (w2.setCell ⟨b, 5, none⟩ (.slice (some ⟨pg, po, none⟩) 0 0)).heap[b]? = some (.cells (bD9 (some ⟨gg, off, none⟩) f.nodes.length c f.room u g node (.slice (some ⟨pg, po, none⟩) 0 0) hops) 140 (0, 0)) := heap_setCell_same w2 b 5 _ _ (.slice (some ⟨pg, po, none⟩) 0 0) HK2.out
   have x6 : (w2.setCell ⟨b, 5, none⟩ (.slice (some ⟨pg, po, none⟩) 0 0)).cell? ⟨w.heap.size, 6, none⟩ = some (.slice o2 q.list.length c2) := aA9 hX3 6
   have hBb3 : Below b w (w2.setCell ⟨b, 5, none⟩ (.slice (some ⟨pg, po, none⟩) 0 0)) := hBb2.setCell (p := ⟨b, 5, none⟩) (Nat.le_refl _) _
   have HBb3 := qhZ hBb3
   have HEN : Hid (EntsA (w2.setCell ⟨b, 5, none⟩ (.slice (some ⟨pg, po, none⟩) 0 0)) (.slice o2 q.list.length c2) q.list) := qhZ (HE.out.below (HB0.out.trans (hBb3.mono hb0)))
   have HO3 := qhZ hO3
   have HB3 := qhZ hb3
   clear hO3 hX3 hb3 hBb3
   go_wp2_with fail
   refine (l3At_any q.list _ x _ HEN.out hql).mono ?_
   rintro e w4 ⟨rfl, hb4⟩
   rw [HAT.out]
   have HO4 := qhZ (HO3.out.trans (OnlyG.below b hb4))
   have HB4 := qhZ ((hb4.block b (aB9 HB3.out)).trans HB3.out)
   have HBb4 := qhZ (HBb3.out.trans (hb4.mono (Nat.le_trans (Nat.le_of_lt hbs) HBb3.out.size)))
   clear hb4
   go_wp2
   go_ret
   exact ⟨rfl, HBb4.out⟩
 · have hpc2 : ¬ 1 = pc := fun e => hpc e.symm
   have hO3 := (OnlyG.below b HB2.out).set 5 (.slice (some ⟨pg, po + 1, none⟩) r.length (pc - 1))
   have hX3 : (w2.setCell ⟨b, 5, none⟩ (.slice (some ⟨pg, po + 1, none⟩) r.length (pc - 1))).heap[w.heap.size]? = some (.cells #[.int .i64 2, .int .i64 q.mode, .int .i64 q.uid, .int .i64 q.gid, .int .i64 q.time, .string (bs q.data), .slice o2 q.list.length c2] 55) := (Below.heap_setCell w2 ⟨b, 5, none⟩ (.slice (some ⟨pg, po + 1, none⟩) r.length (pc - 1)) w.heap.size hne1).trans HX2.out
   have hb3 : (w2.setCell ⟨b, 5, none⟩ (.slice (some ⟨pg, po + 1, none⟩) r.length (pc - 1))).heap[b]? = some (.cells (bD9 (some ⟨gg, off, none⟩) f.nodes.length c f.room u g node (.slice (some ⟨pg, po + 1, none⟩) r.length (pc - 1)) hops) 140 (0, 0)) := heap_setCell_same w2 b 5 _ _ (.slice (some ⟨pg, po + 1, none⟩) r.length (pc - 1)) HK2.out
   have x6 : (w2.setCell ⟨b, 5, none⟩ (.slice (some ⟨pg, po + 1, none⟩) r.length (pc - 1))).cell? ⟨w.heap.size, 6, none⟩ = some (.slice o2 q.list.length c2) := aA9 hX3 6
   have hBb3 : Below b w (w2.setCell ⟨b, 5, none⟩ (.slice (some ⟨pg, po + 1, none⟩) r.length (pc - 1))) := hBb2.setCell (p := ⟨b, 5, none⟩) (Nat.le_refl _) _
   have HBb3 := qhZ hBb3
   have HEN : Hid (EntsA (w2.setCell ⟨b, 5, none⟩ (.slice (some ⟨pg, po + 1, none⟩) r.length (pc - 1))) (.slice o2 q.list.length c2) q.list) := qhZ (HE.out.below (HB0.out.trans (hBb3.mono hb0)))
   have HO3 := qhZ hO3
   have HB3 := qhZ hb3
   clear hO3 hX3 hb3 hBb3
   go_wp2_with fail
   refine (l3At_any q.list _ x _ HEN.out hql).mono ?_
   rintro e w4 ⟨rfl, hb4⟩
   rw [HAT.out]
   have HO4 := qhZ (HO3.out.trans (OnlyG.below b hb4))
   have HB4 := qhZ ((hb4.block b (aB9 HB3.out)).trans HB3.out)
   have HBb4 := qhZ (HBb3.out.trans (hb4.mono (Nat.le_trans (Nat.le_of_lt hbs) HBb3.out.size)))
   clear hb4
   go_wp2
   go_ret
   exact ⟨rfl, HBb4.out⟩
theorem step_next (f : FsD) (o : Option Addr) (c : Nat) (u g : Int) (fol : Bool) (b node hops : Nat) (p : List UInt8) (r : List (List UInt8)) (pg po pc : Nat) (w0 w : World) (hF : LookFs f) (hN0 : NodsA w0 (.slice o f.nodes.length c) f.nodes) (hB0 : Below w0.heap.size w0 w) (hb0 : w0.heap.size ≤ b) (hb : w.heap[b]? = some (.cells (bD9 o f.nodes.length c f.room u g node (.slice (some ⟨pg, po, none⟩) (r.length + 1) pc) hops) 140 (0, 0))) (hn : node < f.nodes.length) (hP : Rd w (.slice (some ⟨pg, po, none⟩) (p :: r).length pc) (p :: r)) (hpb : pg ≠ b) (hrl : r.length ≤ 1000) (hk : (aC9 f.nodes node).kind = 2) (hmay : mayB u g (aC9 f.nodes node).mode (aC9 f.nodes node).uid (aC9 f.nodes node).gid 1 = true) (hp1 : p ≠ [46]) (hp2 : p ≠ [46, 46]) (m2 : Nat) (hat : atE (aC9 f.nodes node).list p = m2) (hm2 : m2 < f.nodes.length) (hky : (aC9 f.nodes m2).kind ≠ 3) : Calls Tryz.prog 114 #[.pointer (some ⟨b, 0, none⟩), .bool fol] w fun e w' => e = .returned (.int .i64 0) ∧ ∃ pv, w'.heap[b]? = some (.cells (bD9 o f.nodes.length c f.room u g m2 pv hops) 140 (0, 0)) ∧ Rd w' pv r ∧ (∀ a l k, pv = .slice (some a) l k → a.block ≠ b) ∧ Below b w w' := by
 have hN := hN0.below hB0
 have HN0 := qhZ hN0
 have HB0 := qhZ hB0
 obtain ⟨o0, c00, e00, -, hH0⟩ := id hN0
 simp only [Value.slice.injEq, true_and] at e00
 obtain ⟨rfl, rfl⟩ := e00
 obtain ⟨gg0, off0, lv0, e00, hg0, hcc0, he0, -⟩ := hH0 node hn
 obtain ⟨o', c', e1, hmm, hH⟩ := id hN
 simp only [Value.slice.injEq, true_and] at e1
 obtain ⟨rfl, rfl⟩ := e1
 unfold maxLen at hmm
 have hl : f.nodes.length ≤ 1048576 := (aG9 hF.size).1
 obtain ⟨gg, off, lv, rfl, hg, hcc, he, -⟩ := hH node hn
 have hqe : f.nodes[node] = aC9 f.nodes node := (aR9 hn).symm
 have HHH := qhZ hH
 have HMO : Hid (inB 0 511 (aC9 f.nodes node).mode = true) := qhZ (hF.mode node hn (by rw [hk]; decide))
 have hql : (aC9 f.nodes node).list.length ≤ 1048576 := by rw [← hqe]; exact ((aG9 hF.size).2 _ (List.getElem_mem hn)).1
 rw [hqe] at hcc he hcc0 he0
 obtain ⟨q, hq⟩ : ∃ q, q = aC9 f.nodes node := ⟨_, rfl⟩
 have HQ := qhZ hq
 rw [← hq] at hcc hk he hql hcc0 he0
 obtain ⟨o2, c2, rfl, -, -⟩ := he
 obtain ⟨d0, d1, d2, d3, d4, d5, d6⟩ := hcc
 have hlv : lv0 = .slice o2 q.list.length c2 := by
   simp only [Option.some.injEq, Addr.mk.injEq, and_true] at e00
   obtain ⟨rfl, rfl⟩ := e00
   have h1 := (hB0.cell (p := ⟨gg, off + node * 7 + 6, none⟩) hg0).trans hcc0.c6
   rw [d6] at h1
   simpa using h1.symm
 subst hlv
 have HE := qhZ he0
 have hbs := aB9 hb
 have c0 : w.cell? ⟨b, 0, none⟩ = some (.slice (some ⟨gg, off, none⟩) f.nodes.length c) := aA9 hb 0
 have c4 : w.cell? ⟨b, 4, none⟩ = some (.int .i64 (node : Int)) := aA9 hb 4
 have hne1 : w.heap.size ≠ b := by omega
 have hne2 : w.heap.size ≠ gg := by omega
 have HB := qhZ hb
 have HN := qhZ hN
 have hat1 := hat
 rw [← hq] at hat1
 clear hat
 have HP := qhZ hP
 rw [hk] at d0
 clear hq hqe hH hb hN hP hN0 hB0 hH0 hcc0 he0 e00 hg0
 go_enter Tryz.func114, Tryz.ntmps114
 go_wp2
 go_region
 obtain ⟨W1, hW1⟩ : ∃ W1, (w.alloc (.cells #[.int .i64 2, .int .i64 q.mode, .int .i64 q.uid, .int .i64 q.gid, .int .i64 q.time, .string (bs q.data), .slice o2 q.list.length c2] 55)).drew = W1 := ⟨_, rfl⟩
 have hB1 : Below w.heap.size w W1 := by rw [← hW1]; exact ((Below.refl _ _).alloc (Nat.le_refl _) _).drew
 have hX1 : W1.heap[w.heap.size]? = some (.cells #[.int .i64 2, .int .i64 q.mode, .int .i64 q.uid, .int .i64 q.gid, .int .i64 q.time, .string (bs q.data), .slice o2 q.list.length c2] 55) := by rw [← hW1]; exact heap_alloc_new _ _
 rw [hW1]
 clear hW1 c0 c4 d0 d1 d2 d3 d4 d5 d6
 have hb1 := (hB1.block b hbs).trans HB.out
 have HFS1 : Hid (FsA W1 (.agg #[.slice (some ⟨gg, off, none⟩) f.nodes.length c, .int .i64 f.room]) f) := qhZ ⟨_, rfl, HN.out.below hB1⟩
 have s0 : W1.cell? ⟨b, 0, none⟩ = some (.slice (some ⟨gg, off, none⟩) f.nodes.length c) := aA9 hb1 0
 have s1 : W1.cell? ⟨b, 1, none⟩ = some (.int .i64 f.room) := aA9 hb1 1
 have s2 : W1.cell? ⟨b, 2, none⟩ = some (.int .i64 u) := aA9 hb1 2
 have s3 : W1.cell? ⟨b, 3, none⟩ = some (.int .i64 g) := aA9 hb1 3
 have s4 : W1.cell? ⟨b, 4, none⟩ = some (.int .i64 (node : Int)) := aA9 hb1 4
 have x0 : W1.cell? ⟨w.heap.size, 0, none⟩ = some (.int .i64 2) := aA9 hX1 0
 have z0 := fun d os => cell_regrown (w := W1) s0 d os
 have z1 := fun d os => cell_regrown (w := W1) s1 d os
 have z2 := fun d os => cell_regrown (w := W1) s2 d os
 have z3 := fun d os => cell_regrown (w := W1) s3 d os
 have z4 := fun d os => cell_regrown (w := W1) s4 d os
 go_wp2
 have HMAY : Hid (mayB u g (aC9 f.nodes node).mode (aC9 f.nodes node).uid (aC9 f.nodes node).gid 1 = true) := qhZ hmay
 refine wp_region_quiet_below (by kernel_rfl) (by kernel_rfl) ?_
 repeat (first | go_big_quiet_step ((go_at_call 105; exact Calls.regrown_of (l4May_is HMAY.out (HFS1.out.below (below_regrown _ _ _)) hn HMO.out hl))) | quiet_step ((go_at_call 105; exact Calls.regrown_of (l4May_is HMAY.out (HFS1.out.below (below_regrown _ _ _)) hn HMO.out hl))))
 refine wpQuiet_nil ?_
 intro w2 hwq
 have hb5 : Below W1.heap.size W1 w2 := by
   obtain ⟨pp, rfl⟩ := hwq
   exact below_regrown _ _ _
 have hB2 := hB1.trans (hb5.mono hB1.size)
 have hb2 := (hb5.block b (aB9 hb1)).trans hb1
 have hX2 := (hb5.block w.heap.size (aB9 hX1)).trans hX1
 have hBb2 : Below b w w2 := hB2.mono (Nat.le_of_lt hbs)
 clear hwq hb5 hX1 hb1 z0 z1 z2 z3 z4 s0 s1 s2 s3 s4 x0 hmay HFS1
 obtain ⟨hpg, hpl, hpm, hp0, hr1, hr2⟩ := rd_first HP.out
 unfold maxLen at hpm
 have p0 := (hB2.cell (p := ⟨pg, po, none⟩) hpg).trans hp0
 have t5 : w2.cell? ⟨b, 5, none⟩ = some (.slice (some ⟨pg, po, none⟩) (r.length + 1) pc) := aA9 hb2 5
 have f5 := aE9 hb2 5
 have HK2 := qhZ hb2
 have HX2 := qhZ hX2
 have HB2 := qhZ hB2
 have HT1 := qhZ hr1
 have HT2 := qhZ hr2
 clear hp0 hr1 hr2 hb2 hX2
 have hx1 := bytes_neP (x := bs p) (l := [46]) (by rw [aY9]; exact hp1)
 have hx2 := bytes_neP (x := bs p) (l := [46, 46]) (by rw [aY9]; exact hp2)
 have HPB : Hid ((bs p).data.toList = p) := qhZ (aY9 p)
 obtain ⟨x, hx⟩ : ∃ x, x = bs p := ⟨_, rfl⟩
 rw [← hx] at p0 hx1 hx2 HPB
 clear hx hp1 hp2
 have HAT : Hid (atE q.list x.data.toList = (m2 : Int)) := qhZ (by rw [HPB.out, hat1])
 by_cases hpc : pc = 1
 · subst hpc
   obtain rfl : r = [] := List.eq_nil_of_length_eq_zero (by omega)
   simp only [List.length_nil] at *
   have hO3 := (OnlyG.below b HB2.out).set 5 (.slice (some ⟨pg, po, none⟩) 0 0)
   have hX3 : (w2.setCell ⟨b, 5, none⟩ (.slice (some ⟨pg, po, none⟩) 0 0)).heap[w.heap.size]? = some (.cells #[.int .i64 2, .int .i64 q.mode, .int .i64 q.uid, .int .i64 q.gid, .int .i64 q.time, .string (bs q.data), .slice o2 q.list.length c2] 55) := (Below.heap_setCell w2 ⟨b, 5, none⟩ (.slice (some ⟨pg, po, none⟩) 0 0) w.heap.size hne1).trans HX2.out
   have hb3 : (w2.setCell ⟨b, 5, none⟩ (.slice (some ⟨pg, po, none⟩) 0 0)).heap[b]? = some (.cells (bD9 (some ⟨gg, off, none⟩) f.nodes.length c f.room u g node (.slice (some ⟨pg, po, none⟩) 0 0) hops) 140 (0, 0)) := heap_setCell_same w2 b 5 _ _ (.slice (some ⟨pg, po, none⟩) 0 0) HK2.out
   have x6 : (w2.setCell ⟨b, 5, none⟩ (.slice (some ⟨pg, po, none⟩) 0 0)).cell? ⟨w.heap.size, 6, none⟩ = some (.slice o2 q.list.length c2) := aA9 hX3 6
   have hBb3 : Below b w (w2.setCell ⟨b, 5, none⟩ (.slice (some ⟨pg, po, none⟩) 0 0)) := hBb2.setCell (p := ⟨b, 5, none⟩) (Nat.le_refl _) _
   have HBb3 := qhZ hBb3
   have HEN : Hid (EntsA (w2.setCell ⟨b, 5, none⟩ (.slice (some ⟨pg, po, none⟩) 0 0)) (.slice o2 q.list.length c2) q.list) := qhZ (HE.out.below (HB0.out.trans (hBb3.mono hb0)))
   have HO3 := qhZ hO3
   have HB3 := qhZ hb3
   clear hO3 hX3 hb3 hBb3
   go_wp2_with fail
   refine (l3At_any q.list _ x _ HEN.out hql).mono ?_
   rintro e w4 ⟨rfl, hb4⟩
   rw [HAT.out]
   have HO4 := qhZ (HO3.out.trans (OnlyG.below b hb4))
   have HB4 := qhZ ((hb4.block b (aB9 HB3.out)).trans HB3.out)
   have HBb4 := qhZ (HBb3.out.trans (hb4.mono (Nat.le_trans (Nat.le_of_lt hbs) HBb3.out.size)))
   clear hb4
   obtain ⟨o5, c5, e5, -, hH5⟩ := id HN0.out
   simp only [Value.slice.injEq, true_and] at e5
   obtain ⟨rfl, rfl⟩ := e5
   obtain ⟨gy, offy, ly, e5, hgy, hcy, hey, -⟩ := hH5 m2 hm2
   simp only [Option.some.injEq, Addr.mk.injEq, and_true] at e5
   obtain ⟨rfl, rfl⟩ := e5
   have hye : f.nodes[m2] = aC9 f.nodes m2 := (aR9 hm2).symm
   rw [hye] at hcy hey
   obtain ⟨y, hy⟩ : ∃ y, y = aC9 f.nodes m2 := ⟨_, rfl⟩
   have HY := qhZ hy
   rw [← hy] at hcy hey hky
   obtain ⟨o3, c3, rfl, -, -⟩ := hey
   have hB04 := HB0.out.trans (HBb4.out.mono hb0)
   obtain ⟨v0, v1, v2, v3, v4, v5, v6⟩ := hcy.below hB04 hgy
   have i0 : w4.cell? ⟨b, 0, none⟩ = some (.slice (some ⟨gg, off, none⟩) f.nodes.length c) := aA9 HB4.out 0
   have i5 : w4.cell? ⟨b, 5, none⟩ = some (.slice (some ⟨pg, po, none⟩) 0 0) := aA9 HB4.out 5
   have HBY : Hid (∀ oo, Below b w (w4.alloc oo)) := qhZ (fun oo => HBb4.out.alloc (Nat.le_trans (Nat.le_of_lt hbs) HBb4.out.size) oo)
   have HOY : Hid (∀ oo, OnlyG w (w4.alloc oo) b) := qhZ (fun oo => HO4.out.trans (OnlyG.below b ((Below.refl _ _).alloc (Nat.le_refl _) oo)))
   have HKY : Hid (∀ oo, (w4.alloc oo).heap[b]? = some (.cells (bD9 (some ⟨gg, off, none⟩) f.nodes.length c f.room u g node (.slice (some ⟨pg, po, none⟩) 0 0) hops) 140 (0, 0))) := qhZ (fun oo => (Below.heap_alloc _ _ _ (aB9 HB4.out)).trans HB4.out)
   have hsz4 : b < w4.heap.size := aB9 HB4.out
   have hne3 : w4.heap.size ≠ b := by omega
   have i4 : ∀ oo, (w4.alloc oo).cell? ⟨b, 4, none⟩ = some (.int .i64 (node : Int)) := fun oo => aA9 (HKY.out oo) 4
   have i6 : ∀ oo, (w4.alloc oo).cell? ⟨b, 6, none⟩ = some (.int .i64 (hops : Int)) := fun oo => aA9 (HKY.out oo) 6
   have i5a : ∀ oo, (w4.alloc oo).cell? ⟨b, 5, none⟩ = some (.slice (some ⟨pg, po, none⟩) 0 0) := fun oo => aA9 (HKY.out oo) 5
   have i4f : ∀ oo, (w4.alloc oo).frozen? ⟨b, 4, none⟩ = false := fun oo => aE9 (HKY.out oo) 4
   have i6f : ∀ oo, (w4.alloc oo).frozen? ⟨b, 6, none⟩ = false := fun oo => aE9 (HKY.out oo) 6
   clear hcy hye hy hH5 hB04
   have hkb : (y.kind == 3) = false := beq_eq_false_iff_ne.2 hky
   have hkc : (y.kind != 3) = true := by rw [bne_iff_ne]; exact hky
   go_wp2
   go_ret
   have hO := (HO4.out.set 4 (.int .i64 (m2 : Int))).trans (OnlyG.below b ((Below.refl _ _).alloc (Nat.le_refl _) (.cells #[.int .i64 y.kind, .int .i64 y.mode, .int .i64 y.uid, .int .i64 y.gid, .int .i64 y.time, .string (bs y.data), .slice o3 y.list.length c3] 55)))
   exact ⟨rfl, (.slice (some ⟨pg, po, none⟩) 0 0), (Below.heap_alloc _ _ b (by simpa using hsz4)).trans (heap_setCell_same w4 b 4 _ _ (.int .i64 (m2 : Int)) HB4.out), rd_kept (HT1.out trivial) hO hpb, fun a l k e => by cases e; exact hpb, (HBb4.out.setCell (p := ⟨b, 4, none⟩) (Nat.le_refl _) _).alloc (by simp; omega) _⟩
 · have hpc2 : ¬ 1 = pc := fun e => hpc e.symm
   have hO3 := (OnlyG.below b HB2.out).set 5 (.slice (some ⟨pg, po + 1, none⟩) r.length (pc - 1))
   have hX3 : (w2.setCell ⟨b, 5, none⟩ (.slice (some ⟨pg, po + 1, none⟩) r.length (pc - 1))).heap[w.heap.size]? = some (.cells #[.int .i64 2, .int .i64 q.mode, .int .i64 q.uid, .int .i64 q.gid, .int .i64 q.time, .string (bs q.data), .slice o2 q.list.length c2] 55) := (Below.heap_setCell w2 ⟨b, 5, none⟩ (.slice (some ⟨pg, po + 1, none⟩) r.length (pc - 1)) w.heap.size hne1).trans HX2.out
   have hb3 : (w2.setCell ⟨b, 5, none⟩ (.slice (some ⟨pg, po + 1, none⟩) r.length (pc - 1))).heap[b]? = some (.cells (bD9 (some ⟨gg, off, none⟩) f.nodes.length c f.room u g node (.slice (some ⟨pg, po + 1, none⟩) r.length (pc - 1)) hops) 140 (0, 0)) := heap_setCell_same w2 b 5 _ _ (.slice (some ⟨pg, po + 1, none⟩) r.length (pc - 1)) HK2.out
   have x6 : (w2.setCell ⟨b, 5, none⟩ (.slice (some ⟨pg, po + 1, none⟩) r.length (pc - 1))).cell? ⟨w.heap.size, 6, none⟩ = some (.slice o2 q.list.length c2) := aA9 hX3 6
   have hBb3 : Below b w (w2.setCell ⟨b, 5, none⟩ (.slice (some ⟨pg, po + 1, none⟩) r.length (pc - 1))) := hBb2.setCell (p := ⟨b, 5, none⟩) (Nat.le_refl _) _
   have HBb3 := qhZ hBb3
   have HEN : Hid (EntsA (w2.setCell ⟨b, 5, none⟩ (.slice (some ⟨pg, po + 1, none⟩) r.length (pc - 1))) (.slice o2 q.list.length c2) q.list) := qhZ (HE.out.below (HB0.out.trans (hBb3.mono hb0)))
   have HO3 := qhZ hO3
   have HB3 := qhZ hb3
   clear hO3 hX3 hb3 hBb3
   go_wp2_with fail
   refine (l3At_any q.list _ x _ HEN.out hql).mono ?_
   rintro e w4 ⟨rfl, hb4⟩
   rw [HAT.out]
   have HO4 := qhZ (HO3.out.trans (OnlyG.below b hb4))
   have HB4 := qhZ ((hb4.block b (aB9 HB3.out)).trans HB3.out)
   have HBb4 := qhZ (HBb3.out.trans (hb4.mono (Nat.le_trans (Nat.le_of_lt hbs) HBb3.out.size)))
   clear hb4
   obtain ⟨o5, c5, e5, -, hH5⟩ := id HN0.out
   simp only [Value.slice.injEq, true_and] at e5
   obtain ⟨rfl, rfl⟩ := e5
   obtain ⟨gy, offy, ly, e5, hgy, hcy, hey, -⟩ := hH5 m2 hm2
   simp only [Option.some.injEq, Addr.mk.injEq, and_true] at e5
   obtain ⟨rfl, rfl⟩ := e5
   have hye : f.nodes[m2] = aC9 f.nodes m2 := (aR9 hm2).symm
   rw [hye] at hcy hey
   obtain ⟨y, hy⟩ : ∃ y, y = aC9 f.nodes m2 := ⟨_, rfl⟩
   have HY := qhZ hy
   rw [← hy] at hcy hey hky
   obtain ⟨o3, c3, rfl, -, -⟩ := hey
   have hB04 := HB0.out.trans (HBb4.out.mono hb0)
   obtain ⟨v0, v1, v2, v3, v4, v5, v6⟩ := hcy.below hB04 hgy
   have i0 : w4.cell? ⟨b, 0, none⟩ = some (.slice (some ⟨gg, off, none⟩) f.nodes.length c) := aA9 HB4.out 0
   have i5 : w4.cell? ⟨b, 5, none⟩ = some (.slice (some ⟨pg, po + 1, none⟩) r.length (pc - 1)) := aA9 HB4.out 5
   have HBY : Hid (∀ oo, Below b w (w4.alloc oo)) := qhZ (fun oo => HBb4.out.alloc (Nat.le_trans (Nat.le_of_lt hbs) HBb4.out.size) oo)
   have HOY : Hid (∀ oo, OnlyG w (w4.alloc oo) b) := qhZ (fun oo => HO4.out.trans (OnlyG.below b ((Below.refl _ _).alloc (Nat.le_refl _) oo)))
   have HKY : Hid (∀ oo, (w4.alloc oo).heap[b]? = some (.cells (bD9 (some ⟨gg, off, none⟩) f.nodes.length c f.room u g node (.slice (some ⟨pg, po + 1, none⟩) r.length (pc - 1)) hops) 140 (0, 0))) := qhZ (fun oo => (Below.heap_alloc _ _ _ (aB9 HB4.out)).trans HB4.out)
   have hsz4 : b < w4.heap.size := aB9 HB4.out
   have hne3 : w4.heap.size ≠ b := by omega
   have i4 : ∀ oo, (w4.alloc oo).cell? ⟨b, 4, none⟩ = some (.int .i64 (node : Int)) := fun oo => aA9 (HKY.out oo) 4
   have i6 : ∀ oo, (w4.alloc oo).cell? ⟨b, 6, none⟩ = some (.int .i64 (hops : Int)) := fun oo => aA9 (HKY.out oo) 6
   have i5a : ∀ oo, (w4.alloc oo).cell? ⟨b, 5, none⟩ = some (.slice (some ⟨pg, po + 1, none⟩) r.length (pc - 1)) := fun oo => aA9 (HKY.out oo) 5
   have i4f : ∀ oo, (w4.alloc oo).frozen? ⟨b, 4, none⟩ = false := fun oo => aE9 (HKY.out oo) 4
   have i6f : ∀ oo, (w4.alloc oo).frozen? ⟨b, 6, none⟩ = false := fun oo => aE9 (HKY.out oo) 6
   clear hcy hye hy hH5 hB04
   have hkb : (y.kind == 3) = false := beq_eq_false_iff_ne.2 hky
   have hkc : (y.kind != 3) = true := by rw [bne_iff_ne]; exact hky
   go_wp2
   go_ret
   have hO := (HO4.out.set 4 (.int .i64 (m2 : Int))).trans (OnlyG.below b ((Below.refl _ _).alloc (Nat.le_refl _) (.cells #[.int .i64 y.kind, .int .i64 y.mode, .int .i64 y.uid, .int .i64 y.gid, .int .i64 y.time, .string (bs y.data), .slice o3 y.list.length c3] 55)))
   exact ⟨rfl, (.slice (some ⟨pg, po + 1, none⟩) r.length (pc - 1)), (Below.heap_alloc _ _ b (by simpa using hsz4)).trans (heap_setCell_same w4 b 4 _ _ (.int .i64 (m2 : Int)) HB4.out), rd_kept (HT2.out) hO hpb, fun a l k e => by cases e; exact hpb, (HBb4.out.setCell (p := ⟨b, 4, none⟩) (Nat.le_refl _) _).alloc (by simp; omega) _⟩
theorem step_last (f : FsD) (o : Option Addr) (c : Nat) (u g : Int) (fol : Bool) (b node hops : Nat) (p : List UInt8) (r : List (List UInt8)) (pg po pc : Nat) (w0 w : World) (hF : LookFs f) (hN0 : NodsA w0 (.slice o f.nodes.length c) f.nodes) (hB0 : Below w0.heap.size w0 w) (hb0 : w0.heap.size ≤ b) (hb : w.heap[b]? = some (.cells (bD9 o f.nodes.length c f.room u g node (.slice (some ⟨pg, po, none⟩) (r.length + 1) pc) hops) 140 (0, 0))) (hn : node < f.nodes.length) (hP : Rd w (.slice (some ⟨pg, po, none⟩) (p :: r).length pc) (p :: r)) (hpb : pg ≠ b) (hrl : r.length ≤ 1000) (hk : (aC9 f.nodes node).kind = 2) (hmay : mayB u g (aC9 f.nodes node).mode (aC9 f.nodes node).uid (aC9 f.nodes node).gid 1 = true) (hp1 : p ≠ [46]) (hp2 : p ≠ [46, 46]) (m2 : Nat) (hat : atE (aC9 f.nodes node).list p = m2) (hm2 : m2 < f.nodes.length) (hky : (aC9 f.nodes m2).kind = 3) (hrn : r = []) (hfo : fol = false) : Calls Tryz.prog 114 #[.pointer (some ⟨b, 0, none⟩), .bool fol] w fun e w' => e = .returned (.int .i64 0) ∧ ∃ pv, w'.heap[b]? = some (.cells (bD9 o f.nodes.length c f.room u g m2 pv hops) 140 (0, 0)) ∧ Rd w' pv r ∧ (∀ a l k, pv = .slice (some a) l k → a.block ≠ b) ∧ Below b w w' := by
 have HR0 : Hid (r.length = 0) := qhZ (by rw [hrn]; rfl)
 subst hfo
 clear hrn
 have hN := hN0.below hB0
 have HN0 := qhZ hN0
 have HB0 := qhZ hB0
 obtain ⟨o0, c00, e00, -, hH0⟩ := id hN0
 simp only [Value.slice.injEq, true_and] at e00
 obtain ⟨rfl, rfl⟩ := e00
 obtain ⟨gg0, off0, lv0, e00, hg0, hcc0, he0, -⟩ := hH0 node hn
 obtain ⟨o', c', e1, hmm, hH⟩ := id hN
 simp only [Value.slice.injEq, true_and] at e1
 obtain ⟨rfl, rfl⟩ := e1
 unfold maxLen at hmm
 have hl : f.nodes.length ≤ 1048576 := (aG9 hF.size).1
 obtain ⟨gg, off, lv, rfl, hg, hcc, he, -⟩ := hH node hn
 have hqe : f.nodes[node] = aC9 f.nodes node := (aR9 hn).symm
 have HHH := qhZ hH
 have HMO : Hid (inB 0 511 (aC9 f.nodes node).mode = true) := qhZ (hF.mode node hn (by rw [hk]; decide))
 have hql : (aC9 f.nodes node).list.length ≤ 1048576 := by rw [← hqe]; exact ((aG9 hF.size).2 _ (List.getElem_mem hn)).1
 rw [hqe] at hcc he hcc0 he0
 obtain ⟨q, hq⟩ : ∃ q, q = aC9 f.nodes node := ⟨_, rfl⟩
 have HQ := qhZ hq
 rw [← hq] at hcc hk he hql hcc0 he0
 obtain ⟨o2, c2, rfl, -, -⟩ := he
 obtain ⟨d0, d1, d2, d3, d4, d5, d6⟩ := hcc
 have hlv : lv0 = .slice o2 q.list.length c2 := by
   simp only [Option.some.injEq, Addr.mk.injEq, and_true] at e00
   obtain ⟨rfl, rfl⟩ := e00
   have h1 := (hB0.cell (p := ⟨gg, off + node * 7 + 6, none⟩) hg0).trans hcc0.c6
   rw [d6] at h1
   simpa using h1.symm
 subst hlv
 have HE := qhZ he0
 have hbs := aB9 hb
 have c0 : w.cell? ⟨b, 0, none⟩ = some (.slice (some ⟨gg, off, none⟩) f.nodes.length c) := aA9 hb 0
 have c4 : w.cell? ⟨b, 4, none⟩ = some (.int .i64 (node : Int)) := aA9 hb 4
 have hne1 : w.heap.size ≠ b := by omega
 have hne2 : w.heap.size ≠ gg := by omega
 have HB := qhZ hb
 have HN := qhZ hN
 have hat1 := hat
 rw [← hq] at hat1
 clear hat
 have HP := qhZ hP
 rw [hk] at d0
 clear hq hqe hH hb hN hP hN0 hB0 hH0 hcc0 he0 e00 hg0
 go_enter Tryz.func114, Tryz.ntmps114
 go_wp2
 go_region
 obtain ⟨W1, hW1⟩ : ∃ W1, (w.alloc (.cells #[.int .i64 2, .int .i64 q.mode, .int .i64 q.uid, .int .i64 q.gid, .int .i64 q.time, .string (bs q.data), .slice o2 q.list.length c2] 55)).drew = W1 := ⟨_, rfl⟩
 have hB1 : Below w.heap.size w W1 := by rw [← hW1]; exact ((Below.refl _ _).alloc (Nat.le_refl _) _).drew
 have hX1 : W1.heap[w.heap.size]? = some (.cells #[.int .i64 2, .int .i64 q.mode, .int .i64 q.uid, .int .i64 q.gid, .int .i64 q.time, .string (bs q.data), .slice o2 q.list.length c2] 55) := by rw [← hW1]; exact heap_alloc_new _ _
 rw [hW1]
 clear hW1 c0 c4 d0 d1 d2 d3 d4 d5 d6
 have hb1 := (hB1.block b hbs).trans HB.out
 have HFS1 : Hid (FsA W1 (.agg #[.slice (some ⟨gg, off, none⟩) f.nodes.length c, .int .i64 f.room]) f) := qhZ ⟨_, rfl, HN.out.below hB1⟩
 have s0 : W1.cell? ⟨b, 0, none⟩ = some (.slice (some ⟨gg, off, none⟩) f.nodes.length c) := aA9 hb1 0
 have s1 : W1.cell? ⟨b, 1, none⟩ = some (.int .i64 f.room) := aA9 hb1 1
 have s2 : W1.cell? ⟨b, 2, none⟩ = some (.int .i64 u) := aA9 hb1 2
 have s3 : W1.cell? ⟨b, 3, none⟩ = some (.int .i64 g) := aA9 hb1 3
 have s4 : W1.cell? ⟨b, 4, none⟩ = some (.int .i64 (node : Int)) := aA9 hb1 4
 have x0 : W1.cell? ⟨w.heap.size, 0, none⟩ = some (.int .i64 2) := aA9 hX1 0
 have z0 := fun d os => cell_regrown (w := W1) s0 d os
 have z1 := fun d os => cell_regrown (w := W1) s1 d os
 have z2 := fun d os => cell_regrown (w := W1) s2 d os
 have z3 := fun d os => cell_regrown (w := W1) s3 d os
 have z4 := fun d os => cell_regrown (w := W1) s4 d os
 go_wp2
 have HMAY : Hid (mayB u g (aC9 f.nodes node).mode (aC9 f.nodes node).uid (aC9 f.nodes node).gid 1 = true) := qhZ hmay
 refine wp_region_quiet_below (by kernel_rfl) (by kernel_rfl) ?_
 repeat (first | go_big_quiet_step ((go_at_call 105; exact Calls.regrown_of (l4May_is HMAY.out (HFS1.out.below (below_regrown _ _ _)) hn HMO.out hl))) | quiet_step ((go_at_call 105; exact Calls.regrown_of (l4May_is HMAY.out (HFS1.out.below (below_regrown _ _ _)) hn HMO.out hl))))
 refine wpQuiet_nil ?_
 intro w2 hwq
 have hb5 : Below W1.heap.size W1 w2 := by
   obtain ⟨pp, rfl⟩ := hwq
   exact below_regrown _ _ _
 have hB2 := hB1.trans (hb5.mono hB1.size)
 have hb2 := (hb5.block b (aB9 hb1)).trans hb1
 have hX2 := (hb5.block w.heap.size (aB9 hX1)).trans hX1
 have hBb2 : Below b w w2 := hB2.mono (Nat.le_of_lt hbs)
 clear hwq hb5 hX1 hb1 z0 z1 z2 z3 z4 s0 s1 s2 s3 s4 x0 hmay HFS1
 obtain ⟨hpg, hpl, hpm, hp0, hr1, hr2⟩ := rd_first HP.out
 unfold maxLen at hpm
 have p0 := (hB2.cell (p := ⟨pg, po, none⟩) hpg).trans hp0
 have t5 : w2.cell? ⟨b, 5, none⟩ = some (.slice (some ⟨pg, po, none⟩) (r.length + 1) pc) := aA9 hb2 5
 have f5 := aE9 hb2 5
 have HK2 := qhZ hb2
 have HX2 := qhZ hX2
 have HB2 := qhZ hB2
 have HT1 := qhZ hr1
 have HT2 := qhZ hr2
 clear hp0 hr1 hr2 hb2 hX2
 have hx1 := bytes_neP (x := bs p) (l := [46]) (by rw [aY9]; exact hp1)
 have hx2 := bytes_neP (x := bs p) (l := [46, 46]) (by rw [aY9]; exact hp2)
 have HPB : Hid ((bs p).data.toList = p) := qhZ (aY9 p)
 obtain ⟨x, hx⟩ : ∃ x, x = bs p := ⟨_, rfl⟩
 rw [← hx] at p0 hx1 hx2 HPB
 clear hx hp1 hp2
 have HAT : Hid (atE q.list x.data.toList = (m2 : Int)) := qhZ (by rw [HPB.out, hat1])
 by_cases hpc : pc = 1
 · subst hpc
   obtain rfl : r = [] := List.eq_nil_of_length_eq_zero (by omega)
   simp only [List.length_nil] at *
   have hO3 := (OnlyG.below b HB2.out).set 5 (.slice (some ⟨pg, po, none⟩) 0 0)
   have hX3 : (w2.setCell ⟨b, 5, none⟩ (.slice (some ⟨pg, po, none⟩) 0 0)).heap[w.heap.size]? = some (.cells #[.int .i64 2, .int .i64 q.mode, .int .i64 q.uid, .int .i64 q.gid, .int .i64 q.time, .string (bs q.data), .slice o2 q.list.length c2] 55) := (Below.heap_setCell w2 ⟨b, 5, none⟩ (.slice (some ⟨pg, po, none⟩) 0 0) w.heap.size hne1).trans HX2.out
   have hb3 : (w2.setCell ⟨b, 5, none⟩ (.slice (some ⟨pg, po, none⟩) 0 0)).heap[b]? = some (.cells (bD9 (some ⟨gg, off, none⟩) f.nodes.length c f.room u g node (.slice (some ⟨pg, po, none⟩) 0 0) hops) 140 (0, 0)) := heap_setCell_same w2 b 5 _ _ (.slice (some ⟨pg, po, none⟩) 0 0) HK2.out
   have x6 : (w2.setCell ⟨b, 5, none⟩ (.slice (some ⟨pg, po, none⟩) 0 0)).cell? ⟨w.heap.size, 6, none⟩ = some (.slice o2 q.list.length c2) := aA9 hX3 6
   have hBb3 : Below b w (w2.setCell ⟨b, 5, none⟩ (.slice (some ⟨pg, po, none⟩) 0 0)) := hBb2.setCell (p := ⟨b, 5, none⟩) (Nat.le_refl _) _
   have HBb3 := qhZ hBb3
   have HEN : Hid (EntsA (w2.setCell ⟨b, 5, none⟩ (.slice (some ⟨pg, po, none⟩) 0 0)) (.slice o2 q.list.length c2) q.list) := qhZ (HE.out.below (HB0.out.trans (hBb3.mono hb0)))
   have HO3 := qhZ hO3
   have HB3 := qhZ hb3
   clear hO3 hX3 hb3 hBb3
   go_wp2_with fail
   refine (l3At_any q.list _ x _ HEN.out hql).mono ?_
   rintro e w4 ⟨rfl, hb4⟩
   rw [HAT.out]
   have HO4 := qhZ (HO3.out.trans (OnlyG.below b hb4))
   have HB4 := qhZ ((hb4.block b (aB9 HB3.out)).trans HB3.out)
   have HBb4 := qhZ (HBb3.out.trans (hb4.mono (Nat.le_trans (Nat.le_of_lt hbs) HBb3.out.size)))
   clear hb4
   obtain ⟨o5, c5, e5, -, hH5⟩ := id HN0.out
   simp only [Value.slice.injEq, true_and] at e5
   obtain ⟨rfl, rfl⟩ := e5
   obtain ⟨gy, offy, ly, e5, hgy, hcy, hey, -⟩ := hH5 m2 hm2
   simp only [Option.some.injEq, Addr.mk.injEq, and_true] at e5
   obtain ⟨rfl, rfl⟩ := e5
   have hye : f.nodes[m2] = aC9 f.nodes m2 := (aR9 hm2).symm
   rw [hye] at hcy hey
   obtain ⟨y, hy⟩ : ∃ y, y = aC9 f.nodes m2 := ⟨_, rfl⟩
   have HY := qhZ hy
   rw [← hy] at hcy hey hky
   obtain ⟨o3, c3, rfl, -, -⟩ := hey
   have hB04 := HB0.out.trans (HBb4.out.mono hb0)
   obtain ⟨v0, v1, v2, v3, v4, v5, v6⟩ := hcy.below hB04 hgy
   have i0 : w4.cell? ⟨b, 0, none⟩ = some (.slice (some ⟨gg, off, none⟩) f.nodes.length c) := aA9 HB4.out 0
   have i5 : w4.cell? ⟨b, 5, none⟩ = some (.slice (some ⟨pg, po, none⟩) 0 0) := aA9 HB4.out 5
   have HBY : Hid (∀ oo, Below b w (w4.alloc oo)) := qhZ (fun oo => HBb4.out.alloc (Nat.le_trans (Nat.le_of_lt hbs) HBb4.out.size) oo)
   have HOY : Hid (∀ oo, OnlyG w (w4.alloc oo) b) := qhZ (fun oo => HO4.out.trans (OnlyG.below b ((Below.refl _ _).alloc (Nat.le_refl _) oo)))
   have HKY : Hid (∀ oo, (w4.alloc oo).heap[b]? = some (.cells (bD9 (some ⟨gg, off, none⟩) f.nodes.length c f.room u g node (.slice (some ⟨pg, po, none⟩) 0 0) hops) 140 (0, 0))) := qhZ (fun oo => (Below.heap_alloc _ _ _ (aB9 HB4.out)).trans HB4.out)
   have hsz4 : b < w4.heap.size := aB9 HB4.out
   have hne3 : w4.heap.size ≠ b := by omega
   have i4 : ∀ oo, (w4.alloc oo).cell? ⟨b, 4, none⟩ = some (.int .i64 (node : Int)) := fun oo => aA9 (HKY.out oo) 4
   have i6 : ∀ oo, (w4.alloc oo).cell? ⟨b, 6, none⟩ = some (.int .i64 (hops : Int)) := fun oo => aA9 (HKY.out oo) 6
   have i5a : ∀ oo, (w4.alloc oo).cell? ⟨b, 5, none⟩ = some (.slice (some ⟨pg, po, none⟩) 0 0) := fun oo => aA9 (HKY.out oo) 5
   have i4f : ∀ oo, (w4.alloc oo).frozen? ⟨b, 4, none⟩ = false := fun oo => aE9 (HKY.out oo) 4
   have i6f : ∀ oo, (w4.alloc oo).frozen? ⟨b, 6, none⟩ = false := fun oo => aE9 (HKY.out oo) 6
   clear hcy hye hy hH5 hB04
   rw [hky] at v0
   go_wp2
   go_ret
   have hO := (HO4.out.set 4 (.int .i64 (m2 : Int))).trans (OnlyG.below b ((Below.refl _ _).alloc (Nat.le_refl _) (.cells #[.int .i64 3, .int .i64 y.mode, .int .i64 y.uid, .int .i64 y.gid, .int .i64 y.time, .string (bs y.data), .slice o3 y.list.length c3] 55)))
   exact ⟨rfl, (.slice (some ⟨pg, po, none⟩) 0 0), (Below.heap_alloc _ _ b (by simpa using hsz4)).trans (heap_setCell_same w4 b 4 _ _ (.int .i64 (m2 : Int)) HB4.out), rd_kept (HT1.out trivial) hO hpb, fun a l k e => by cases e; exact hpb, (HBb4.out.setCell (p := ⟨b, 4, none⟩) (Nat.le_refl _) _).alloc (by simp; omega) _⟩
 · have hpc2 : ¬ 1 = pc := fun e => hpc e.symm
   have hO3 := (OnlyG.below b HB2.out).set 5 (.slice (some ⟨pg, po + 1, none⟩) r.length (pc - 1))
   have hX3 : (w2.setCell ⟨b, 5, none⟩ (.slice (some ⟨pg, po + 1, none⟩) r.length (pc - 1))).heap[w.heap.size]? = some (.cells #[.int .i64 2, .int .i64 q.mode, .int .i64 q.uid, .int .i64 q.gid, .int .i64 q.time, .string (bs q.data), .slice o2 q.list.length c2] 55) := (Below.heap_setCell w2 ⟨b, 5, none⟩ (.slice (some ⟨pg, po + 1, none⟩) r.length (pc - 1)) w.heap.size hne1).trans HX2.out
   have hb3 : (w2.setCell ⟨b, 5, none⟩ (.slice (some ⟨pg, po + 1, none⟩) r.length (pc - 1))).heap[b]? = some (.cells (bD9 (some ⟨gg, off, none⟩) f.nodes.length c f.room u g node (.slice (some ⟨pg, po + 1, none⟩) r.length (pc - 1)) hops) 140 (0, 0)) := heap_setCell_same w2 b 5 _ _ (.slice (some ⟨pg, po + 1, none⟩) r.length (pc - 1)) HK2.out
   have x6 : (w2.setCell ⟨b, 5, none⟩ (.slice (some ⟨pg, po + 1, none⟩) r.length (pc - 1))).cell? ⟨w.heap.size, 6, none⟩ = some (.slice o2 q.list.length c2) := aA9 hX3 6
   have hBb3 : Below b w (w2.setCell ⟨b, 5, none⟩ (.slice (some ⟨pg, po + 1, none⟩) r.length (pc - 1))) := hBb2.setCell (p := ⟨b, 5, none⟩) (Nat.le_refl _) _
   have HBb3 := qhZ hBb3
   have HEN : Hid (EntsA (w2.setCell ⟨b, 5, none⟩ (.slice (some ⟨pg, po + 1, none⟩) r.length (pc - 1))) (.slice o2 q.list.length c2) q.list) := qhZ (HE.out.below (HB0.out.trans (hBb3.mono hb0)))
   have HO3 := qhZ hO3
   have HB3 := qhZ hb3
   clear hO3 hX3 hb3 hBb3
   go_wp2_with fail
   refine (l3At_any q.list _ x _ HEN.out hql).mono ?_
   rintro e w4 ⟨rfl, hb4⟩
   rw [HAT.out]
   have HO4 := qhZ (HO3.out.trans (OnlyG.below b hb4))
   have HB4 := qhZ ((hb4.block b (aB9 HB3.out)).trans HB3.out)
   have HBb4 := qhZ (HBb3.out.trans (hb4.mono (Nat.le_trans (Nat.le_of_lt hbs) HBb3.out.size)))
   clear hb4
   obtain ⟨o5, c5, e5, -, hH5⟩ := id HN0.out
   simp only [Value.slice.injEq, true_and] at e5
   obtain ⟨rfl, rfl⟩ := e5
   obtain ⟨gy, offy, ly, e5, hgy, hcy, hey, -⟩ := hH5 m2 hm2
   simp only [Option.some.injEq, Addr.mk.injEq, and_true] at e5
   obtain ⟨rfl, rfl⟩ := e5
   have hye : f.nodes[m2] = aC9 f.nodes m2 := (aR9 hm2).symm
   rw [hye] at hcy hey
   obtain ⟨y, hy⟩ : ∃ y, y = aC9 f.nodes m2 := ⟨_, rfl⟩
   have HY := qhZ hy
   rw [← hy] at hcy hey hky
   obtain ⟨o3, c3, rfl, -, -⟩ := hey
   have hB04 := HB0.out.trans (HBb4.out.mono hb0)
   obtain ⟨v0, v1, v2, v3, v4, v5, v6⟩ := hcy.below hB04 hgy
   have i0 : w4.cell? ⟨b, 0, none⟩ = some (.slice (some ⟨gg, off, none⟩) f.nodes.length c) := aA9 HB4.out 0
   have i5 : w4.cell? ⟨b, 5, none⟩ = some (.slice (some ⟨pg, po + 1, none⟩) r.length (pc - 1)) := aA9 HB4.out 5
   have HBY : Hid (∀ oo, Below b w (w4.alloc oo)) := qhZ (fun oo => HBb4.out.alloc (Nat.le_trans (Nat.le_of_lt hbs) HBb4.out.size) oo)
   have HOY : Hid (∀ oo, OnlyG w (w4.alloc oo) b) := qhZ (fun oo => HO4.out.trans (OnlyG.below b ((Below.refl _ _).alloc (Nat.le_refl _) oo)))
   have HKY : Hid (∀ oo, (w4.alloc oo).heap[b]? = some (.cells (bD9 (some ⟨gg, off, none⟩) f.nodes.length c f.room u g node (.slice (some ⟨pg, po + 1, none⟩) r.length (pc - 1)) hops) 140 (0, 0))) := qhZ (fun oo => (Below.heap_alloc _ _ _ (aB9 HB4.out)).trans HB4.out)
   have hsz4 : b < w4.heap.size := aB9 HB4.out
   have hne3 : w4.heap.size ≠ b := by omega
   have i4 : ∀ oo, (w4.alloc oo).cell? ⟨b, 4, none⟩ = some (.int .i64 (node : Int)) := fun oo => aA9 (HKY.out oo) 4
   have i6 : ∀ oo, (w4.alloc oo).cell? ⟨b, 6, none⟩ = some (.int .i64 (hops : Int)) := fun oo => aA9 (HKY.out oo) 6
   have i5a : ∀ oo, (w4.alloc oo).cell? ⟨b, 5, none⟩ = some (.slice (some ⟨pg, po + 1, none⟩) r.length (pc - 1)) := fun oo => aA9 (HKY.out oo) 5
   have i4f : ∀ oo, (w4.alloc oo).frozen? ⟨b, 4, none⟩ = false := fun oo => aE9 (HKY.out oo) 4
   have i6f : ∀ oo, (w4.alloc oo).frozen? ⟨b, 6, none⟩ = false := fun oo => aE9 (HKY.out oo) 6
   clear hcy hye hy hH5 hB04
   rw [hky] at v0
   rw [HR0.out] at i5 i5a
   go_wp2
   go_ret
   have hO := (HO4.out.set 4 (.int .i64 (m2 : Int))).trans (OnlyG.below b ((Below.refl _ _).alloc (Nat.le_refl _) (.cells #[.int .i64 3, .int .i64 y.mode, .int .i64 y.uid, .int .i64 y.gid, .int .i64 y.time, .string (bs y.data), .slice o3 y.list.length c3] 55)))
   exact ⟨rfl, (.slice (some ⟨pg, po + 1, none⟩) r.length (pc - 1)), (Below.heap_alloc _ _ b (by simpa using hsz4)).trans (heap_setCell_same w4 b 4 _ _ (.int .i64 (m2 : Int)) HB4.out), rd_kept (HT2.out) hO hpb, fun a l k e => by cases e; exact hpb, (HBb4.out.setCell (p := ⟨b, 4, none⟩) (Nat.le_refl _) _).alloc (by simp; omega) _⟩
theorem step_loop (f : FsD) (o : Option Addr) (c : Nat) (u g : Int) (fol : Bool) (b node hops : Nat) (p : List UInt8) (r : List (List UInt8)) (pg po pc : Nat) (w0 w : World) (hF : LookFs f) (hN0 : NodsA w0 (.slice o f.nodes.length c) f.nodes) (hB0 : Below w0.heap.size w0 w) (hb0 : w0.heap.size ≤ b) (hb : w.heap[b]? = some (.cells (bD9 o f.nodes.length c f.room u g node (.slice (some ⟨pg, po, none⟩) (r.length + 1) pc) hops) 140 (0, 0))) (hn : node < f.nodes.length) (hP : Rd w (.slice (some ⟨pg, po, none⟩) (p :: r).length pc) (p :: r)) (hpb : pg ≠ b) (hrl : r.length ≤ 1000) (hk : (aC9 f.nodes node).kind = 2) (hmay : mayB u g (aC9 f.nodes node).mode (aC9 f.nodes node).uid (aC9 f.nodes node).gid 1 = true) (hp1 : p ≠ [46]) (hp2 : p ≠ [46, 46]) (m2 : Nat) (hat : atE (aC9 f.nodes node).list p = m2) (hm2 : m2 < f.nodes.length) (hky : (aC9 f.nodes m2).kind = 3) (hrf : r ≠ [] ∨ fol = true) (hh8 : hops = 8) : Calls Tryz.prog 114 #[.pointer (some ⟨b, 0, none⟩), .bool fol] w fun e w' => e = .returned (.int .i64 5) ∧ Below b w w' := by
 have hN := hN0.below hB0
 have HN0 := qhZ hN0
 have HB0 := qhZ hB0
 obtain ⟨o0, c00, e00, -, hH0⟩ := id hN0
 simp only [Value.slice.injEq, true_and] at e00
 obtain ⟨rfl, rfl⟩ := e00
 obtain ⟨gg0, off0, lv0, e00, hg0, hcc0, he0, -⟩ := hH0 node hn
 obtain ⟨o', c', e1, hmm, hH⟩ := id hN
 simp only [Value.slice.injEq, true_and] at e1
 obtain ⟨rfl, rfl⟩ := e1
 unfold maxLen at hmm
 have hl : f.nodes.length ≤ 1048576 := (aG9 hF.size).1
 obtain ⟨gg, off, lv, rfl, hg, hcc, he, -⟩ := hH node hn
 have hqe : f.nodes[node] = aC9 f.nodes node := (aR9 hn).symm
 have HHH := qhZ hH
 have HMO : Hid (inB 0 511 (aC9 f.nodes node).mode = true) := qhZ (hF.mode node hn (by rw [hk]; decide))
 have hql : (aC9 f.nodes node).list.length ≤ 1048576 := by rw [← hqe]; exact ((aG9 hF.size).2 _ (List.getElem_mem hn)).1
 rw [hqe] at hcc he hcc0 he0
 obtain ⟨q, hq⟩ : ∃ q, q = aC9 f.nodes node := ⟨_, rfl⟩
 have HQ := qhZ hq
 rw [← hq] at hcc hk he hql hcc0 he0
 obtain ⟨o2, c2, rfl, -, -⟩ := he
 obtain ⟨d0, d1, d2, d3, d4, d5, d6⟩ := hcc
 have hlv : lv0 = .slice o2 q.list.length c2 := by
   simp only [Option.some.injEq, Addr.mk.injEq, and_true] at e00
   obtain ⟨rfl, rfl⟩ := e00
   have h1 := (hB0.cell (p := ⟨gg, off + node * 7 + 6, none⟩) hg0).trans hcc0.c6
   rw [d6] at h1
   simpa using h1.symm
 subst hlv
 have HE := qhZ he0
 have hbs := aB9 hb
 have c0 : w.cell? ⟨b, 0, none⟩ = some (.slice (some ⟨gg, off, none⟩) f.nodes.length c) := aA9 hb 0
 have c4 : w.cell? ⟨b, 4, none⟩ = some (.int .i64 (node : Int)) := aA9 hb 4
 have hne1 : w.heap.size ≠ b := by omega
 have hne2 : w.heap.size ≠ gg := by omega
 have HB := qhZ hb
 have HN := qhZ hN
 have hat1 := hat
 rw [← hq] at hat1
 clear hat
 have HP := qhZ hP
 rw [hk] at d0
 clear hq hqe hH hb hN hP hN0 hB0 hH0 hcc0 he0 e00 hg0
 go_enter Tryz.func114, Tryz.ntmps114
 go_wp2
 go_region
 obtain ⟨W1, hW1⟩ : ∃ W1, (w.alloc (.cells #[.int .i64 2, .int .i64 q.mode, .int .i64 q.uid, .int .i64 q.gid, .int .i64 q.time, .string (bs q.data), .slice o2 q.list.length c2] 55)).drew = W1 := ⟨_, rfl⟩
 have hB1 : Below w.heap.size w W1 := by rw [← hW1]; exact ((Below.refl _ _).alloc (Nat.le_refl _) _).drew
 have hX1 : W1.heap[w.heap.size]? = some (.cells #[.int .i64 2, .int .i64 q.mode, .int .i64 q.uid, .int .i64 q.gid, .int .i64 q.time, .string (bs q.data), .slice o2 q.list.length c2] 55) := by rw [← hW1]; exact heap_alloc_new _ _
 rw [hW1]
 clear hW1 c0 c4 d0 d1 d2 d3 d4 d5 d6
 have hb1 := (hB1.block b hbs).trans HB.out
 have HFS1 : Hid (FsA W1 (.agg #[.slice (some ⟨gg, off, none⟩) f.nodes.length c, .int .i64 f.room]) f) := qhZ ⟨_, rfl, HN.out.below hB1⟩
 have s0 : W1.cell? ⟨b, 0, none⟩ = some (.slice (some ⟨gg, off, none⟩) f.nodes.length c) := aA9 hb1 0
 have s1 : W1.cell? ⟨b, 1, none⟩ = some (.int .i64 f.room) := aA9 hb1 1
 have s2 : W1.cell? ⟨b, 2, none⟩ = some (.int .i64 u) := aA9 hb1 2
 have s3 : W1.cell? ⟨b, 3, none⟩ = some (.int .i64 g) := aA9 hb1 3
 have s4 : W1.cell? ⟨b, 4, none⟩ = some (.int .i64 (node : Int)) := aA9 hb1 4
 have x0 : W1.cell? ⟨w.heap.size, 0, none⟩ = some (.int .i64 2) := aA9 hX1 0
 have z0 := fun d os => cell_regrown (w := W1) s0 d os
 have z1 := fun d os => cell_regrown (w := W1) s1 d os
 have z2 := fun d os => cell_regrown (w := W1) s2 d os
 have z3 := fun d os => cell_regrown (w := W1) s3 d os
 have z4 := fun d os => cell_regrown (w := W1) s4 d os
 go_wp2
 have HMAY : Hid (mayB u g (aC9 f.nodes node).mode (aC9 f.nodes node).uid (aC9 f.nodes node).gid 1 = true) := qhZ hmay
 refine wp_region_quiet_below (by kernel_rfl) (by kernel_rfl) ?_
 repeat (first | go_big_quiet_step ((go_at_call 105; exact Calls.regrown_of (l4May_is HMAY.out (HFS1.out.below (below_regrown _ _ _)) hn HMO.out hl))) | quiet_step ((go_at_call 105; exact Calls.regrown_of (l4May_is HMAY.out (HFS1.out.below (below_regrown _ _ _)) hn HMO.out hl))))
 refine wpQuiet_nil ?_
 intro w2 hwq
 have hb5 : Below W1.heap.size W1 w2 := by
   obtain ⟨pp, rfl⟩ := hwq
   exact below_regrown _ _ _
 have hB2 := hB1.trans (hb5.mono hB1.size)
 have hb2 := (hb5.block b (aB9 hb1)).trans hb1
 have hX2 := (hb5.block w.heap.size (aB9 hX1)).trans hX1
 have hBb2 : Below b w w2 := hB2.mono (Nat.le_of_lt hbs)
 clear hwq hb5 hX1 hb1 z0 z1 z2 z3 z4 s0 s1 s2 s3 s4 x0 hmay HFS1
 obtain ⟨hpg, hpl, hpm, hp0, hr1, hr2⟩ := rd_first HP.out
 unfold maxLen at hpm
 have p0 := (hB2.cell (p := ⟨pg, po, none⟩) hpg).trans hp0
 have t5 : w2.cell? ⟨b, 5, none⟩ = some (.slice (some ⟨pg, po, none⟩) (r.length + 1) pc) := aA9 hb2 5
 have f5 := aE9 hb2 5
 have HK2 := qhZ hb2
 have HX2 := qhZ hX2
 have HB2 := qhZ hB2
 have HT1 := qhZ hr1
 have HT2 := qhZ hr2
 clear hp0 hr1 hr2 hb2 hX2
 have hx1 := bytes_neP (x := bs p) (l := [46]) (by rw [aY9]; exact hp1)
 have hx2 := bytes_neP (x := bs p) (l := [46, 46]) (by rw [aY9]; exact hp2)
 have HPB : Hid ((bs p).data.toList = p) := qhZ (aY9 p)
 obtain ⟨x, hx⟩ : ∃ x, x = bs p := ⟨_, rfl⟩
 rw [← hx] at p0 hx1 hx2 HPB
 clear hx hp1 hp2
 have HAT : Hid (atE q.list x.data.toList = (m2 : Int)) := qhZ (by rw [HPB.out, hat1])
 by_cases hpc : pc = 1
 · subst hpc
   obtain rfl : r = [] := List.eq_nil_of_length_eq_zero (by omega)
   simp only [List.length_nil] at *
   have hO3 := (OnlyG.below b HB2.out).set 5 (.slice (some ⟨pg, po, none⟩) 0 0)
   have hX3 : (w2.setCell ⟨b, 5, none⟩ (.slice (some ⟨pg, po, none⟩) 0 0)).heap[w.heap.size]? = some (.cells #[.int .i64 2, .int .i64 q.mode, .int .i64 q.uid, .int .i64 q.gid, .int .i64 q.time, .string (bs q.data), .slice o2 q.list.length c2] 55) := (Below.heap_setCell w2 ⟨b, 5, none⟩ (.slice (some ⟨pg, po, none⟩) 0 0) w.heap.size hne1).trans HX2.out
   have hb3 : (w2.setCell ⟨b, 5, none⟩ (.slice (some ⟨pg, po, none⟩) 0 0)).heap[b]? = some (.cells (bD9 (some ⟨gg, off, none⟩) f.nodes.length c f.room u g node (.slice (some ⟨pg, po, none⟩) 0 0) hops) 140 (0, 0)) := heap_setCell_same w2 b 5 _ _ (.slice (some ⟨pg, po, none⟩) 0 0) HK2.out
   have x6 : (w2.setCell ⟨b, 5, none⟩ (.slice (some ⟨pg, po, none⟩) 0 0)).cell? ⟨w.heap.size, 6, none⟩ = some (.slice o2 q.list.length c2) := aA9 hX3 6
   have hBb3 : Below b w (w2.setCell ⟨b, 5, none⟩ (.slice (some ⟨pg, po, none⟩) 0 0)) := hBb2.setCell (p := ⟨b, 5, none⟩) (Nat.le_refl _) _
   have HBb3 := qhZ hBb3
   have HEN : Hid (EntsA (w2.setCell ⟨b, 5, none⟩ (.slice (some ⟨pg, po, none⟩) 0 0)) (.slice o2 q.list.length c2) q.list) := qhZ (HE.out.below (HB0.out.trans (hBb3.mono hb0)))
   have HO3 := qhZ hO3
   have HB3 := qhZ hb3
   clear hO3 hX3 hb3 hBb3
   go_wp2_with fail
   refine (l3At_any q.list _ x _ HEN.out hql).mono ?_
   rintro e w4 ⟨rfl, hb4⟩
   rw [HAT.out]
   have HO4 := qhZ (HO3.out.trans (OnlyG.below b hb4))
   have HB4 := qhZ ((hb4.block b (aB9 HB3.out)).trans HB3.out)
   have HBb4 := qhZ (HBb3.out.trans (hb4.mono (Nat.le_trans (Nat.le_of_lt hbs) HBb3.out.size)))
   clear hb4
   obtain ⟨o5, c5, e5, -, hH5⟩ := id HN0.out
   simp only [Value.slice.injEq, true_and] at e5
   obtain ⟨rfl, rfl⟩ := e5
   obtain ⟨gy, offy, ly, e5, hgy, hcy, hey, -⟩ := hH5 m2 hm2
   simp only [Option.some.injEq, Addr.mk.injEq, and_true] at e5
   obtain ⟨rfl, rfl⟩ := e5
   have hye : f.nodes[m2] = aC9 f.nodes m2 := (aR9 hm2).symm
   rw [hye] at hcy hey
   obtain ⟨y, hy⟩ : ∃ y, y = aC9 f.nodes m2 := ⟨_, rfl⟩
   have HY := qhZ hy
   rw [← hy] at hcy hey hky
   obtain ⟨o3, c3, rfl, -, -⟩ := hey
   have hB04 := HB0.out.trans (HBb4.out.mono hb0)
   obtain ⟨v0, v1, v2, v3, v4, v5, v6⟩ := hcy.below hB04 hgy
   have i0 : w4.cell? ⟨b, 0, none⟩ = some (.slice (some ⟨gg, off, none⟩) f.nodes.length c) := aA9 HB4.out 0
   have i5 : w4.cell? ⟨b, 5, none⟩ = some (.slice (some ⟨pg, po, none⟩) 0 0) := aA9 HB4.out 5
   have HBY : Hid (∀ oo, Below b w (w4.alloc oo)) := qhZ (fun oo => HBb4.out.alloc (Nat.le_trans (Nat.le_of_lt hbs) HBb4.out.size) oo)
   have HOY : Hid (∀ oo, OnlyG w (w4.alloc oo) b) := qhZ (fun oo => HO4.out.trans (OnlyG.below b ((Below.refl _ _).alloc (Nat.le_refl _) oo)))
   have HKY : Hid (∀ oo, (w4.alloc oo).heap[b]? = some (.cells (bD9 (some ⟨gg, off, none⟩) f.nodes.length c f.room u g node (.slice (some ⟨pg, po, none⟩) 0 0) hops) 140 (0, 0))) := qhZ (fun oo => (Below.heap_alloc _ _ _ (aB9 HB4.out)).trans HB4.out)
   have hsz4 : b < w4.heap.size := aB9 HB4.out
   have hne3 : w4.heap.size ≠ b := by omega
   have i4 : ∀ oo, (w4.alloc oo).cell? ⟨b, 4, none⟩ = some (.int .i64 (node : Int)) := fun oo => aA9 (HKY.out oo) 4
   have i6 : ∀ oo, (w4.alloc oo).cell? ⟨b, 6, none⟩ = some (.int .i64 (hops : Int)) := fun oo => aA9 (HKY.out oo) 6
   have i5a : ∀ oo, (w4.alloc oo).cell? ⟨b, 5, none⟩ = some (.slice (some ⟨pg, po, none⟩) 0 0) := fun oo => aA9 (HKY.out oo) 5
   have i4f : ∀ oo, (w4.alloc oo).frozen? ⟨b, 4, none⟩ = false := fun oo => aE9 (HKY.out oo) 4
   have i6f : ∀ oo, (w4.alloc oo).frozen? ⟨b, 6, none⟩ = false := fun oo => aE9 (HKY.out oo) 6
   clear hcy hye hy hH5 hB04
   rw [hky] at v0
   have i8 : ∀ oo, (w4.alloc oo).cell? ⟨b, 6, none⟩ = some (.int .i64 8) := fun oo => by rw [i6 oo, hh8]; rfl
   clear i6
   have hfo : fol = true := by rcases hrf with h | h; exact absurd rfl h; exact h
   subst hfo
   go_wp2
   go_ret
   exact ⟨rfl, HBY.out _⟩
 · have hpc2 : ¬ 1 = pc := fun e => hpc e.symm
   have hO3 := (OnlyG.below b HB2.out).set 5 (.slice (some ⟨pg, po + 1, none⟩) r.length (pc - 1))
   have hX3 : (w2.setCell ⟨b, 5, none⟩ (.slice (some ⟨pg, po + 1, none⟩) r.length (pc - 1))).heap[w.heap.size]? = some (.cells #[.int .i64 2, .int .i64 q.mode, .int .i64 q.uid, .int .i64 q.gid, .int .i64 q.time, .string (bs q.data), .slice o2 q.list.length c2] 55) := (Below.heap_setCell w2 ⟨b, 5, none⟩ (.slice (some ⟨pg, po + 1, none⟩) r.length (pc - 1)) w.heap.size hne1).trans HX2.out
   have hb3 : (w2.setCell ⟨b, 5, none⟩ (.slice (some ⟨pg, po + 1, none⟩) r.length (pc - 1))).heap[b]? = some (.cells (bD9 (some ⟨gg, off, none⟩) f.nodes.length c f.room u g node (.slice (some ⟨pg, po + 1, none⟩) r.length (pc - 1)) hops) 140 (0, 0)) := heap_setCell_same w2 b 5 _ _ (.slice (some ⟨pg, po + 1, none⟩) r.length (pc - 1)) HK2.out
   have x6 : (w2.setCell ⟨b, 5, none⟩ (.slice (some ⟨pg, po + 1, none⟩) r.length (pc - 1))).cell? ⟨w.heap.size, 6, none⟩ = some (.slice o2 q.list.length c2) := aA9 hX3 6
   have hBb3 : Below b w (w2.setCell ⟨b, 5, none⟩ (.slice (some ⟨pg, po + 1, none⟩) r.length (pc - 1))) := hBb2.setCell (p := ⟨b, 5, none⟩) (Nat.le_refl _) _
   have HBb3 := qhZ hBb3
   have HEN : Hid (EntsA (w2.setCell ⟨b, 5, none⟩ (.slice (some ⟨pg, po + 1, none⟩) r.length (pc - 1))) (.slice o2 q.list.length c2) q.list) := qhZ (HE.out.below (HB0.out.trans (hBb3.mono hb0)))
   have HO3 := qhZ hO3
   have HB3 := qhZ hb3
   clear hO3 hX3 hb3 hBb3
   go_wp2_with fail
   refine (l3At_any q.list _ x _ HEN.out hql).mono ?_
   rintro e w4 ⟨rfl, hb4⟩
   rw [HAT.out]
   have HO4 := qhZ (HO3.out.trans (OnlyG.below b hb4))
   have HB4 := qhZ ((hb4.block b (aB9 HB3.out)).trans HB3.out)
   have HBb4 := qhZ (HBb3.out.trans (hb4.mono (Nat.le_trans (Nat.le_of_lt hbs) HBb3.out.size)))
   clear hb4
   obtain ⟨o5, c5, e5, -, hH5⟩ := id HN0.out
   simp only [Value.slice.injEq, true_and] at e5
   obtain ⟨rfl, rfl⟩ := e5
   obtain ⟨gy, offy, ly, e5, hgy, hcy, hey, -⟩ := hH5 m2 hm2
   simp only [Option.some.injEq, Addr.mk.injEq, and_true] at e5
   obtain ⟨rfl, rfl⟩ := e5
   have hye : f.nodes[m2] = aC9 f.nodes m2 := (aR9 hm2).symm
   rw [hye] at hcy hey
   obtain ⟨y, hy⟩ : ∃ y, y = aC9 f.nodes m2 := ⟨_, rfl⟩
   have HY := qhZ hy
   rw [← hy] at hcy hey hky
   obtain ⟨o3, c3, rfl, -, -⟩ := hey
   have hB04 := HB0.out.trans (HBb4.out.mono hb0)
   obtain ⟨v0, v1, v2, v3, v4, v5, v6⟩ := hcy.below hB04 hgy
   have i0 : w4.cell? ⟨b, 0, none⟩ = some (.slice (some ⟨gg, off, none⟩) f.nodes.length c) := aA9 HB4.out 0
   have i5 : w4.cell? ⟨b, 5, none⟩ = some (.slice (some ⟨pg, po + 1, none⟩) r.length (pc - 1)) := aA9 HB4.out 5
   have HBY : Hid (∀ oo, Below b w (w4.alloc oo)) := qhZ (fun oo => HBb4.out.alloc (Nat.le_trans (Nat.le_of_lt hbs) HBb4.out.size) oo)
   have HOY : Hid (∀ oo, OnlyG w (w4.alloc oo) b) := qhZ (fun oo => HO4.out.trans (OnlyG.below b ((Below.refl _ _).alloc (Nat.le_refl _) oo)))
   have HKY : Hid (∀ oo, (w4.alloc oo).heap[b]? = some (.cells (bD9 (some ⟨gg, off, none⟩) f.nodes.length c f.room u g node (.slice (some ⟨pg, po + 1, none⟩) r.length (pc - 1)) hops) 140 (0, 0))) := qhZ (fun oo => (Below.heap_alloc _ _ _ (aB9 HB4.out)).trans HB4.out)
   have hsz4 : b < w4.heap.size := aB9 HB4.out
   have hne3 : w4.heap.size ≠ b := by omega
   have i4 : ∀ oo, (w4.alloc oo).cell? ⟨b, 4, none⟩ = some (.int .i64 (node : Int)) := fun oo => aA9 (HKY.out oo) 4
   have i6 : ∀ oo, (w4.alloc oo).cell? ⟨b, 6, none⟩ = some (.int .i64 (hops : Int)) := fun oo => aA9 (HKY.out oo) 6
   have i5a : ∀ oo, (w4.alloc oo).cell? ⟨b, 5, none⟩ = some (.slice (some ⟨pg, po + 1, none⟩) r.length (pc - 1)) := fun oo => aA9 (HKY.out oo) 5
   have i4f : ∀ oo, (w4.alloc oo).frozen? ⟨b, 4, none⟩ = false := fun oo => aE9 (HKY.out oo) 4
   have i6f : ∀ oo, (w4.alloc oo).frozen? ⟨b, 6, none⟩ = false := fun oo => aE9 (HKY.out oo) 6
   clear hcy hye hy hH5 hB04
   rw [hky] at v0
   have i8 : ∀ oo, (w4.alloc oo).cell? ⟨b, 6, none⟩ = some (.int .i64 8) := fun oo => by rw [i6 oo, hh8]; rfl
   clear i6
   by_cases hr0 : r.length = 0
   · have hfo : fol = true := by
         rcases hrf with h | h
         · exact absurd (List.eq_nil_of_length_eq_zero hr0) h
         · exact h
     subst hfo
     rw [hr0] at i5 i5a
     go_wp2
     go_ret
     exact ⟨rfl, HBY.out _⟩
   have hr0b : ((r.length : Int) == 0) = false := by rw [beq_eq_false_iff_ne]; omega
   go_wp2
   go_ret
   exact ⟨rfl, HBY.out _⟩
end Go.Proofs.YtknhacblialboaaGreatDoor
