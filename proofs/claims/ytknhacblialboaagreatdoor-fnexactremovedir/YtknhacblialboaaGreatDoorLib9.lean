/-
  Joined: LookD LookE.
  Conditions: as each states.
-/
import Derived.Test.YtknhacblialboaaGreatDoorLib1
import Derived.Test.YtknhacblialboaaGreatDoorLib4
import Derived.Test.YtknhacblialboaaGreatDoorLib8
namespace Go.Proofs.YtknhacblialboaaGreatDoor
open Go.ChangeShapes Go.WideShapes Go.ChangeAt Go.RowKit Go.Joins
set_option linter.unusedVariables false
set_option linter.unusedSimpArgs false
set_option maxHeartbeats 16000000
theorem step_up (f : FsD) (o : Option Addr) (c : Nat) (u g : Int) (fol : Bool) (b node hops : Nat) (p : List UInt8) (r : List (List UInt8)) (pg po pc : Nat) (w0 w : World) (hF : LookFs f) (hN0 : NodsA w0 (.slice o f.nodes.length c) f.nodes) (hB0 : Below w0.heap.size w0 w) (hb0 : w0.heap.size ≤ b) (hb : w.heap[b]? = some (.cells (bD9 o f.nodes.length c f.room u g node (.slice (some ⟨pg, po, none⟩) (r.length + 1) pc) hops) 140 (0, 0))) (hn : node < f.nodes.length) (hP : Rd w (.slice (some ⟨pg, po, none⟩) (p :: r).length pc) (p :: r)) (hpb : pg ≠ b) (hrl : r.length ≤ 1000) (hk : (aC9 f.nodes node).kind = 2) (hmay : mayB u g (aC9 f.nodes node).mode (aC9 f.nodes node).uid (aC9 f.nodes node).gid 1 = true) (hp : p = [46, 46]) : Calls Tryz.prog 114 #[.pointer (some ⟨b, 0, none⟩), .bool fol] w fun e w' => e = .returned (.int .i64 0) ∧ ∃ pv, w'.heap[b]? = some (.cells (bD9 o f.nodes.length c f.room u g (parentOf (node : Int) f.nodes) pv hops) 140 (0, 0)) ∧ Rd w' pv r ∧ (∀ a l k, pv = .slice (some a) l k → a.block ≠ b) ∧ Below b w w' := by
 have hN := hN0.below hB0
 have HN0 := qhZ hN0
 have HB0 := qhZ hB0
 obtain ⟨o0, c00, e00, -, hH0⟩ := id hN0
 simp only [Value.slice.injEq, true_and] at e00
 obtain ⟨rfl, rfl⟩ := e00
 obtain ⟨gg0, off0, lv0, e00, hg0, hcc0, he0, -⟩ := hH0 node hn
 obtain ⟨o', c', e1, hmm, hH⟩ := id hN
 simp only [Value.slice.injEq, true_and] at e1
 obtain ⟨rfl, rfl⟩ := e1
 unfold maxLen at hmm
 have hl : f.nodes.length ≤ 1048576 := (aG9 hF.size).1
 obtain ⟨gg, off, lv, rfl, hg, hcc, he, -⟩ := hH node hn
 have hqe : f.nodes[node] = aC9 f.nodes node := (aR9 hn).symm
 have HHH := qhZ hH
 have HMO : Hid (inB 0 511 (aC9 f.nodes node).mode = true) := qhZ (hF.mode node hn (by rw [hk]; decide))
 have hql : (aC9 f.nodes node).list.length ≤ 1048576 := by rw [← hqe]; exact ((aG9 hF.size).2 _ (List.getElem_mem hn)).1
 rw [hqe] at hcc he hcc0 he0
 obtain ⟨q, hq⟩ : ∃ q, q = aC9 f.nodes node := ⟨_, rfl⟩
 have HQ := qhZ hq
 rw [← hq] at hcc hk he hql hcc0 he0
 obtain ⟨o2, c2, rfl, -, -⟩ := he
 obtain ⟨d0, d1, d2, d3, d4, d5, d6⟩ := hcc
 have hlv : lv0 = .slice o2 q.list.length c2 := by
   simp only [Option.some.injEq, Addr.mk.injEq, and_true] at e00
   obtain ⟨rfl, rfl⟩ := e00
   have h1 := (hB0.cell (p := ⟨gg, off + node * 7 + 6, none⟩) hg0).trans hcc0.c6
   rw [d6] at h1
   simpa using h1.symm
 subst hlv
 have HE := qhZ he0
 have hbs := aB9 hb
 have c0 : w.cell? ⟨b, 0, none⟩ = some (.slice (some ⟨gg, off, none⟩) f.nodes.length c) := aA9 hb 0
 have c4 : w.cell? ⟨b, 4, none⟩ = some (.int .i64 (node : Int)) := aA9 hb 4
 have hne1 : w.heap.size ≠ b := by omega
 have hne2 : w.heap.size ≠ gg := by omega
 have HB := qhZ hb
 have HN := qhZ hN
 have HP := qhZ hP
 rw [hk] at d0
 clear hq hqe hH hb hN hP hN0 hB0 hH0 hcc0 he0 e00 hg0
 go_enter Tryz.func114, Tryz.ntmps114
 go_wp2
 go_region
 obtain ⟨W1, hW1⟩ : ∃ W1, (w.alloc (.cells #[.int .i64 2, .int .i64 q.mode, .int .i64 q.uid, .int .i64 q.gid, .int .i64 q.time, .string (bs q.data), .slice o2 q.list.length c2] 55)).drew = W1 := ⟨_, rfl⟩
 have hB1 : Below w.heap.size w W1 := by rw [← hW1]; exact ((Below.refl _ _).alloc (Nat.le_refl _) _).drew
 have hX1 : W1.heap[w.heap.size]? = some (.cells #[.int .i64 2, .int .i64 q.mode, .int .i64 q.uid, .int .i64 q.gid, .int .i64 q.time, .string (bs q.data), .slice o2 q.list.length c2] 55) := by rw [← hW1]; exact heap_alloc_new _ _
 rw [hW1]
 clear hW1 c0 c4 d0 d1 d2 d3 d4 d5 d6
 have hb1 := (hB1.block b hbs).trans HB.out
 have HFS1 : Hid (FsA W1 (.agg #[.slice (some ⟨gg, off, none⟩) f.nodes.length c, .int .i64 f.room]) f) := qhZ ⟨_, rfl, HN.out.below hB1⟩
 have s0 : W1.cell? ⟨b, 0, none⟩ = some (.slice (some ⟨gg, off, none⟩) f.nodes.length c) := aA9 hb1 0
 have s1 : W1.cell? ⟨b, 1, none⟩ = some (.int .i64 f.room) := aA9 hb1 1
 have s2 : W1.cell? ⟨b, 2, none⟩ = some (.int .i64 u) := aA9 hb1 2
 have s3 : W1.cell? ⟨b, 3, none⟩ = some (.int .i64 g) := aA9 hb1 3
 have s4 : W1.cell? ⟨b, 4, none⟩ = some (.int .i64 (node : Int)) := aA9 hb1 4
 have x0 : W1.cell? ⟨w.heap.size, 0, none⟩ = some (.int .i64 2) := aA9 hX1 0
 have z0 := fun d os => cell_regrown (w := W1) s0 d os
 have z1 := fun d os => cell_regrown (w := W1) s1 d os
 have z2 := fun d os => cell_regrown (w := W1) s2 d os
 have z3 := fun d os => cell_regrown (w := W1) s3 d os
 have z4 := fun d os => cell_regrown (w := W1) s4 d os
 go_wp2
 have HMAY : Hid (mayB u g (aC9 f.nodes node).mode (aC9 f.nodes node).uid (aC9 f.nodes node).gid 1 = true) := qhZ hmay
 refine wp_region_quiet_below (by kernel_rfl) (by kernel_rfl) ?_
 repeat (first | go_big_quiet_step ((go_at_call 105; exact Calls.regrown_of (l4May_is HMAY.out (HFS1.out.below (below_regrown _ _ _)) hn HMO.out hl))) | quiet_step ((go_at_call 105; exact Calls.regrown_of (l4May_is HMAY.out (HFS1.out.below (below_regrown _ _ _)) hn HMO.out hl))))
 refine wpQuiet_nil ?_
 intro w2 hwq
 have hb5 : Below W1.heap.size W1 w2 := by
   obtain ⟨pp, rfl⟩ := hwq
   exact below_regrown _ _ _
 have hB2 := hB1.trans (hb5.mono hB1.size)
 have hb2 := (hb5.block b (aB9 hb1)).trans hb1
 have hX2 := (hb5.block w.heap.size (aB9 hX1)).trans hX1
 have hBb2 : Below b w w2 := hB2.mono (Nat.le_of_lt hbs)
 clear hwq hb5 hX1 hb1 z0 z1 z2 z3 z4 s0 s1 s2 s3 s4 x0 hmay HFS1
 obtain ⟨hpg, hpl, hpm, hp0, hr1, hr2⟩ := rd_first HP.out
 unfold maxLen at hpm
 have p0 := (hB2.cell (p := ⟨pg, po, none⟩) hpg).trans hp0
 have t5 : w2.cell? ⟨b, 5, none⟩ = some (.slice (some ⟨pg, po, none⟩) (r.length + 1) pc) := aA9 hb2 5
 have f5 := aE9 hb2 5
 have HK2 := qhZ hb2
 have HX2 := qhZ hX2
 have HB2 := qhZ hB2
 have HT1 := qhZ hr1
 have HT2 := qhZ hr2
 clear hp0 hr1 hr2 hb2 hX2
 have hx : bs p = ⟨#[46, 46]⟩ := by rw [hp]; rfl
 rw [hx] at p0
 clear hx hp
 by_cases hpc : pc = 1
 · subst hpc
   obtain rfl : r = [] := List.eq_nil_of_length_eq_zero (by omega)
   simp only [List.length_nil] at *
   have hb3 : (w2.setCell ⟨b, 5, none⟩ (.slice (some ⟨pg, po, none⟩) 0 0)).heap[b]? = some (.cells (bD9 (some ⟨gg, off, none⟩) f.nodes.length c f.room u g node (.slice (some ⟨pg, po, none⟩) 0 0) hops) 140 (0, 0)) := heap_setCell_same w2 b 5 _ _ (.slice (some ⟨pg, po, none⟩) 0 0) HK2.out
   have hO3 := (OnlyG.below b HB2.out).set 5 (.slice (some ⟨pg, po, none⟩) 0 0)
   have hBb3 : Below b w (w2.setCell ⟨b, 5, none⟩ (.slice (some ⟨pg, po, none⟩) 0 0)) := hBb2.setCell (p := ⟨b, 5, none⟩) (Nat.le_refl _) _
   obtain ⟨W3, hW3⟩ : ∃ W3, w2.setCell ⟨b, 5, none⟩ (.slice (some ⟨pg, po, none⟩) 0 0) = W3 := ⟨_, rfl⟩
   rw [hW3] at hb3 hO3 hBb3
   have HO3 := qhZ hO3
   have HB3 := qhZ hb3
   have HBb3 := qhZ hBb3
   have HW3 := qhZ hW3
   clear hb3 hO3 hBb3 hW3
   go_wp2
   rw [HW3.out]
   have j0 : W3.drew.cell? ⟨b, 0, none⟩ = some (.slice (some ⟨gg, off, none⟩) f.nodes.length c) := aA9 HB3.out 0
   have j1 : W3.drew.cell? ⟨b, 1, none⟩ = some (.int .i64 f.room) := aA9 HB3.out 1
   have j4 : W3.drew.cell? ⟨b, 4, none⟩ = some (.int .i64 (node : Int)) := aA9 HB3.out 4
   have HFS3 : Hid (FsA W3.drew (.agg #[.slice (some ⟨gg, off, none⟩) f.nodes.length c, .int .i64 f.room]) f) := qhZ ⟨_, rfl, HN0.out.below (HB0.out.trans (HBb3.out.drew.mono hb0))⟩
   go_region_with (go_at_call 127; refine (l3Parent_any f (node : Int) _ _ HFS3.out hF.size).mono ?_; rintro e w4 ⟨rfl, hb4⟩; have HB4 := qhZ ((hb4.block b (aB9 (show W3.drew.heap[b]? = _ from HB3.out))).trans (show W3.drew.heap[b]? = _ from HB3.out)); have HO4 := qhZ (HO3.out.trans ((OnlyG.below b (Below.refl _ W3).drew).trans (OnlyG.below b hb4))); have HBb4 := qhZ (HBb3.out.drew.trans (hb4.mono (Nat.le_trans (Nat.le_of_lt hbs) HBb3.out.size))); have k4 : w4.cell? ⟨b, 4, none⟩ = some (.int .i64 (node : Int)) := aA9 HB4.out 4; have k4f := aE9 HB4.out 4; clear hb4)
   all_goals
     go_wp2
     go_ret
     have hO := HO4.out.set 4 (.int .i64 ((parentOf (node : Int) f.nodes : Nat) : Int))
     exact ⟨rfl, (.slice (some ⟨pg, po, none⟩) 0 0), heap_setCell_same w4 b 4 _ _ (.int .i64 ((parentOf (node : Int) f.nodes : Nat) : Int)) HB4.out, rd_kept (HT1.out trivial) hO hpb, fun a l k e => by cases e; exact hpb, HBb4.out.setCell (p := ⟨b, 4, none⟩) (Nat.le_refl _) _⟩
 · have hpc2 : ¬ 1 = pc := fun e => hpc e.symm
   have hb3 : (w2.setCell ⟨b, 5, none⟩ (.slice (some ⟨pg, po + 1, none⟩) r.length (pc - 1))).heap[b]? = some (.cells (bD9 (some ⟨gg, off, none⟩) f.nodes.length c f.room u g node (.slice (some ⟨pg, po + 1, none⟩) r.length (pc - 1)) hops) 140 (0, 0)) := heap_setCell_same w2 b 5 _ _ (.slice (some ⟨pg, po + 1, none⟩) r.length (pc - 1)) HK2.out
   have hO3 := (OnlyG.below b HB2.out).set 5 (.slice (some ⟨pg, po + 1, none⟩) r.length (pc - 1))
   have hBb3 : Below b w (w2.setCell ⟨b, 5, none⟩ (.slice (some ⟨pg, po + 1, none⟩) r.length (pc - 1))) := hBb2.setCell (p := ⟨b, 5, none⟩) (Nat.le_refl _) _
   obtain ⟨W3, hW3⟩ : ∃ W3, w2.setCell ⟨b, 5, none⟩ (.slice (some ⟨pg, po + 1, none⟩) r.length (pc - 1)) = W3 := ⟨_, rfl⟩
   rw [hW3] at hb3 hO3 hBb3
   have HO3 := qhZ hO3
   have HB3 := qhZ hb3
   have HBb3 := qhZ hBb3
   have HW3 := qhZ hW3
   clear hb3 hO3 hBb3 hW3
   go_wp2
   rw [HW3.out]
   have j0 : W3.drew.cell? ⟨b, 0, none⟩ = some (.slice (some ⟨gg, off, none⟩) f.nodes.length c) := aA9 HB3.out 0
   have j1 : W3.drew.cell? ⟨b, 1, none⟩ = some (.int .i64 f.room) := aA9 HB3.out 1
   have j4 : W3.drew.cell? ⟨b, 4, none⟩ = some (.int .i64 (node : Int)) := aA9 HB3.out 4
   have HFS3 : Hid (FsA W3.drew (.agg #[.slice (some ⟨gg, off, none⟩) f.nodes.length c, .int .i64 f.room]) f) := qhZ ⟨_, rfl, HN0.out.below (HB0.out.trans (HBb3.out.drew.mono hb0))⟩
   go_region_with (go_at_call 127; refine (l3Parent_any f (node : Int) _ _ HFS3.out hF.size).mono ?_; rintro e w4 ⟨rfl, hb4⟩; have HB4 := qhZ ((hb4.block b (aB9 (show W3.drew.heap[b]? = _ from HB3.out))).trans (show W3.drew.heap[b]? = _ from HB3.out)); have HO4 := qhZ (HO3.out.trans ((OnlyG.below b (Below.refl _ W3).drew).trans (OnlyG.below b hb4))); have HBb4 := qhZ (HBb3.out.drew.trans (hb4.mono (Nat.le_trans (Nat.le_of_lt hbs) HBb3.out.size))); have k4 : w4.cell? ⟨b, 4, none⟩ = some (.int .i64 (node : Int)) := aA9 HB4.out 4; have k4f := aE9 HB4.out 4; clear hb4)
   all_goals
     go_wp2
     go_ret
     have hO := HO4.out.set 4 (.int .i64 ((parentOf (node : Int) f.nodes : Nat) : Int))
     exact ⟨rfl, (.slice (some ⟨pg, po + 1, none⟩) r.length (pc - 1)), heap_setCell_same w4 b 4 _ _ (.int .i64 ((parentOf (node : Int) f.nodes : Nat) : Int)) HB4.out, rd_kept (HT2.out) hO hpb, fun a l k e => by cases e; exact hpb, HBb4.out.setCell (p := ⟨b, 4, none⟩) (Nat.le_refl _) _⟩
theorem rd_keptV {w w' : World} {b : Nat} {v : Value} {ps : List (List UInt8)} (h : Rd w v ps) (hO : OnlyG w w' b) (hb : ∀ a l k, v = .slice (some a) l k → a.block ≠ b) : Rd w' v ps := by
 obtain ⟨o, c, rfl, h1, h2, hH⟩ := h
 refine ⟨o, c, rfl, h1, h2, fun i hi => ?_⟩
 obtain ⟨g, off, rfl, hg, hc⟩ := hH i hi
 have hne : g ≠ b := hb _ _ _ rfl
 refine ⟨g, off, rfl, Nat.lt_of_lt_of_le hg hO.1, ?_⟩
 rw [← hc]
 unfold World.cell?
 rw [hO.2 g hg hne]
theorem rd_news {w : World} {pg po n k : Nat} {r : List (List UInt8)} (h : Rd w (.slice (some ⟨pg, po, none⟩) n k) r) : ∀ j u, (strs r)[j]? = some u → w.cell? ((⟨pg, po, none⟩ : Addr).add j) = some u := by
 obtain ⟨o, c, e, h1, h2, hH⟩ := h
 intro j u hj
 simp only [strs, List.getElem?_map, Option.map_eq_some_iff] at hj
 obtain ⟨y, hy, rfl⟩ := hj
 obtain ⟨hjl, rfl⟩ := List.getElem?_eq_some_iff.1 hy
 obtain ⟨g, off, e2, hg, hc⟩ := hH j hjl
 subst e2
 simp only [Value.slice.injEq, Option.some.injEq, Addr.mk.injEq, and_true] at e
 obtain ⟨⟨rfl, rfl⟩, -, -⟩ := e
 have e3 : (⟨pg, po, none⟩ : Addr).add j = ⟨pg, po + j, none⟩ := by
   unfold Addr.add; split
   · rename_i h; subst h; rfl
   · rfl
 rw [e3]; exact hc
theorem lst_app {w : World} {B : Nat} {v : Value} {ps qs : List (List UInt8)} (h : w.ownsRow B 9 1 v (ps.length + qs.length) (strs ps ++ strs qs)) : Lst w B v (ps ++ qs) := by
 unfold Lst
 rw [List.length_append]
 simpa [strs] using h
theorem only_grown {a b c : World} {G : Nat} {row : Option Nat} (h : OnlyG a b G) (hg : b.grownBy c row) (hr : ∀ i, i < a.heap.size → some i ≠ row) : OnlyG a c G :=
 ⟨Nat.le_trans h.1 hg.size, fun i hi hn => (hg.block i (Nat.lt_of_lt_of_le hi h.1) (hr i hi)).trans (h.2 i hi hn)⟩
theorem strs_one (r : List (List UInt8)) : ∀ u ∈ strs r, u.oneCell' = true := by
 intro u hu
 simp only [strs, List.mem_map] at hu
 obtain ⟨p, _, rfl⟩ := hu
 rfl
set_option maxRecDepth 100000 in
theorem step_link (f : FsD) (o : Option Addr) (c : Nat) (u g : Int) (fol : Bool) (b node hops : Nat) (p : List UInt8) (r : List (List UInt8)) (pg po pc : Nat) (w0 w : World) (hF : LookFs f) (hN0 : NodsA w0 (.slice o f.nodes.length c) f.nodes) (hB0 : Below w0.heap.size w0 w) (hb0 : w0.heap.size ≤ b) (hb : w.heap[b]? = some (.cells (bD9 o f.nodes.length c f.room u g node (.slice (some ⟨pg, po, none⟩) (r.length + 1) pc) hops) 140 (0, 0))) (hn : node < f.nodes.length) (hP : Rd w (.slice (some ⟨pg, po, none⟩) (p :: r).length pc) (p :: r)) (hpb : pg ≠ b) (hrl : r.length ≤ 1000) (hk : (aC9 f.nodes node).kind = 2) (hmay : mayB u g (aC9 f.nodes node).mode (aC9 f.nodes node).uid (aC9 f.nodes node).gid 1 = true) (hp1 : p ≠ [46]) (hp2 : p ≠ [46, 46]) (m2 : Nat) (hat : atE (aC9 f.nodes node).list p = m2) (hm2 : m2 < f.nodes.length) (hky : (aC9 f.nodes m2).kind = 3) (hrf : r ≠ [] ∨ fol = true) (hh : hops < 8) (hlen : 0 < (aC9 f.nodes m2).data.length ∧ (aC9 f.nodes m2).data.length ≤ 60) (hwh : wholeB (aC9 f.nodes m2).data = false) : Calls Tryz.prog 114 #[.pointer (some ⟨b, 0, none⟩), .bool fol] w fun e w' => e = .returned (.int .i64 0) ∧ ∃ pv, w'.heap[b]? = some (.cells (bD9 o f.nodes.length c f.room u g node pv (hops + 1)) 140 (0, 0)) ∧ Rd w' pv (parts (aC9 f.nodes m2).data ++ r) ∧ (∀ a l k, pv = .slice (some a) l k → a.block ≠ b) ∧ Below b w w' := by
 have hN := hN0.below hB0
 have HN0 := qhZ hN0
 have HB0 := qhZ hB0
 obtain ⟨o0, c00, e00, -, hH0⟩ := id hN0
 simp only [Value.slice.injEq, true_and] at e00
 obtain ⟨rfl, rfl⟩ := e00
 obtain ⟨gg0, off0, lv0, e00, hg0, hcc0, he0, -⟩ := hH0 node hn
 obtain ⟨o', c', e1, hmm, hH⟩ := id hN
 simp only [Value.slice.injEq, true_and] at e1
 obtain ⟨rfl, rfl⟩ := e1
 unfold maxLen at hmm
 have hl : f.nodes.length ≤ 1048576 := (aG9 hF.size).1
 obtain ⟨gg, off, lv, rfl, hg, hcc, he, -⟩ := hH node hn
 have hqe : f.nodes[node] = aC9 f.nodes node := (aR9 hn).symm
 have HHH := qhZ hH
 have HMO : Hid (inB 0 511 (aC9 f.nodes node).mode = true) := qhZ (hF.mode node hn (by rw [hk]; decide))
 have hql : (aC9 f.nodes node).list.length ≤ 1048576 := by rw [← hqe]; exact ((aG9 hF.size).2 _ (List.getElem_mem hn)).1
 rw [hqe] at hcc he hcc0 he0
 obtain ⟨q, hq⟩ : ∃ q, q = aC9 f.nodes node := ⟨_, rfl⟩
 have HQ := qhZ hq
 rw [← hq] at hcc hk he hql hcc0 he0
 obtain ⟨o2, c2, rfl, -, -⟩ := he
 obtain ⟨d0, d1, d2, d3, d4, d5, d6⟩ := hcc
 have hlv : lv0 = .slice o2 q.list.length c2 := by
   simp only [Option.some.injEq, Addr.mk.injEq, and_true] at e00
   obtain ⟨rfl, rfl⟩ := e00
   have h1 := (hB0.cell (p := ⟨gg, off + node * 7 + 6, none⟩) hg0).trans hcc0.c6
   rw [d6] at h1
   simpa using h1.symm
 subst hlv
 have HE := qhZ he0
 have hbs := aB9 hb
 have c0 : w.cell? ⟨b, 0, none⟩ = some (.slice (some ⟨gg, off, none⟩) f.nodes.length c) := aA9 hb 0
 have c4 : w.cell? ⟨b, 4, none⟩ = some (.int .i64 (node : Int)) := aA9 hb 4
 have hne1 : w.heap.size ≠ b := by omega
 have hne2 : w.heap.size ≠ gg := by omega
 have HB := qhZ hb
 have HN := qhZ hN
 have hat1 := hat
 rw [← hq] at hat1
 clear hat
 have HP := qhZ hP
 rw [hk] at d0
 clear hq hqe hH hb hN hP hN0 hB0 hH0 hcc0 he0 e00 hg0
 go_enter Tryz.func114, Tryz.ntmps114
 go_wp2
 go_region
 obtain ⟨W1, hW1⟩ : ∃ W1, (w.alloc (.cells #[.int .i64 2, .int .i64 q.mode, .int .i64 q.uid, .int .i64 q.gid, .int .i64 q.time, .string (bs q.data), .slice o2 q.list.length c2] 55)).drew = W1 := ⟨_, rfl⟩
 have hB1 : Below w.heap.size w W1 := by rw [← hW1]; exact ((Below.refl _ _).alloc (Nat.le_refl _) _).drew
 have hX1 : W1.heap[w.heap.size]? = some (.cells #[.int .i64 2, .int .i64 q.mode, .int .i64 q.uid, .int .i64 q.gid, .int .i64 q.time, .string (bs q.data), .slice o2 q.list.length c2] 55) := by rw [← hW1]; exact heap_alloc_new _ _
 rw [hW1]
 clear hW1 c0 c4 d0 d1 d2 d3 d4 d5 d6
 have hb1 := (hB1.block b hbs).trans HB.out
 have HFS1 : Hid (FsA W1 (.agg #[.slice (some ⟨gg, off, none⟩) f.nodes.length c, .int .i64 f.room]) f) := qhZ ⟨_, rfl, HN.out.below hB1⟩
 have s0 : W1.cell? ⟨b, 0, none⟩ = some (.slice (some ⟨gg, off, none⟩) f.nodes.length c) := aA9 hb1 0
 have s1 : W1.cell? ⟨b, 1, none⟩ = some (.int .i64 f.room) := aA9 hb1 1
 have s2 : W1.cell? ⟨b, 2, none⟩ = some (.int .i64 u) := aA9 hb1 2
 have s3 : W1.cell? ⟨b, 3, none⟩ = some (.int .i64 g) := aA9 hb1 3
 have s4 : W1.cell? ⟨b, 4, none⟩ = some (.int .i64 (node : Int)) := aA9 hb1 4
 have x0 : W1.cell? ⟨w.heap.size, 0, none⟩ = some (.int .i64 2) := aA9 hX1 0
 have z0 := fun d os => cell_regrown (w := W1) s0 d os
 have z1 := fun d os => cell_regrown (w := W1) s1 d os
 have z2 := fun d os => cell_regrown (w := W1) s2 d os
 have z3 := fun d os => cell_regrown (w := W1) s3 d os
 have z4 := fun d os => cell_regrown (w := W1) s4 d os
 go_wp2
 have HMAY : Hid (mayB u g (aC9 f.nodes node).mode (aC9 f.nodes node).uid (aC9 f.nodes node).gid 1 = true) := qhZ hmay
 refine wp_region_quiet_below (by kernel_rfl) (by kernel_rfl) ?_
 repeat (first | go_big_quiet_step ((go_at_call 105; exact Calls.regrown_of (l4May_is HMAY.out (HFS1.out.below (below_regrown _ _ _)) hn HMO.out hl))) | quiet_step ((go_at_call 105; exact Calls.regrown_of (l4May_is HMAY.out (HFS1.out.below (below_regrown _ _ _)) hn HMO.out hl))))
 refine wpQuiet_nil ?_
 intro w2 hwq
 have hb5 : Below W1.heap.size W1 w2 := by
   obtain ⟨pp, rfl⟩ := hwq
   exact below_regrown _ _ _
 have hB2 := hB1.trans (hb5.mono hB1.size)
 have hb2 := (hb5.block b (aB9 hb1)).trans hb1
 have hX2 := (hb5.block w.heap.size (aB9 hX1)).trans hX1
 have hBb2 : Below b w w2 := hB2.mono (Nat.le_of_lt hbs)
 clear hwq hb5 hX1 hb1 z0 z1 z2 z3 z4 s0 s1 s2 s3 s4 x0 hmay HFS1
 obtain ⟨hpg, hpl, hpm, hp0, hr1, hr2⟩ := rd_first HP.out
 unfold maxLen at hpm
 have p0 := (hB2.cell (p := ⟨pg, po, none⟩) hpg).trans hp0
 have t5 : w2.cell? ⟨b, 5, none⟩ = some (.slice (some ⟨pg, po, none⟩) (r.length + 1) pc) := aA9 hb2 5
 have f5 := aE9 hb2 5
 have HK2 := qhZ hb2
 have HX2 := qhZ hX2
 have HB2 := qhZ hB2
 have HT1 := qhZ hr1
 have HT2 := qhZ hr2
 clear hp0 hr1 hr2 hb2 hX2
 have hx1 := bytes_neP (x := bs p) (l := [46]) (by rw [aY9]; exact hp1)
 have hx2 := bytes_neP (x := bs p) (l := [46, 46]) (by rw [aY9]; exact hp2)
 have HPB : Hid ((bs p).data.toList = p) := qhZ (aY9 p)
 obtain ⟨x, hx⟩ : ∃ x, x = bs p := ⟨_, rfl⟩
 rw [← hx] at p0 hx1 hx2 HPB
 clear hx hp1 hp2
 have HAT : Hid (atE q.list x.data.toList = (m2 : Int)) := qhZ (by rw [HPB.out, hat1])
 by_cases hpc : pc = 1
 · subst hpc
   obtain rfl : r = [] := List.eq_nil_of_length_eq_zero (by omega)
   simp only [List.length_nil] at *
   have hO3 := (OnlyG.below b HB2.out).set 5 (.slice (some ⟨pg, po, none⟩) 0 0)
   have hX3 : (w2.setCell ⟨b, 5, none⟩ (.slice (some ⟨pg, po, none⟩) 0 0)).heap[w.heap.size]? = some (.cells #[.int .i64 2, .int .i64 q.mode, .int .i64 q.uid, .int .i64 q.gid, .int .i64 q.time, .string (bs q.data), .slice o2 q.list.length c2] 55) := (Below.heap_setCell w2 ⟨b, 5, none⟩ (.slice (some ⟨pg, po, none⟩) 0 0) w.heap.size hne1).trans HX2.out
   have hb3 : (w2.setCell ⟨b, 5, none⟩ (.slice (some ⟨pg, po, none⟩) 0 0)).heap[b]? = some (.cells (bD9 (some ⟨gg, off, none⟩) f.nodes.length c f.room u g node (.slice (some ⟨pg, po, none⟩) 0 0) hops) 140 (0, 0)) := heap_setCell_same w2 b 5 _ _ (.slice (some ⟨pg, po, none⟩) 0 0) HK2.out
   have x6 : (w2.setCell ⟨b, 5, none⟩ (.slice (some ⟨pg, po, none⟩) 0 0)).cell? ⟨w.heap.size, 6, none⟩ = some (.slice o2 q.list.length c2) := aA9 hX3 6
   have hBb3 : Below b w (w2.setCell ⟨b, 5, none⟩ (.slice (some ⟨pg, po, none⟩) 0 0)) := hBb2.setCell (p := ⟨b, 5, none⟩) (Nat.le_refl _) _
   have HBb3 := qhZ hBb3
   have HEN : Hid (EntsA (w2.setCell ⟨b, 5, none⟩ (.slice (some ⟨pg, po, none⟩) 0 0)) (.slice o2 q.list.length c2) q.list) := qhZ (HE.out.below (HB0.out.trans (hBb3.mono hb0)))
   have HO3 := qhZ hO3
   have HB3 := qhZ hb3
   clear hO3 hX3 hb3 hBb3
   go_wp2_with fail
   refine (l3At_any q.list _ x _ HEN.out hql).mono ?_
   rintro e w4 ⟨rfl, hb4⟩
   rw [HAT.out]
   have HO4 := qhZ (HO3.out.trans (OnlyG.below b hb4))
   have HB4 := qhZ ((hb4.block b (aB9 HB3.out)).trans HB3.out)
   have HBb4 := qhZ (HBb3.out.trans (hb4.mono (Nat.le_trans (Nat.le_of_lt hbs) HBb3.out.size)))
   clear hb4
   obtain ⟨o5, c5, e5, -, hH5⟩ := id HN0.out
   simp only [Value.slice.injEq, true_and] at e5
   obtain ⟨rfl, rfl⟩ := e5
   obtain ⟨gy, offy, ly, e5, hgy, hcy, hey, -⟩ := hH5 m2 hm2
   simp only [Option.some.injEq, Addr.mk.injEq, and_true] at e5
   obtain ⟨rfl, rfl⟩ := e5
   have hye : f.nodes[m2] = aC9 f.nodes m2 := (aR9 hm2).symm
   rw [hye] at hcy hey
   obtain ⟨y, hy⟩ : ∃ y, y = aC9 f.nodes m2 := ⟨_, rfl⟩
   have HY := qhZ hy
   rw [← hy] at hcy hey hky
   obtain ⟨o3, c3, rfl, -, -⟩ := hey
   have hB04 := HB0.out.trans (HBb4.out.mono hb0)
   obtain ⟨v0, v1, v2, v3, v4, v5, v6⟩ := hcy.below hB04 hgy
   have i0 : w4.cell? ⟨b, 0, none⟩ = some (.slice (some ⟨gg, off, none⟩) f.nodes.length c) := aA9 HB4.out 0
   have i5 : w4.cell? ⟨b, 5, none⟩ = some (.slice (some ⟨pg, po, none⟩) 0 0) := aA9 HB4.out 5
   have HBY : Hid (∀ oo, Below b w (w4.alloc oo)) := qhZ (fun oo => HBb4.out.alloc (Nat.le_trans (Nat.le_of_lt hbs) HBb4.out.size) oo)
   have HOY : Hid (∀ oo, OnlyG w (w4.alloc oo) b) := qhZ (fun oo => HO4.out.trans (OnlyG.below b ((Below.refl _ _).alloc (Nat.le_refl _) oo)))
   have HKY : Hid (∀ oo, (w4.alloc oo).heap[b]? = some (.cells (bD9 (some ⟨gg, off, none⟩) f.nodes.length c f.room u g node (.slice (some ⟨pg, po, none⟩) 0 0) hops) 140 (0, 0))) := qhZ (fun oo => (Below.heap_alloc _ _ _ (aB9 HB4.out)).trans HB4.out)
   have hsz4 : b < w4.heap.size := aB9 HB4.out
   have hne3 : w4.heap.size ≠ b := by omega
   have i4 : ∀ oo, (w4.alloc oo).cell? ⟨b, 4, none⟩ = some (.int .i64 (node : Int)) := fun oo => aA9 (HKY.out oo) 4
   have i6 : ∀ oo, (w4.alloc oo).cell? ⟨b, 6, none⟩ = some (.int .i64 (hops : Int)) := fun oo => aA9 (HKY.out oo) 6
   have i5a : ∀ oo, (w4.alloc oo).cell? ⟨b, 5, none⟩ = some (.slice (some ⟨pg, po, none⟩) 0 0) := fun oo => aA9 (HKY.out oo) 5
   have i4f : ∀ oo, (w4.alloc oo).frozen? ⟨b, 4, none⟩ = false := fun oo => aE9 (HKY.out oo) 4
   have i6f : ∀ oo, (w4.alloc oo).frozen? ⟨b, 6, none⟩ = false := fun oo => aE9 (HKY.out oo) 6
   clear hcy hye hy hH5 hB04
   rw [hky] at v0
   have hh8 : ((hops : Int) == 8) = false := by rw [beq_eq_false_iff_ne]; omega
   have hhw : (hops : Int) + 1 ≤ 100 := by omega
   have hfo : fol = true := by rcases hrf with h | h; exact absurd rfl h; exact h
   subst hfo
   have HSZ : Hid ((bs y.data).size = y.data.length) := qhZ (bs_size _)
   have HSL : Hid ((bs y.data).data.toList = y.data) := qhZ (aY9 _)
   have HHD : Hid (∀ h : 0 < (bs y.data).size, wholeB (bs y.data).data.toList = decide (((bs y.data)[0]'h) = 47)) := qhZ (fun h => whole_at h)
   have hgl : 0 < y.data.length ∧ y.data.length ≤ 60 := by rw [HY.out]; exact hlen
   obtain ⟨s, hs⟩ : ∃ s, s = bs y.data := ⟨_, rfl⟩
   rw [← hs] at v5 HSZ HSL HHD
   clear hs
   have hs0 : 0 < s.size := by rw [HSZ.out]; exact hgl.1
   have hs1 : s.size ≤ 60 := by rw [HSZ.out]; exact hgl.2
   have HWB : Hid (wholeB y.data = false) := qhZ (by rw [HY.out]; exact hwh)
   have hc0 : (((s[0]'hs0).toNat : Int) == 47) = false := by
     have h9 := HHD.out hs0
     rw [HSL.out, HWB.out] at h9
     have h8 : (s[0]'hs0) ≠ 47 := by simpa using h9.symm
     simpa using not47 h8
   clear hgl
   go_wp2
   obtain ⟨W5, hW5⟩ : ∃ W5, (w4.setCell ⟨b, 6, none⟩ (.int .i64 ((hops : Int) + 1))).alloc (.cells #[.int .i64 3, .int .i64 y.mode, .int .i64 y.uid, .int .i64 y.gid, .int .i64 y.time, .string s, .slice o3 y.list.length c3] 55) = W5 := ⟨_, rfl⟩
   have hsz5 : w4.heap.size < W5.heap.size := by rw [← hW5]; simp
   have hb5 : W5.heap[b]? = some (.cells (bD9 (some ⟨gg, off, none⟩) f.nodes.length c f.room u g node (.slice (some ⟨pg, po, none⟩) 0 0) (hops + 1)) 140 (0, 0)) := by rw [← hW5]; exact (Below.heap_alloc _ _ b (by simpa using hsz4)).trans (heap_setCell_same w4 b 6 _ _ (.int .i64 ((hops : Int) + 1)) HB4.out)
   have hY5 : W5.heap[w4.heap.size]? = some (.cells #[.int .i64 3, .int .i64 y.mode, .int .i64 y.uid, .int .i64 y.gid, .int .i64 y.time, .string s, .slice o3 y.list.length c3] 55) := by rw [← hW5]; have h7 := heap_alloc_new (w4.setCell ⟨b, 6, none⟩ (.int .i64 ((hops : Int) + 1))) (.cells #[.int .i64 3, .int .i64 y.mode, .int .i64 y.uid, .int .i64 y.gid, .int .i64 y.time, .string s, .slice o3 y.list.length c3] 55); simpa using h7
   have hO5 : OnlyG w W5 b := by rw [← hW5]; exact (HO4.out.set 6 _).trans (OnlyG.below b ((Below.refl _ _).alloc (Nat.le_refl _) _))
   have hBb5 : Below b w W5 := by rw [← hW5]; exact (HBb4.out.setCell (p := ⟨b, 6, none⟩) (Nat.le_refl _) _).alloc (by simp; omega) _
   rw [hW5]
   clear hW5 i0 i4 i5 i5a i6 i4f i6f v0 v1 v2 v3 v4 v5 v6
   have HR5 := qhZ (rd_kept (HT1.out trivial) hO5 hpb)
   have HK5 : Hid (W5.drew.heap[b]? = _) := qhZ hb5
   have HY5 : Hid (W5.drew.heap[w4.heap.size]? = _) := qhZ hY5
   have HO5 := qhZ (hO5.trans (OnlyG.below b (Below.refl _ W5).drew))
   have HBb5 := qhZ hBb5.drew
   have HR5d := qhZ (HR5.out.below (Below.refl _ W5).drew)
   have e5 : W5.drew.cell? ⟨b, 5, none⟩ = some (.slice (some ⟨pg, po, none⟩) 0 0) := aA9 HK5.out 5
   have y5 : W5.drew.cell? ⟨w4.heap.size, 5, none⟩ = some (.string s) := aA9 HY5.out 5
   obtain ⟨i9, hi9, hz0, hz1, hz2⟩ := info_parts strInfo
   have hpl9 : (parts s.data.toList).length ≤ 61 := by have h7 := parts_le s.data.toList; rw [aW9] at h7; omega
   have hO5s := hO5.1
   clear hb5 hY5 hO5 hBb5
   go_region_law (first
     | (refine aN9 _ rfl (.tmp 118) (.tmp 122) 97 rfl W5.heap.size 9 i9 (.string ⟨#[]⟩) 1 16 Tryz.underlying97 hi9 hz0 hz1 hz2 rfl (by decide) vP (parts s.data.toList).length (strs (parts s.data.toList)) (by simp [Act.eval, Act.put]) HLP.out ⟨pg, po, none⟩ 0 0 (strs []) (by simp [Act.eval, Act.put]) (by simp [strs]) (rd_news HRP.out) (strs_one []) (by unfold maxLen; omega) (by omega) hszP ?_; intro oo cap wA hown hgrow hoo; have hrow : ∀ i, i < W5.heap.size → some i ≠ vP.ownBlock := fun i hi e => (by have h7 := (World.ownsRow.lt HLP.out i e.symm).1; exact absurd hi (Nat.not_lt.2 h7)); have HKA := qhZ ((hgrow.block b (aB9 HKP.out) (hrow b (by omega))).trans HKP.out); have HYA := qhZ ((hgrow.block w4.heap.size (aB9 HYP.out) (hrow _ hsz5)).trans HYP.out); have HOA := qhZ (only_grown HOP.out hgrow (fun i hi => hrow i (by have h7 := hO5s; omega))); have HBbA := qhZ (HBbP.out.grown hgrow (Nat.le_of_lt (aB9 HKP.out)) (fun j ej => by have h7 := (World.ownsRow.lt HLP.out j ej).1; have h8 : W5.heap.size ≤ j := h7; omega)); have eA : wA.cell? ⟨b, 5, none⟩ = some (.slice (some ⟨pg, po, none⟩) 0 0) := aA9 HKA.out 5; have fA := aE9 HKA.out 5; have e4A : wA.cell? ⟨b, 4, none⟩ = some (.int .i64 (node : Int)) := aA9 HKA.out 4; have f4A := aE9 HKA.out 4; have yA : wA.cell? ⟨w4.heap.size, 5, none⟩ = some (.string s) := aA9 HYA.out 5; have HLA := qhZ hown; have HOO := qhZ hoo; clear hown hgrow hoo hrow)
     | (go_simp; go_at_call 76; refine (l2Parts_any s _ (by omega)).mono ?_; rintro e wP ⟨vP, rfl, hLP, hbP⟩; have HLP := qhZ hLP; have HRP := qhZ (HR5d.out.below hbP); have hszP := hbP.size; have HKP := qhZ ((hbP.block b (aB9 HK5.out)).trans HK5.out); have HYP := qhZ ((hbP.block w4.heap.size (aB9 HY5.out)).trans HY5.out); have HOP := qhZ (HO5.out.trans (OnlyG.below b hbP)); have HBbP := qhZ (HBb5.out.trans (hbP.mono (Nat.le_trans (Nat.le_of_lt hbs) HBb5.out.size))); have eP : wP.cell? ⟨b, 5, none⟩ = some (.slice (some ⟨pg, po, none⟩) 0 0) := aA9 HKP.out 5; have fP := aE9 HKP.out 5; clear hLP hbP))
   all_goals
     have HDN : Hid (parts s.data.toList = parts (aC9 f.nodes m2).data) := qhZ (by rw [HSL.out, HY.out])
     go_wp2
     go_ret
     have hoff : ∀ a l k, Value.slice oo ((parts s.data.toList).length + 0) cap = .slice (some a) l k → a.block ≠ b := fun a l k e => by
       simp only [Value.slice.injEq] at e
       obtain ⟨g, rfl, hg9, -⟩ := HOO.out a e.1
       simp only
       omega
     refine ⟨rfl, .slice oo ((parts s.data.toList).length + 0) cap, heap_setCell_same wA b 5 _ _ _ HKA.out, ?_, hoff, HBbA.out.setCell (p := ⟨b, 5, none⟩) (Nat.le_refl _) _⟩
     have h7 : Rd wA (.slice oo ((parts s.data.toList).length + 0) cap) (parts s.data.toList ++ []) := (lst_app HLA.out).read
     rw [HDN.out] at h7
     rw [HDN.out] at hoff
     rw [HDN.out]
     exact rd_keptV h7 ((OnlyG.below b (Below.refl _ wA)).set 5 _) hoff
 · have hpc2 : ¬ 1 = pc := fun e => hpc e.symm
   have hO3 := (OnlyG.below b HB2.out).set 5 (.slice (some ⟨pg, po + 1, none⟩) r.length (pc - 1))
   have hX3 : (w2.setCell ⟨b, 5, none⟩ (.slice (some ⟨pg, po + 1, none⟩) r.length (pc - 1))).heap[w.heap.size]? = some (.cells #[.int .i64 2, .int .i64 q.mode, .int .i64 q.uid, .int .i64 q.gid, .int .i64 q.time, .string (bs q.data), .slice o2 q.list.length c2] 55) := (Below.heap_setCell w2 ⟨b, 5, none⟩ (.slice (some ⟨pg, po + 1, none⟩) r.length (pc - 1)) w.heap.size hne1).trans HX2.out
   have hb3 : (w2.setCell ⟨b, 5, none⟩ (.slice (some ⟨pg, po + 1, none⟩) r.length (pc - 1))).heap[b]? = some (.cells (bD9 (some ⟨gg, off, none⟩) f.nodes.length c f.room u g node (.slice (some ⟨pg, po + 1, none⟩) r.length (pc - 1)) hops) 140 (0, 0)) := heap_setCell_same w2 b 5 _ _ (.slice (some ⟨pg, po + 1, none⟩) r.length (pc - 1)) HK2.out
   have x6 : (w2.setCell ⟨b, 5, none⟩ (.slice (some ⟨pg, po + 1, none⟩) r.length (pc - 1))).cell? ⟨w.heap.size, 6, none⟩ = some (.slice o2 q.list.length c2) := aA9 hX3 6
   have hBb3 : Below b w (w2.setCell ⟨b, 5, none⟩ (.slice (some ⟨pg, po + 1, none⟩) r.length (pc - 1))) := hBb2.setCell (p := ⟨b, 5, none⟩) (Nat.le_refl _) _
   have HBb3 := qhZ hBb3
   have HEN : Hid (EntsA (w2.setCell ⟨b, 5, none⟩ (.slice (some ⟨pg, po + 1, none⟩) r.length (pc - 1))) (.slice o2 q.list.length c2) q.list) := qhZ (HE.out.below (HB0.out.trans (hBb3.mono hb0)))
   have HO3 := qhZ hO3
   have HB3 := qhZ hb3
   clear hO3 hX3 hb3 hBb3
   go_wp2_with fail
   refine (l3At_any q.list _ x _ HEN.out hql).mono ?_
   rintro e w4 ⟨rfl, hb4⟩
   rw [HAT.out]
   have HO4 := qhZ (HO3.out.trans (OnlyG.below b hb4))
   have HB4 := qhZ ((hb4.block b (aB9 HB3.out)).trans HB3.out)
   have HBb4 := qhZ (HBb3.out.trans (hb4.mono (Nat.le_trans (Nat.le_of_lt hbs) HBb3.out.size)))
   clear hb4
   obtain ⟨o5, c5, e5, -, hH5⟩ := id HN0.out
   simp only [Value.slice.injEq, true_and] at e5
   obtain ⟨rfl, rfl⟩ := e5
   obtain ⟨gy, offy, ly, e5, hgy, hcy, hey, -⟩ := hH5 m2 hm2
   simp only [Option.some.injEq, Addr.mk.injEq, and_true] at e5
   obtain ⟨rfl, rfl⟩ := e5
   have hye : f.nodes[m2] = aC9 f.nodes m2 := (aR9 hm2).symm
   rw [hye] at hcy hey
   obtain ⟨y, hy⟩ : ∃ y, y = aC9 f.nodes m2 := ⟨_, rfl⟩
   have HY := qhZ hy
   rw [← hy] at hcy hey hky
   obtain ⟨o3, c3, rfl, -, -⟩ := hey
   have hB04 := HB0.out.trans (HBb4.out.mono hb0)
   obtain ⟨v0, v1, v2, v3, v4, v5, v6⟩ := hcy.below hB04 hgy
   have i0 : w4.cell? ⟨b, 0, none⟩ = some (.slice (some ⟨gg, off, none⟩) f.nodes.length c) := aA9 HB4.out 0
   have i5 : w4.cell? ⟨b, 5, none⟩ = some (.slice (some ⟨pg, po + 1, none⟩) r.length (pc - 1)) := aA9 HB4.out 5
   have HBY : Hid (∀ oo, Below b w (w4.alloc oo)) := qhZ (fun oo => HBb4.out.alloc (Nat.le_trans (Nat.le_of_lt hbs) HBb4.out.size) oo)
   have HOY : Hid (∀ oo, OnlyG w (w4.alloc oo) b) := qhZ (fun oo => HO4.out.trans (OnlyG.below b ((Below.refl _ _).alloc (Nat.le_refl _) oo)))
   have HKY : Hid (∀ oo, (w4.alloc oo).heap[b]? = some (.cells (bD9 (some ⟨gg, off, none⟩) f.nodes.length c f.room u g node (.slice (some ⟨pg, po + 1, none⟩) r.length (pc - 1)) hops) 140 (0, 0))) := qhZ (fun oo => (Below.heap_alloc _ _ _ (aB9 HB4.out)).trans HB4.out)
   have hsz4 : b < w4.heap.size := aB9 HB4.out
   have hne3 : w4.heap.size ≠ b := by omega
   have i4 : ∀ oo, (w4.alloc oo).cell? ⟨b, 4, none⟩ = some (.int .i64 (node : Int)) := fun oo => aA9 (HKY.out oo) 4
   have i6 : ∀ oo, (w4.alloc oo).cell? ⟨b, 6, none⟩ = some (.int .i64 (hops : Int)) := fun oo => aA9 (HKY.out oo) 6
   have i5a : ∀ oo, (w4.alloc oo).cell? ⟨b, 5, none⟩ = some (.slice (some ⟨pg, po + 1, none⟩) r.length (pc - 1)) := fun oo => aA9 (HKY.out oo) 5
   have i4f : ∀ oo, (w4.alloc oo).frozen? ⟨b, 4, none⟩ = false := fun oo => aE9 (HKY.out oo) 4
   have i6f : ∀ oo, (w4.alloc oo).frozen? ⟨b, 6, none⟩ = false := fun oo => aE9 (HKY.out oo) 6
   clear hcy hye hy hH5 hB04
   rw [hky] at v0
   have hh8 : ((hops : Int) == 8) = false := by rw [beq_eq_false_iff_ne]; omega
   have hhw : (hops : Int) + 1 ≤ 100 := by omega
   have hcond : (r.length ≠ 0 ∨ fol = true) := by rcases hrf with h | h; exact .inl (fun e => h (List.eq_nil_of_length_eq_zero e)); exact .inr h
   have HSZ : Hid ((bs y.data).size = y.data.length) := qhZ (bs_size _)
   have HSL : Hid ((bs y.data).data.toList = y.data) := qhZ (aY9 _)
   have HHD : Hid (∀ h : 0 < (bs y.data).size, wholeB (bs y.data).data.toList = decide (((bs y.data)[0]'h) = 47)) := qhZ (fun h => whole_at h)
   have hgl : 0 < y.data.length ∧ y.data.length ≤ 60 := by rw [HY.out]; exact hlen
   obtain ⟨s, hs⟩ : ∃ s, s = bs y.data := ⟨_, rfl⟩
   rw [← hs] at v5 HSZ HSL HHD
   clear hs
   have hs0 : 0 < s.size := by rw [HSZ.out]; exact hgl.1
   have hs1 : s.size ≤ 60 := by rw [HSZ.out]; exact hgl.2
   have HWB : Hid (wholeB y.data = false) := qhZ (by rw [HY.out]; exact hwh)
   have hc0 : (((s[0]'hs0).toNat : Int) == 47) = false := by
     have h9 := HHD.out hs0
     rw [HSL.out, HWB.out] at h9
     have h8 : (s[0]'hs0) ≠ 47 := by simpa using h9.symm
     simpa using not47 h8
   clear hgl
   by_cases hr0 : r.length = 0
   · have hfo : fol = true := by rcases hcond with h | h; exact absurd hr0 h; exact h
     subst hfo
     have hr0b : ((r.length : Int) == 0) = true := by rw [beq_iff_eq]; omega
     have HR0 := qhZ hr0
     clear hr0 hcond
     go_wp2
     obtain ⟨W5, hW5⟩ : ∃ W5, (w4.setCell ⟨b, 6, none⟩ (.int .i64 ((hops : Int) + 1))).alloc (.cells #[.int .i64 3, .int .i64 y.mode, .int .i64 y.uid, .int .i64 y.gid, .int .i64 y.time, .string s, .slice o3 y.list.length c3] 55) = W5 := ⟨_, rfl⟩
     have hsz5 : w4.heap.size < W5.heap.size := by rw [← hW5]; simp
     have hb5 : W5.heap[b]? = some (.cells (bD9 (some ⟨gg, off, none⟩) f.nodes.length c f.room u g node (.slice (some ⟨pg, po + 1, none⟩) r.length (pc - 1)) (hops + 1)) 140 (0, 0)) := by rw [← hW5]; exact (Below.heap_alloc _ _ b (by simpa using hsz4)).trans (heap_setCell_same w4 b 6 _ _ (.int .i64 ((hops : Int) + 1)) HB4.out)
     have hY5 : W5.heap[w4.heap.size]? = some (.cells #[.int .i64 3, .int .i64 y.mode, .int .i64 y.uid, .int .i64 y.gid, .int .i64 y.time, .string s, .slice o3 y.list.length c3] 55) := by rw [← hW5]; have h7 := heap_alloc_new (w4.setCell ⟨b, 6, none⟩ (.int .i64 ((hops : Int) + 1))) (.cells #[.int .i64 3, .int .i64 y.mode, .int .i64 y.uid, .int .i64 y.gid, .int .i64 y.time, .string s, .slice o3 y.list.length c3] 55); simpa using h7
     have hO5 : OnlyG w W5 b := by rw [← hW5]; exact (HO4.out.set 6 _).trans (OnlyG.below b ((Below.refl _ _).alloc (Nat.le_refl _) _))
     have hBb5 : Below b w W5 := by rw [← hW5]; exact (HBb4.out.setCell (p := ⟨b, 6, none⟩) (Nat.le_refl _) _).alloc (by simp; omega) _
     rw [hW5]
     clear hW5 i0 i4 i5 i5a i6 i4f i6f v0 v1 v2 v3 v4 v5 v6
     have HR5 := qhZ (rd_kept (HT2.out) hO5 hpb)
     have HK5 : Hid (W5.drew.heap[b]? = _) := qhZ hb5
     have HY5 : Hid (W5.drew.heap[w4.heap.size]? = _) := qhZ hY5
     have HO5 := qhZ (hO5.trans (OnlyG.below b (Below.refl _ W5).drew))
     have HBb5 := qhZ hBb5.drew
     have HR5d := qhZ (HR5.out.below (Below.refl _ W5).drew)
     have e5 : W5.drew.cell? ⟨b, 5, none⟩ = some (.slice (some ⟨pg, po + 1, none⟩) r.length (pc - 1)) := aA9 HK5.out 5
     have y5 : W5.drew.cell? ⟨w4.heap.size, 5, none⟩ = some (.string s) := aA9 HY5.out 5
     obtain ⟨i9, hi9, hz0, hz1, hz2⟩ := info_parts strInfo
     have hpl9 : (parts s.data.toList).length ≤ 61 := by have h7 := parts_le s.data.toList; rw [aW9] at h7; omega
     have hO5s := hO5.1
     clear hb5 hY5 hO5 hBb5
     go_region_law (first
       | (refine aN9 _ rfl (.tmp 118) (.tmp 122) 97 rfl W5.heap.size 9 i9 (.string ⟨#[]⟩) 1 16 Tryz.underlying97 hi9 hz0 hz1 hz2 rfl (by decide) vP (parts s.data.toList).length (strs (parts s.data.toList)) (by simp [Act.eval, Act.put]) HLP.out ⟨pg, po + 1, none⟩ r.length (pc - 1) (strs r) (by simp [Act.eval, Act.put]) (by simp [strs]) (rd_news HRP.out) (strs_one r) (by unfold maxLen; omega) (by omega) hszP ?_; intro oo cap wA hown hgrow hoo; have hrow : ∀ i, i < W5.heap.size → some i ≠ vP.ownBlock := fun i hi e => (by have h7 := (World.ownsRow.lt HLP.out i e.symm).1; exact absurd hi (Nat.not_lt.2 h7)); have HKA := qhZ ((hgrow.block b (aB9 HKP.out) (hrow b (by omega))).trans HKP.out); have HYA := qhZ ((hgrow.block w4.heap.size (aB9 HYP.out) (hrow _ hsz5)).trans HYP.out); have HOA := qhZ (only_grown HOP.out hgrow (fun i hi => hrow i (by have h7 := hO5s; omega))); have HBbA := qhZ (HBbP.out.grown hgrow (Nat.le_of_lt (aB9 HKP.out)) (fun j ej => by have h7 := (World.ownsRow.lt HLP.out j ej).1; have h8 : W5.heap.size ≤ j := h7; omega)); have eA : wA.cell? ⟨b, 5, none⟩ = some (.slice (some ⟨pg, po + 1, none⟩) r.length (pc - 1)) := aA9 HKA.out 5; have fA := aE9 HKA.out 5; have e4A : wA.cell? ⟨b, 4, none⟩ = some (.int .i64 (node : Int)) := aA9 HKA.out 4; have f4A := aE9 HKA.out 4; have yA : wA.cell? ⟨w4.heap.size, 5, none⟩ = some (.string s) := aA9 HYA.out 5; have HLA := qhZ hown; have HOO := qhZ hoo; clear hown hgrow hoo hrow)
       | (go_simp; go_at_call 76; refine (l2Parts_any s _ (by omega)).mono ?_; rintro e wP ⟨vP, rfl, hLP, hbP⟩; have HLP := qhZ hLP; have HRP := qhZ (HR5d.out.below hbP); have hszP := hbP.size; have HKP := qhZ ((hbP.block b (aB9 HK5.out)).trans HK5.out); have HYP := qhZ ((hbP.block w4.heap.size (aB9 HY5.out)).trans HY5.out); have HOP := qhZ (HO5.out.trans (OnlyG.below b hbP)); have HBbP := qhZ (HBb5.out.trans (hbP.mono (Nat.le_trans (Nat.le_of_lt hbs) HBb5.out.size))); have eP : wP.cell? ⟨b, 5, none⟩ = some (.slice (some ⟨pg, po + 1, none⟩) r.length (pc - 1)) := aA9 HKP.out 5; have fP := aE9 HKP.out 5; clear hLP hbP))
     all_goals
       have HDN : Hid (parts s.data.toList = parts (aC9 f.nodes m2).data) := qhZ (by rw [HSL.out, HY.out])
       go_wp2
       go_ret
       have hoff : ∀ a l k, Value.slice oo ((parts s.data.toList).length + r.length) cap = .slice (some a) l k → a.block ≠ b := fun a l k e => by
         simp only [Value.slice.injEq] at e
         obtain ⟨g, rfl, hg9, -⟩ := HOO.out a e.1
         simp only
         omega
       refine ⟨rfl, .slice oo ((parts s.data.toList).length + r.length) cap, heap_setCell_same wA b 5 _ _ _ HKA.out, ?_, hoff, HBbA.out.setCell (p := ⟨b, 5, none⟩) (Nat.le_refl _) _⟩
       have h7 : Rd wA (.slice oo ((parts s.data.toList).length + r.length) cap) (parts s.data.toList ++ r) := (lst_app HLA.out).read
       rw [HDN.out] at h7
       rw [HDN.out] at hoff
       rw [HDN.out]
       exact rd_keptV h7 ((OnlyG.below b (Below.refl _ wA)).set 5 _) hoff
   have hr0b : ((r.length : Int) == 0) = false := by rw [beq_eq_false_iff_ne]; omega
   go_wp2
   obtain ⟨W5, hW5⟩ : ∃ W5, (w4.setCell ⟨b, 6, none⟩ (.int .i64 ((hops : Int) + 1))).alloc (.cells #[.int .i64 3, .int .i64 y.mode, .int .i64 y.uid, .int .i64 y.gid, .int .i64 y.time, .string s, .slice o3 y.list.length c3] 55) = W5 := ⟨_, rfl⟩
   have hsz5 : w4.heap.size < W5.heap.size := by rw [← hW5]; simp
   have hb5 : W5.heap[b]? = some (.cells (bD9 (some ⟨gg, off, none⟩) f.nodes.length c f.room u g node (.slice (some ⟨pg, po + 1, none⟩) r.length (pc - 1)) (hops + 1)) 140 (0, 0)) := by rw [← hW5]; exact (Below.heap_alloc _ _ b (by simpa using hsz4)).trans (heap_setCell_same w4 b 6 _ _ (.int .i64 ((hops : Int) + 1)) HB4.out)
   have hY5 : W5.heap[w4.heap.size]? = some (.cells #[.int .i64 3, .int .i64 y.mode, .int .i64 y.uid, .int .i64 y.gid, .int .i64 y.time, .string s, .slice o3 y.list.length c3] 55) := by rw [← hW5]; have h7 := heap_alloc_new (w4.setCell ⟨b, 6, none⟩ (.int .i64 ((hops : Int) + 1))) (.cells #[.int .i64 3, .int .i64 y.mode, .int .i64 y.uid, .int .i64 y.gid, .int .i64 y.time, .string s, .slice o3 y.list.length c3] 55); simpa using h7
   have hO5 : OnlyG w W5 b := by rw [← hW5]; exact (HO4.out.set 6 _).trans (OnlyG.below b ((Below.refl _ _).alloc (Nat.le_refl _) _))
   have hBb5 : Below b w W5 := by rw [← hW5]; exact (HBb4.out.setCell (p := ⟨b, 6, none⟩) (Nat.le_refl _) _).alloc (by simp; omega) _
   rw [hW5]
   clear hW5 i0 i4 i5 i5a i6 i4f i6f v0 v1 v2 v3 v4 v5 v6
   have HR5 := qhZ (rd_kept (HT2.out) hO5 hpb)
   have HK5 : Hid (W5.drew.heap[b]? = _) := qhZ hb5
   have HY5 : Hid (W5.drew.heap[w4.heap.size]? = _) := qhZ hY5
   have HO5 := qhZ (hO5.trans (OnlyG.below b (Below.refl _ W5).drew))
   have HBb5 := qhZ hBb5.drew
   have HR5d := qhZ (HR5.out.below (Below.refl _ W5).drew)
   have e5 : W5.drew.cell? ⟨b, 5, none⟩ = some (.slice (some ⟨pg, po + 1, none⟩) r.length (pc - 1)) := aA9 HK5.out 5
   have y5 : W5.drew.cell? ⟨w4.heap.size, 5, none⟩ = some (.string s) := aA9 HY5.out 5
   obtain ⟨i9, hi9, hz0, hz1, hz2⟩ := info_parts strInfo
   have hpl9 : (parts s.data.toList).length ≤ 61 := by have h7 := parts_le s.data.toList; rw [aW9] at h7; omega
   have hO5s := hO5.1
   clear hb5 hY5 hO5 hBb5
   go_region_law (first
     | (refine aN9 _ rfl (.tmp 118) (.tmp 122) 97 rfl W5.heap.size 9 i9 (.string ⟨#[]⟩) 1 16 Tryz.underlying97 hi9 hz0 hz1 hz2 rfl (by decide) vP (parts s.data.toList).length (strs (parts s.data.toList)) (by simp [Act.eval, Act.put]) HLP.out ⟨pg, po + 1, none⟩ r.length (pc - 1) (strs r) (by simp [Act.eval, Act.put]) (by simp [strs]) (rd_news HRP.out) (strs_one r) (by unfold maxLen; omega) (by omega) hszP ?_; intro oo cap wA hown hgrow hoo; have hrow : ∀ i, i < W5.heap.size → some i ≠ vP.ownBlock := fun i hi e => (by have h7 := (World.ownsRow.lt HLP.out i e.symm).1; exact absurd hi (Nat.not_lt.2 h7)); have HKA := qhZ ((hgrow.block b (aB9 HKP.out) (hrow b (by omega))).trans HKP.out); have HYA := qhZ ((hgrow.block w4.heap.size (aB9 HYP.out) (hrow _ hsz5)).trans HYP.out); have HOA := qhZ (only_grown HOP.out hgrow (fun i hi => hrow i (by have h7 := hO5s; omega))); have HBbA := qhZ (HBbP.out.grown hgrow (Nat.le_of_lt (aB9 HKP.out)) (fun j ej => by have h7 := (World.ownsRow.lt HLP.out j ej).1; have h8 : W5.heap.size ≤ j := h7; omega)); have eA : wA.cell? ⟨b, 5, none⟩ = some (.slice (some ⟨pg, po + 1, none⟩) r.length (pc - 1)) := aA9 HKA.out 5; have fA := aE9 HKA.out 5; have e4A : wA.cell? ⟨b, 4, none⟩ = some (.int .i64 (node : Int)) := aA9 HKA.out 4; have f4A := aE9 HKA.out 4; have yA : wA.cell? ⟨w4.heap.size, 5, none⟩ = some (.string s) := aA9 HYA.out 5; have HLA := qhZ hown; have HOO := qhZ hoo; clear hown hgrow hoo hrow)
     | (go_simp; go_at_call 76; refine (l2Parts_any s _ (by omega)).mono ?_; rintro e wP ⟨vP, rfl, hLP, hbP⟩; have HLP := qhZ hLP; have HRP := qhZ (HR5d.out.below hbP); have hszP := hbP.size; have HKP := qhZ ((hbP.block b (aB9 HK5.out)).trans HK5.out); have HYP := qhZ ((hbP.block w4.heap.size (aB9 HY5.out)).trans HY5.out); have HOP := qhZ (HO5.out.trans (OnlyG.below b hbP)); have HBbP := qhZ (HBb5.out.trans (hbP.mono (Nat.le_trans (Nat.le_of_lt hbs) HBb5.out.size))); have eP : wP.cell? ⟨b, 5, none⟩ = some (.slice (some ⟨pg, po + 1, none⟩) r.length (pc - 1)) := aA9 HKP.out 5; have fP := aE9 HKP.out 5; clear hLP hbP))
   all_goals
     have HDN : Hid (parts s.data.toList = parts (aC9 f.nodes m2).data) := qhZ (by rw [HSL.out, HY.out])
     go_wp2
     go_ret
     have hoff : ∀ a l k, Value.slice oo ((parts s.data.toList).length + r.length) cap = .slice (some a) l k → a.block ≠ b := fun a l k e => by
       simp only [Value.slice.injEq] at e
       obtain ⟨g, rfl, hg9, -⟩ := HOO.out a e.1
       simp only
       omega
     refine ⟨rfl, .slice oo ((parts s.data.toList).length + r.length) cap, heap_setCell_same wA b 5 _ _ _ HKA.out, ?_, hoff, HBbA.out.setCell (p := ⟨b, 5, none⟩) (Nat.le_refl _) _⟩
     have h7 : Rd wA (.slice oo ((parts s.data.toList).length + r.length) cap) (parts s.data.toList ++ r) := (lst_app HLA.out).read
     rw [HDN.out] at h7
     rw [HDN.out] at hoff
     rw [HDN.out]
     exact rd_keptV h7 ((OnlyG.below b (Below.refl _ wA)).set 5 _) hoff
end Go.Proofs.YtknhacblialboaaGreatDoor
