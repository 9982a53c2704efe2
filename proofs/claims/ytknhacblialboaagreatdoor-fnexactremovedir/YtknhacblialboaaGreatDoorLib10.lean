/-
  Joined: LookW LookF LookG CollC InoA InoB.
  Conditions: as each states.
-/
import Derived.Laws.Cover1
import Derived.Test.YtknhacblialboaaGreatDoorLib2
import Derived.Test.YtknhacblialboaaGreatDoorLib4
import Derived.Test.YtknhacblialboaaGreatDoorLib9
namespace Go.Proofs.YtknhacblialboaaGreatDoor
open Go.ChangeShapes Go.WideShapes Go.ChangeAt Go.RowKit Go.Joins
set_option linter.unusedVariables false
set_option linter.unusedSimpArgs false
set_option maxHeartbeats 16000000
set_option maxRecDepth 100000 in
theorem step_linkw (f : FsD) (o : Option Addr) (c : Nat) (u g : Int) (fol : Bool) (b node hops : Nat) (p : List UInt8) (r : List (List UInt8)) (pg po pc : Nat) (w0 w : World) (hF : LookFs f) (hN0 : NodsA w0 (.slice o f.nodes.length c) f.nodes) (hB0 : Below w0.heap.size w0 w) (hb0 : w0.heap.size ≤ b) (hb : w.heap[b]? = some (.cells (bD9 o f.nodes.length c f.room u g node (.slice (some ⟨pg, po, none⟩) (r.length + 1) pc) hops) 140 (0, 0))) (hn : node < f.nodes.length) (hP : Rd w (.slice (some ⟨pg, po, none⟩) (p :: r).length pc) (p :: r)) (hpb : pg ≠ b) (hrl : r.length ≤ 1000) (hk : (aC9 f.nodes node).kind = 2) (hmay : mayB u g (aC9 f.nodes node).mode (aC9 f.nodes node).uid (aC9 f.nodes node).gid 1 = true) (hp1 : p ≠ [46]) (hp2 : p ≠ [46, 46]) (m2 : Nat) (hat : atE (aC9 f.nodes node).list p = m2) (hm2 : m2 < f.nodes.length) (hky : (aC9 f.nodes m2).kind = 3) (hrf : r ≠ [] ∨ fol = true) (hh : hops < 8) (hlen : 0 < (aC9 f.nodes m2).data.length ∧ (aC9 f.nodes m2).data.length ≤ 60) (hwh : wholeB (aC9 f.nodes m2).data = true) : Calls Tryz.prog 114 #[.pointer (some ⟨b, 0, none⟩), .bool fol] w fun e w' => e = .returned (.int .i64 0) ∧ ∃ pv, w'.heap[b]? = some (.cells (bD9 o f.nodes.length c f.room u g 0 pv (hops + 1)) 140 (0, 0)) ∧ Rd w' pv (parts (aC9 f.nodes m2).data ++ r) ∧ (∀ a l k, pv = .slice (some a) l k → a.block ≠ b) ∧ Below b w w' := by
 have hN := hN0.below hB0
 have HN0 := qhZ hN0
 have HB0 := qhZ hB0
 obtain ⟨o0, c00, e00, -, hH0⟩ := id hN0
 simp only [Value.slice.injEq, true_and] at e00
 obtain ⟨rfl, rfl⟩ := e00
 obtain ⟨gg0, off0, lv0, e00, hg0, hcc0, he0, -⟩ := hH0 node hn
 obtain ⟨o', c', e1, hmm, hH⟩ := id hN
 simp only [Value.slice.injEq, true_and] at e1
 obtain ⟨rfl, rfl⟩ := e1
 unfold maxLen at hmm
 have hl : f.nodes.length ≤ 1048576 := (aG9 hF.size).1
 obtain ⟨gg, off, lv, rfl, hg, hcc, he, -⟩ := hH node hn
 have hqe : f.nodes[node] = aC9 f.nodes node := (aR9 hn).symm
 have HHH := qhZ hH
 have HMO : Hid (inB 0 511 (aC9 f.nodes node).mode = true) := qhZ (hF.mode node hn (by rw [hk]; decide))
 have hql : (aC9 f.nodes node).list.length ≤ 1048576 := by rw [← hqe]; exact ((aG9 hF.size).2 _ (List.getElem_mem hn)).1
 rw [hqe] at hcc he hcc0 he0
 obtain ⟨q, hq⟩ : ∃ q, q = aC9 f.nodes node := ⟨_, rfl⟩
 have HQ := qhZ hq
 rw [← hq] at hcc hk he hql hcc0 he0
 obtain ⟨o2, c2, rfl, -, -⟩ := he
 obtain ⟨d0, d1, d2, d3, d4, d5, d6⟩ := hcc
 have hlv : lv0 = .slice o2 q.list.length c2 := by
   simp only [Option.some.injEq, Addr.mk.injEq, and_true] at e00
   obtain ⟨rfl, rfl⟩ := e00
   have h1 := (hB0.cell (p := ⟨gg, off + node * 7 + 6, none⟩) hg0).trans hcc0.c6
   rw [d6] at h1
   simpa using h1.symm
 subst hlv
 have HE := qhZ he0
 have hbs := aB9 hb
 have c0 : w.cell? ⟨b, 0, none⟩ = some (.slice (some ⟨gg, off, none⟩) f.nodes.length c) := aA9 hb 0
 have c4 : w.cell? ⟨b, 4, none⟩ = some (.int .i64 (node : Int)) := aA9 hb 4
 have hne1 : w.heap.size ≠ b := by omega
 have hne2 : w.heap.size ≠ gg := by omega
 have HB := qhZ hb
 have HN := qhZ hN
 have hat1 := hat
 rw [← hq] at hat1
 clear hat
 have HP := qhZ hP
 rw [hk] at d0
 clear hq hqe hH hb hN hP hN0 hB0 hH0 hcc0 he0 e00 hg0
 go_enter Tryz.func114, Tryz.ntmps114
 go_wp2
 go_region
 obtain ⟨W1, hW1⟩ : ∃ W1, (w.alloc (.cells #[.int .i64 2, .int .i64 q.mode, .int .i64 q.uid, .int .i64 q.gid, .int .i64 q.time, .string (bs q.data), .slice o2 q.list.length c2] 55)).drew = W1 := ⟨_, rfl⟩
 have hB1 : Below w.heap.size w W1 := by rw [← hW1]; exact ((Below.refl _ _).alloc (Nat.le_refl _) _).drew
 have hX1 : W1.heap[w.heap.size]? = some (.cells #[.int .i64 2, .int .i64 q.mode, .int .i64 q.uid, .int .i64 q.gid, .int .i64 q.time, .string (bs q.data), .slice o2 q.list.length c2] 55) := by rw [← hW1]; exact heap_alloc_new _ _
 rw [hW1]
 clear hW1 c0 c4 d0 d1 d2 d3 d4 d5 d6
 have hb1 := (hB1.block b hbs).trans HB.out
 have HFS1 : Hid (FsA W1 (.agg #[.slice (some ⟨gg, off, none⟩) f.nodes.length c, .int .i64 f.room]) f) := qhZ ⟨_, rfl, HN.out.below hB1⟩
 have s0 : W1.cell? ⟨b, 0, none⟩ = some (.slice (some ⟨gg, off, none⟩) f.nodes.length c) := aA9 hb1 0
 have s1 : W1.cell? ⟨b, 1, none⟩ = some (.int .i64 f.room) := aA9 hb1 1
 have s2 : W1.cell? ⟨b, 2, none⟩ = some (.int .i64 u) := aA9 hb1 2
 have s3 : W1.cell? ⟨b, 3, none⟩ = some (.int .i64 g) := aA9 hb1 3
 have s4 : W1.cell? ⟨b, 4, none⟩ = some (.int .i64 (node : Int)) := aA9 hb1 4
 have x0 : W1.cell? ⟨w.heap.size, 0, none⟩ = some (.int .i64 2) := aA9 hX1 0
 have z0 := fun d os => cell_regrown (w := W1) s0 d os
 have z1 := fun d os => cell_regrown (w := W1) s1 d os
 have z2 := fun d os => cell_regrown (w := W1) s2 d os
 have z3 := fun d os => cell_regrown (w := W1) s3 d os
 have z4 := fun d os => cell_regrown (w := W1) s4 d os
 go_wp2
 have HMAY : Hid (mayB u g (aC9 f.nodes node).mode (aC9 f.nodes node).uid (aC9 f.nodes node).gid 1 = true) := qhZ hmay
 refine wp_region_quiet_below (by kernel_rfl) (by kernel_rfl) ?_
 repeat (first | go_big_quiet_step ((go_at_call 105; exact Calls.regrown_of (l4May_is HMAY.out (HFS1.out.below (below_regrown _ _ _)) hn HMO.out hl))) | quiet_step ((go_at_call 105; exact Calls.regrown_of (l4May_is HMAY.out (HFS1.out.below (below_regrown _ _ _)) hn HMO.out hl))))
 refine wpQuiet_nil ?_
 intro w2 hwq
 have hb5 : Below W1.heap.size W1 w2 := by
   obtain ⟨pp, rfl⟩ := hwq
   exact below_regrown _ _ _
 have hB2 := hB1.trans (hb5.mono hB1.size)
 have hb2 := (hb5.block b (aB9 hb1)).trans hb1
 have hX2 := (hb5.block w.heap.size (aB9 hX1)).trans hX1
 have hBb2 : Below b w w2 := hB2.mono (Nat.le_of_lt hbs)
 clear hwq hb5 hX1 hb1 z0 z1 z2 z3 z4 s0 s1 s2 s3 s4 x0 hmay HFS1
 obtain ⟨hpg, hpl, hpm, hp0, hr1, hr2⟩ := rd_first HP.out
 unfold maxLen at hpm
 have p0 := (hB2.cell (p := ⟨pg, po, none⟩) hpg).trans hp0
 have t5 : w2.cell? ⟨b, 5, none⟩ = some (.slice (some ⟨pg, po, none⟩) (r.length + 1) pc) := aA9 hb2 5
 have f5 := aE9 hb2 5
 have HK2 := qhZ hb2
 have HX2 := qhZ hX2
 have HB2 := qhZ hB2
 have HT1 := qhZ hr1
 have HT2 := qhZ hr2
 clear hp0 hr1 hr2 hb2 hX2
 have hx1 := bytes_neP (x := bs p) (l := [46]) (by rw [aY9]; exact hp1)
 have hx2 := bytes_neP (x := bs p) (l := [46, 46]) (by rw [aY9]; exact hp2)
 have HPB : Hid ((bs p).data.toList = p) := qhZ (aY9 p)
 obtain ⟨x, hx⟩ : ∃ x, x = bs p := ⟨_, rfl⟩
 rw [← hx] at p0 hx1 hx2 HPB
 clear hx hp1 hp2
 have HAT : Hid (atE q.list x.data.toList = (m2 : Int)) := qhZ (by rw [HPB.out, hat1])
 by_cases hpc : pc = 1
 · subst hpc
   obtain rfl : r = [] := List.eq_nil_of_length_eq_zero (by omega)
   simp only [List.length_nil] at *
   have hO3 := (OnlyG.below b HB2.out).set 5 (.slice (some ⟨pg, po, none⟩) 0 0)
   have hX3 : (w2.setCell ⟨b, 5, none⟩ (.slice (some ⟨pg, po, none⟩) 0 0)).heap[w.heap.size]? = some (.cells #[.int .i64 2, .int .i64 q.mode, .int .i64 q.uid, .int .i64 q.gid, .int .i64 q.time, .string (bs q.data), .slice o2 q.list.length c2] 55) := (Below.heap_setCell w2 ⟨b, 5, none⟩ (.slice (some ⟨pg, po, none⟩) 0 0) w.heap.size hne1).trans HX2.out
   have hb3 : (w2.setCell ⟨b, 5, none⟩ (.slice (some ⟨pg, po, none⟩) 0 0)).heap[b]? = some (.cells (bD9 (some ⟨gg, off, none⟩) f.nodes.length c f.room u g node (.slice (some ⟨pg, po, none⟩) 0 0) hops) 140 (0, 0)) := heap_setCell_same w2 b 5 _ _ (.slice (some ⟨pg, po, none⟩) 0 0) HK2.out
   have x6 : (w2.setCell ⟨b, 5, none⟩ (.slice (some ⟨pg, po, none⟩) 0 0)).cell? ⟨w.heap.size, 6, none⟩ = some (.slice o2 q.list.length c2) := aA9 hX3 6
   have hBb3 : Below b w (w2.setCell ⟨b, 5, none⟩ (.slice (some ⟨pg, po, none⟩) 0 0)) := hBb2.setCell (p := ⟨b, 5, none⟩) (Nat.le_refl _) _
   have HBb3 := qhZ hBb3
   have HEN : Hid (EntsA (w2.setCell ⟨b, 5, none⟩ (.slice (some ⟨pg, po, none⟩) 0 0)) (.slice o2 q.list.length c2) q.list) := qhZ (HE.out.below (HB0.out.trans (hBb3.mono hb0)))
   have HO3 := qhZ hO3
   have HB3 := qhZ hb3
   clear hO3 hX3 hb3 hBb3
   go_wp2_with fail
   refine (l3At_any q.list _ x _ HEN.out hql).mono ?_
   rintro e w4 ⟨rfl, hb4⟩
   rw [HAT.out]
   have HO4 := qhZ (HO3.out.trans (OnlyG.below b hb4))
   have HB4 := qhZ ((hb4.block b (aB9 HB3.out)).trans HB3.out)
   have HBb4 := qhZ (HBb3.out.trans (hb4.mono (Nat.le_trans (Nat.le_of_lt hbs) HBb3.out.size)))
   clear hb4
   obtain ⟨o5, c5, e5, -, hH5⟩ := id HN0.out
   simp only [Value.slice.injEq, true_and] at e5
   obtain ⟨rfl, rfl⟩ := e5
   obtain ⟨gy, offy, ly, e5, hgy, hcy, hey, -⟩ := hH5 m2 hm2
   simp only [Option.some.injEq, Addr.mk.injEq, and_true] at e5
   obtain ⟨rfl, rfl⟩ := e5
   have hye : f.nodes[m2] = aC9 f.nodes m2 := (aR9 hm2).symm
   rw [hye] at hcy hey
   obtain ⟨y, hy⟩ : ∃ y, y = aC9 f.nodes m2 := ⟨_, rfl⟩
   have HY := qhZ hy
   rw [← hy] at hcy hey hky
   obtain ⟨o3, c3, rfl, -, -⟩ := hey
   have hB04 := HB0.out.trans (HBb4.out.mono hb0)
   obtain ⟨v0, v1, v2, v3, v4, v5, v6⟩ := hcy.below hB04 hgy
   have i0 : w4.cell? ⟨b, 0, none⟩ = some (.slice (some ⟨gg, off, none⟩) f.nodes.length c) := aA9 HB4.out 0
   have i5 : w4.cell? ⟨b, 5, none⟩ = some (.slice (some ⟨pg, po, none⟩) 0 0) := aA9 HB4.out 5
   have HBY : Hid (∀ oo, Below b w (w4.alloc oo)) := qhZ (fun oo => HBb4.out.alloc (Nat.le_trans (Nat.le_of_lt hbs) HBb4.out.size) oo)
   have HOY : Hid (∀ oo, OnlyG w (w4.alloc oo) b) := qhZ (fun oo => HO4.out.trans (OnlyG.below b ((Below.refl _ _).alloc (Nat.le_refl _) oo)))
   have HKY : Hid (∀ oo, (w4.alloc oo).heap[b]? = some (.cells (bD9 (some ⟨gg, off, none⟩) f.nodes.length c f.room u g node (.slice (some ⟨pg, po, none⟩) 0 0) hops) 140 (0, 0))) := qhZ (fun oo => (Below.heap_alloc _ _ _ (aB9 HB4.out)).trans HB4.out)
   have hsz4 : b < w4.heap.size := aB9 HB4.out
   have hne3 : w4.heap.size ≠ b := by omega
   have i4 : ∀ oo, (w4.alloc oo).cell? ⟨b, 4, none⟩ = some (.int .i64 (node : Int)) := fun oo => aA9 (HKY.out oo) 4
   have i6 : ∀ oo, (w4.alloc oo).cell? ⟨b, 6, none⟩ = some (.int .i64 (hops : Int)) := fun oo => aA9 (HKY.out oo) 6
   have i5a : ∀ oo, (w4.alloc oo).cell? ⟨b, 5, none⟩ = some (.slice (some ⟨pg, po, none⟩) 0 0) := fun oo => aA9 (HKY.out oo) 5
   have i4f : ∀ oo, (w4.alloc oo).frozen? ⟨b, 4, none⟩ = false := fun oo => aE9 (HKY.out oo) 4
   have i6f : ∀ oo, (w4.alloc oo).frozen? ⟨b, 6, none⟩ = false := fun oo => aE9 (HKY.out oo) 6
   clear hcy hye hy hH5 hB04
   rw [hky] at v0
   have hh8 : ((hops : Int) == 8) = false := by rw [beq_eq_false_iff_ne]; omega
   have hhw : (hops : Int) + 1 ≤ 100 := by omega
   have hfo : fol = true := by rcases hrf with h | h; exact absurd rfl h; exact h
   subst hfo
   have HSZ : Hid ((bs y.data).size = y.data.length) := qhZ (bs_size _)
   have HSL : Hid ((bs y.data).data.toList = y.data) := qhZ (aY9 _)
   have HHD : Hid (∀ h : 0 < (bs y.data).size, wholeB (bs y.data).data.toList = decide (((bs y.data)[0]'h) = 47)) := qhZ (fun h => whole_at h)
   have hgl : 0 < y.data.length ∧ y.data.length ≤ 60 := by rw [HY.out]; exact hlen
   obtain ⟨s, hs⟩ : ∃ s, s = bs y.data := ⟨_, rfl⟩
   rw [← hs] at v5 HSZ HSL HHD
   clear hs
   have hs0 : 0 < s.size := by rw [HSZ.out]; exact hgl.1
   have hs1 : s.size ≤ 60 := by rw [HSZ.out]; exact hgl.2
   have HWB : Hid (wholeB y.data = true) := qhZ (by rw [HY.out]; exact hwh)
   have hc0 : ((s[0]'hs0).toNat : Int) = 47 := by
     have h9 := HHD.out hs0
     rw [HSL.out, HWB.out] at h9
     have h8 : (s[0]'hs0) = 47 := by simpa using h9.symm
     rw [h8]; rfl
   clear hgl
   go_wp2
   obtain ⟨W5, hW5⟩ : ∃ W5, (w4.setCell ⟨b, 6, none⟩ (.int .i64 ((hops : Int) + 1))).alloc (.cells #[.int .i64 3, .int .i64 y.mode, .int .i64 y.uid, .int .i64 y.gid, .int .i64 y.time, .string s, .slice o3 y.list.length c3] 55) = W5 := ⟨_, rfl⟩
   have hsz5 : w4.heap.size < W5.heap.size := by rw [← hW5]; simp
   have hb5 : W5.heap[b]? = some (.cells (bD9 (some ⟨gg, off, none⟩) f.nodes.length c f.room u g node (.slice (some ⟨pg, po, none⟩) 0 0) (hops + 1)) 140 (0, 0)) := by rw [← hW5]; exact (Below.heap_alloc _ _ b (by simpa using hsz4)).trans (heap_setCell_same w4 b 6 _ _ (.int .i64 ((hops : Int) + 1)) HB4.out)
   have hY5 : W5.heap[w4.heap.size]? = some (.cells #[.int .i64 3, .int .i64 y.mode, .int .i64 y.uid, .int .i64 y.gid, .int .i64 y.time, .string s, .slice o3 y.list.length c3] 55) := by rw [← hW5]; have h7 := heap_alloc_new (w4.setCell ⟨b, 6, none⟩ (.int .i64 ((hops : Int) + 1))) (.cells #[.int .i64 3, .int .i64 y.mode, .int .i64 y.uid, .int .i64 y.gid, .int .i64 y.time, .string s, .slice o3 y.list.length c3] 55); simpa using h7
   have hO5 : OnlyG w W5 b := by rw [← hW5]; exact (HO4.out.set 6 _).trans (OnlyG.below b ((Below.refl _ _).alloc (Nat.le_refl _) _))
   have hBb5 : Below b w W5 := by rw [← hW5]; exact (HBb4.out.setCell (p := ⟨b, 6, none⟩) (Nat.le_refl _) _).alloc (by simp; omega) _
   rw [hW5]
   clear hW5 i0 i4 i5 i5a i6 i4f i6f v0 v1 v2 v3 v4 v5 v6
   have HR5 := qhZ (rd_kept (HT1.out trivial) hO5 hpb)
   have HK5 : Hid (W5.drew.heap[b]? = _) := qhZ hb5
   have HY5 : Hid (W5.drew.heap[w4.heap.size]? = _) := qhZ hY5
   have HO5 := qhZ (hO5.trans (OnlyG.below b (Below.refl _ W5).drew))
   have HBb5 := qhZ hBb5.drew
   have HR5d := qhZ (HR5.out.below (Below.refl _ W5).drew)
   have e5 : W5.drew.cell? ⟨b, 5, none⟩ = some (.slice (some ⟨pg, po, none⟩) 0 0) := aA9 HK5.out 5
   have y5 : W5.drew.cell? ⟨w4.heap.size, 5, none⟩ = some (.string s) := aA9 HY5.out 5
   obtain ⟨i9, hi9, hz0, hz1, hz2⟩ := info_parts strInfo
   have hpl9 : (parts s.data.toList).length ≤ 61 := by have h7 := parts_le s.data.toList; rw [aW9] at h7; omega
   have hO5s := hO5.1
   clear hb5 hY5 hO5 hBb5
   go_region_law (first
     | (refine aN9 _ rfl (.tmp 118) (.tmp 122) 97 rfl W5.heap.size 9 i9 (.string ⟨#[]⟩) 1 16 Tryz.underlying97 hi9 hz0 hz1 hz2 rfl (by decide) vP (parts s.data.toList).length (strs (parts s.data.toList)) (by simp [Act.eval, Act.put]) HLP.out ⟨pg, po, none⟩ 0 0 (strs []) (by simp [Act.eval, Act.put]) (by simp [strs]) (rd_news HRP.out) (strs_one []) (by unfold maxLen; omega) (by omega) hszP ?_; intro oo cap wA hown hgrow hoo; have hrow : ∀ i, i < W5.heap.size → some i ≠ vP.ownBlock := fun i hi e => (by have h7 := (World.ownsRow.lt HLP.out i e.symm).1; exact absurd hi (Nat.not_lt.2 h7)); have HKA := qhZ ((hgrow.block b (aB9 HKP.out) (hrow b (by omega))).trans HKP.out); have HYA := qhZ ((hgrow.block w4.heap.size (aB9 HYP.out) (hrow _ hsz5)).trans HYP.out); have HOA := qhZ (only_grown HOP.out hgrow (fun i hi => hrow i (by have h7 := hO5s; omega))); have HBbA := qhZ (HBbP.out.grown hgrow (Nat.le_of_lt (aB9 HKP.out)) (fun j ej => by have h7 := (World.ownsRow.lt HLP.out j ej).1; have h8 : W5.heap.size ≤ j := h7; omega)); have eA : wA.cell? ⟨b, 5, none⟩ = some (.slice (some ⟨pg, po, none⟩) 0 0) := aA9 HKA.out 5; have fA := aE9 HKA.out 5; have e4A : wA.cell? ⟨b, 4, none⟩ = some (.int .i64 (node : Int)) := aA9 HKA.out 4; have f4A := aE9 HKA.out 4; have yA : wA.cell? ⟨w4.heap.size, 5, none⟩ = some (.string s) := aA9 HYA.out 5; have HLA := qhZ hown; have HOO := qhZ hoo; clear hown hgrow hoo hrow)
     | (go_simp; go_at_call 76; refine (l2Parts_any s _ (by omega)).mono ?_; rintro e wP ⟨vP, rfl, hLP, hbP⟩; have HLP := qhZ hLP; have HRP := qhZ (HR5d.out.below hbP); have hszP := hbP.size; have HKP := qhZ ((hbP.block b (aB9 HK5.out)).trans HK5.out); have HYP := qhZ ((hbP.block w4.heap.size (aB9 HY5.out)).trans HY5.out); have HOP := qhZ (HO5.out.trans (OnlyG.below b hbP)); have HBbP := qhZ (HBb5.out.trans (hbP.mono (Nat.le_trans (Nat.le_of_lt hbs) HBb5.out.size))); have eP : wP.cell? ⟨b, 5, none⟩ = some (.slice (some ⟨pg, po, none⟩) 0 0) := aA9 HKP.out 5; have fP := aE9 HKP.out 5; clear hLP hbP))
   all_goals
     have HDN : Hid (parts s.data.toList = parts (aC9 f.nodes m2).data) := qhZ (by rw [HSL.out, HY.out])
     go_wp2
     go_ret
     have hoff : ∀ a l k, Value.slice oo ((parts s.data.toList).length + 0) cap = .slice (some a) l k → a.block ≠ b := fun a l k e => by
       simp only [Value.slice.injEq] at e
       obtain ⟨g, rfl, hg9, -⟩ := HOO.out a e.1
       simp only
       omega
     refine ⟨rfl, .slice oo ((parts s.data.toList).length + 0) cap, heap_setCell_same _ b 4 _ _ (.int .i64 0) (heap_setCell_same wA b 5 _ _ _ HKA.out), ?_, hoff, (HBbA.out.setCell (p := ⟨b, 5, none⟩) (Nat.le_refl _) _).setCell (p := ⟨b, 4, none⟩) (Nat.le_refl _) _⟩
     have h7 : Rd wA (.slice oo ((parts s.data.toList).length + 0) cap) (parts s.data.toList ++ []) := (lst_app HLA.out).read
     rw [HDN.out] at h7
     rw [HDN.out] at hoff
     rw [HDN.out]
     exact rd_keptV h7 (((OnlyG.below b (Below.refl _ wA)).set 5 _).set 4 _) hoff
 · have hpc2 : ¬ 1 = pc := fun e => hpc e.symm
   have hO3 := (OnlyG.below b HB2.out).set 5 (.slice (some ⟨pg, po + 1, none⟩) r.length (pc - 1))
   have hX3 : (w2.setCell ⟨b, 5, none⟩ (.slice (some ⟨pg, po + 1, none⟩) r.length (pc - 1))).heap[w.heap.size]? = some (.cells #[.int .i64 2, .int .i64 q.mode, .int .i64 q.uid, .int .i64 q.gid, .int .i64 q.time, .string (bs q.data), .slice o2 q.list.length c2] 55) := (Below.heap_setCell w2 ⟨b, 5, none⟩ (.slice (some ⟨pg, po + 1, none⟩) r.length (pc - 1)) w.heap.size hne1).trans HX2.out
   have hb3 : (w2.setCell ⟨b, 5, none⟩ (.slice (some ⟨pg, po + 1, none⟩) r.length (pc - 1))).heap[b]? = some (.cells (bD9 (some ⟨gg, off, none⟩) f.nodes.length c f.room u g node (.slice (some ⟨pg, po + 1, none⟩) r.length (pc - 1)) hops) 140 (0, 0)) := heap_setCell_same w2 b 5 _ _ (.slice (some ⟨pg, po + 1, none⟩) r.length (pc - 1)) HK2.out
   have x6 : (w2.setCell ⟨b, 5, none⟩ (.slice (some ⟨pg, po + 1, none⟩) r.length (pc - 1))).cell? ⟨w.heap.size, 6, none⟩ = some (.slice o2 q.list.length c2) := aA9 hX3 6
   have hBb3 : Below b w (w2.setCell ⟨b, 5, none⟩ (.slice (some ⟨pg, po + 1, none⟩) r.length (pc - 1))) := hBb2.setCell (p := ⟨b, 5, none⟩) (Nat.le_refl _) _
   have HBb3 := qhZ hBb3
   have HEN : Hid (EntsA (w2.setCell ⟨b, 5, none⟩ (.slice (some ⟨pg, po + 1, none⟩) r.length (pc - 1))) (.slice o2 q.list.length c2) q.list) := qhZ (HE.out.below (HB0.out.trans (hBb3.mono hb0)))
   have HO3 := qhZ hO3
   have HB3 := qhZ hb3
   clear hO3 hX3 hb3 hBb3
   go_wp2_with fail
   refine (l3At_any q.list _ x _ HEN.out hql).mono ?_
   rintro e w4 ⟨rfl, hb4⟩
   rw [HAT.out]
   have HO4 := qhZ (HO3.out.trans (OnlyG.below b hb4))
   have HB4 := qhZ ((hb4.block b (aB9 HB3.out)).trans HB3.out)
   have HBb4 := qhZ (HBb3.out.trans (hb4.mono (Nat.le_trans (Nat.le_of_lt hbs) HBb3.out.size)))
   clear hb4
   obtain ⟨o5, c5, e5, -, hH5⟩ := id HN0.out
   simp only [Value.slice.injEq, true_and] at e5
   obtain ⟨rfl, rfl⟩ := e5
   obtain ⟨gy, offy, ly, e5, hgy, hcy, hey, -⟩ := hH5 m2 hm2
   simp only [Option.some.injEq, Addr.mk.injEq, and_true] at e5
   obtain ⟨rfl, rfl⟩ := e5
   have hye : f.nodes[m2] = aC9 f.nodes m2 := (aR9 hm2).symm
   rw [hye] at hcy hey
   obtain ⟨y, hy⟩ : ∃ y, y = aC9 f.nodes m2 := ⟨_, rfl⟩
   have HY := qhZ hy
   rw [← hy] at hcy hey hky
   obtain ⟨o3, c3, rfl, -, -⟩ := hey
   have hB04 := HB0.out.trans (HBb4.out.mono hb0)
   obtain ⟨v0, v1, v2, v3, v4, v5, v6⟩ := hcy.below hB04 hgy
   have i0 : w4.cell? ⟨b, 0, none⟩ = some (.slice (some ⟨gg, off, none⟩) f.nodes.length c) := aA9 HB4.out 0
   have i5 : w4.cell? ⟨b, 5, none⟩ = some (.slice (some ⟨pg, po + 1, none⟩) r.length (pc - 1)) := aA9 HB4.out 5
   have HBY : Hid (∀ oo, Below b w (w4.alloc oo)) := qhZ (fun oo => HBb4.out.alloc (Nat.le_trans (Nat.le_of_lt hbs) HBb4.out.size) oo)
   have HOY : Hid (∀ oo, OnlyG w (w4.alloc oo) b) := qhZ (fun oo => HO4.out.trans (OnlyG.below b ((Below.refl _ _).alloc (Nat.le_refl _) oo)))
   have HKY : Hid (∀ oo, (w4.alloc oo).heap[b]? = some (.cells (bD9 (some ⟨gg, off, none⟩) f.nodes.length c f.room u g node (.slice (some ⟨pg, po + 1, none⟩) r.length (pc - 1)) hops) 140 (0, 0))) := qhZ (fun oo => (Below.heap_alloc _ _ _ (aB9 HB4.out)).trans HB4.out)
   have hsz4 : b < w4.heap.size := aB9 HB4.out
   have hne3 : w4.heap.size ≠ b := by omega
   have i4 : ∀ oo, (w4.alloc oo).cell? ⟨b, 4, none⟩ = some (.int .i64 (node : Int)) := fun oo => aA9 (HKY.out oo) 4
   have i6 : ∀ oo, (w4.alloc oo).cell? ⟨b, 6, none⟩ = some (.int .i64 (hops : Int)) := fun oo => aA9 (HKY.out oo) 6
   have i5a : ∀ oo, (w4.alloc oo).cell? ⟨b, 5, none⟩ = some (.slice (some ⟨pg, po + 1, none⟩) r.length (pc - 1)) := fun oo => aA9 (HKY.out oo) 5
   have i4f : ∀ oo, (w4.alloc oo).frozen? ⟨b, 4, none⟩ = false := fun oo => aE9 (HKY.out oo) 4
   have i6f : ∀ oo, (w4.alloc oo).frozen? ⟨b, 6, none⟩ = false := fun oo => aE9 (HKY.out oo) 6
   clear hcy hye hy hH5 hB04
   rw [hky] at v0
   have hh8 : ((hops : Int) == 8) = false := by rw [beq_eq_false_iff_ne]; omega
   have hhw : (hops : Int) + 1 ≤ 100 := by omega
   have hcond : (r.length ≠ 0 ∨ fol = true) := by rcases hrf with h | h; exact .inl (fun e => h (List.eq_nil_of_length_eq_zero e)); exact .inr h
   have HSZ : Hid ((bs y.data).size = y.data.length) := qhZ (bs_size _)
   have HSL : Hid ((bs y.data).data.toList = y.data) := qhZ (aY9 _)
   have HHD : Hid (∀ h : 0 < (bs y.data).size, wholeB (bs y.data).data.toList = decide (((bs y.data)[0]'h) = 47)) := qhZ (fun h => whole_at h)
   have hgl : 0 < y.data.length ∧ y.data.length ≤ 60 := by rw [HY.out]; exact hlen
   obtain ⟨s, hs⟩ : ∃ s, s = bs y.data := ⟨_, rfl⟩
   rw [← hs] at v5 HSZ HSL HHD
   clear hs
   have hs0 : 0 < s.size := by rw [HSZ.out]; exact hgl.1
   have hs1 : s.size ≤ 60 := by rw [HSZ.out]; exact hgl.2
   have HWB : Hid (wholeB y.data = true) := qhZ (by rw [HY.out]; exact hwh)
   have hc0 : ((s[0]'hs0).toNat : Int) = 47 := by
     have h9 := HHD.out hs0
     rw [HSL.out, HWB.out] at h9
     have h8 : (s[0]'hs0) = 47 := by simpa using h9.symm
     rw [h8]; rfl
   clear hgl
   by_cases hr0 : r.length = 0
   · have hfo : fol = true := by rcases hcond with h | h; exact absurd hr0 h; exact h
     subst hfo
     have hr0b : ((r.length : Int) == 0) = true := by rw [beq_iff_eq]; omega
     have HR0 := qhZ hr0
     clear hr0 hcond
     go_wp2
     obtain ⟨W5, hW5⟩ : ∃ W5, (w4.setCell ⟨b, 6, none⟩ (.int .i64 ((hops : Int) + 1))).alloc (.cells #[.int .i64 3, .int .i64 y.mode, .int .i64 y.uid, .int .i64 y.gid, .int .i64 y.time, .string s, .slice o3 y.list.length c3] 55) = W5 := ⟨_, rfl⟩
     have hsz5 : w4.heap.size < W5.heap.size := by rw [← hW5]; simp
     have hb5 : W5.heap[b]? = some (.cells (bD9 (some ⟨gg, off, none⟩) f.nodes.length c f.room u g node (.slice (some ⟨pg, po + 1, none⟩) r.length (pc - 1)) (hops + 1)) 140 (0, 0)) := by rw [← hW5]; exact (Below.heap_alloc _ _ b (by simpa using hsz4)).trans (heap_setCell_same w4 b 6 _ _ (.int .i64 ((hops : Int) + 1)) HB4.out)
     have hY5 : W5.heap[w4.heap.size]? = some (.cells #[.int .i64 3, .int .i64 y.mode, .int .i64 y.uid, .int .i64 y.gid, .int .i64 y.time, .string s, .slice o3 y.list.length c3] 55) := by rw [← hW5]; have h7 := heap_alloc_new (w4.setCell ⟨b, 6, none⟩ (.int .i64 ((hops : Int) + 1))) (.cells #[.int .i64 3, .int .i64 y.mode, .int .i64 y.uid, .int .i64 y.gid, .int .i64 y.time, .string s, .slice o3 y.list.length c3] 55); simpa using h7
     have hO5 : OnlyG w W5 b := by rw [← hW5]; exact (HO4.out.set 6 _).trans (OnlyG.below b ((Below.refl _ _).alloc (Nat.le_refl _) _))
     have hBb5 : Below b w W5 := by rw [← hW5]; exact (HBb4.out.setCell (p := ⟨b, 6, none⟩) (Nat.le_refl _) _).alloc (by simp; omega) _
     rw [hW5]
     clear hW5 i0 i4 i5 i5a i6 i4f i6f v0 v1 v2 v3 v4 v5 v6
     have HR5 := qhZ (rd_kept (HT2.out) hO5 hpb)
     have HK5 : Hid (W5.drew.heap[b]? = _) := qhZ hb5
     have HY5 : Hid (W5.drew.heap[w4.heap.size]? = _) := qhZ hY5
     have HO5 := qhZ (hO5.trans (OnlyG.below b (Below.refl _ W5).drew))
     have HBb5 := qhZ hBb5.drew
     have HR5d := qhZ (HR5.out.below (Below.refl _ W5).drew)
     have e5 : W5.drew.cell? ⟨b, 5, none⟩ = some (.slice (some ⟨pg, po + 1, none⟩) r.length (pc - 1)) := aA9 HK5.out 5
     have y5 : W5.drew.cell? ⟨w4.heap.size, 5, none⟩ = some (.string s) := aA9 HY5.out 5
     obtain ⟨i9, hi9, hz0, hz1, hz2⟩ := info_parts strInfo
     have hpl9 : (parts s.data.toList).length ≤ 61 := by have h7 := parts_le s.data.toList; rw [aW9] at h7; omega
     have hO5s := hO5.1
     clear hb5 hY5 hO5 hBb5
     go_region_law (first
       | (refine aN9 _ rfl (.tmp 118) (.tmp 122) 97 rfl W5.heap.size 9 i9 (.string ⟨#[]⟩) 1 16 Tryz.underlying97 hi9 hz0 hz1 hz2 rfl (by decide) vP (parts s.data.toList).length (strs (parts s.data.toList)) (by simp [Act.eval, Act.put]) HLP.out ⟨pg, po + 1, none⟩ r.length (pc - 1) (strs r) (by simp [Act.eval, Act.put]) (by simp [strs]) (rd_news HRP.out) (strs_one r) (by unfold maxLen; omega) (by omega) hszP ?_; intro oo cap wA hown hgrow hoo; have hrow : ∀ i, i < W5.heap.size → some i ≠ vP.ownBlock := fun i hi e => (by have h7 := (World.ownsRow.lt HLP.out i e.symm).1; exact absurd hi (Nat.not_lt.2 h7)); have HKA := qhZ ((hgrow.block b (aB9 HKP.out) (hrow b (by omega))).trans HKP.out); have HYA := qhZ ((hgrow.block w4.heap.size (aB9 HYP.out) (hrow _ hsz5)).trans HYP.out); have HOA := qhZ (only_grown HOP.out hgrow (fun i hi => hrow i (by have h7 := hO5s; omega))); have HBbA := qhZ (HBbP.out.grown hgrow (Nat.le_of_lt (aB9 HKP.out)) (fun j ej => by have h7 := (World.ownsRow.lt HLP.out j ej).1; have h8 : W5.heap.size ≤ j := h7; omega)); have eA : wA.cell? ⟨b, 5, none⟩ = some (.slice (some ⟨pg, po + 1, none⟩) r.length (pc - 1)) := aA9 HKA.out 5; have fA := aE9 HKA.out 5; have e4A : wA.cell? ⟨b, 4, none⟩ = some (.int .i64 (node : Int)) := aA9 HKA.out 4; have f4A := aE9 HKA.out 4; have yA : wA.cell? ⟨w4.heap.size, 5, none⟩ = some (.string s) := aA9 HYA.out 5; have HLA := qhZ hown; have HOO := qhZ hoo; clear hown hgrow hoo hrow)
       | (go_simp; go_at_call 76; refine (l2Parts_any s _ (by omega)).mono ?_; rintro e wP ⟨vP, rfl, hLP, hbP⟩; have HLP := qhZ hLP; have HRP := qhZ (HR5d.out.below hbP); have hszP := hbP.size; have HKP := qhZ ((hbP.block b (aB9 HK5.out)).trans HK5.out); have HYP := qhZ ((hbP.block w4.heap.size (aB9 HY5.out)).trans HY5.out); have HOP := qhZ (HO5.out.trans (OnlyG.below b hbP)); have HBbP := qhZ (HBb5.out.trans (hbP.mono (Nat.le_trans (Nat.le_of_lt hbs) HBb5.out.size))); have eP : wP.cell? ⟨b, 5, none⟩ = some (.slice (some ⟨pg, po + 1, none⟩) r.length (pc - 1)) := aA9 HKP.out 5; have fP := aE9 HKP.out 5; clear hLP hbP))
     all_goals
       have HDN : Hid (parts s.data.toList = parts (aC9 f.nodes m2).data) := qhZ (by rw [HSL.out, HY.out])
       go_wp2
       go_ret
       have hoff : ∀ a l k, Value.slice oo ((parts s.data.toList).length + r.length) cap = .slice (some a) l k → a.block ≠ b := fun a l k e => by
         simp only [Value.slice.injEq] at e
         obtain ⟨g, rfl, hg9, -⟩ := HOO.out a e.1
         simp only
         omega
       refine ⟨rfl, .slice oo ((parts s.data.toList).length + r.length) cap, heap_setCell_same _ b 4 _ _ (.int .i64 0) (heap_setCell_same wA b 5 _ _ _ HKA.out), ?_, hoff, (HBbA.out.setCell (p := ⟨b, 5, none⟩) (Nat.le_refl _) _).setCell (p := ⟨b, 4, none⟩) (Nat.le_refl _) _⟩
       have h7 : Rd wA (.slice oo ((parts s.data.toList).length + r.length) cap) (parts s.data.toList ++ r) := (lst_app HLA.out).read
       rw [HDN.out] at h7
       rw [HDN.out] at hoff
       rw [HDN.out]
       exact rd_keptV h7 (((OnlyG.below b (Below.refl _ wA)).set 5 _).set 4 _) hoff
   have hr0b : ((r.length : Int) == 0) = false := by rw [beq_eq_false_iff_ne]; omega
   go_wp2
   obtain ⟨W5, hW5⟩ : ∃ W5, (w4.setCell ⟨b, 6, none⟩ (.int .i64 ((hops : Int) + 1))).alloc (.cells #[.int .i64 3, .int .i64 y.mode, .int .i64 y.uid, .int .i64 y.gid, .int .i64 y.time, .string s, .slice o3 y.list.length c3] 55) = W5 := ⟨_, rfl⟩
   have hsz5 : w4.heap.size < W5.heap.size := by rw [← hW5]; simp
   have hb5 : W5.heap[b]? = some (.cells (bD9 (some ⟨gg, off, none⟩) f.nodes.length c f.room u g node (.slice (some ⟨pg, po + 1, none⟩) r.length (pc - 1)) (hops + 1)) 140 (0, 0)) := by rw [← hW5]; exact (Below.heap_alloc _ _ b (by simpa using hsz4)).trans (heap_setCell_same w4 b 6 _ _ (.int .i64 ((hops : Int) + 1)) HB4.out)
   have hY5 : W5.heap[w4.heap.size]? = some (.cells #[.int .i64 3, .int .i64 y.mode, .int .i64 y.uid, .int .i64 y.gid, .int .i64 y.time, .string s, .slice o3 y.list.length c3] 55) := by rw [← hW5]; have h7 := heap_alloc_new (w4.setCell ⟨b, 6, none⟩ (.int .i64 ((hops : Int) + 1))) (.cells #[.int .i64 3, .int .i64 y.mode, .int .i64 y.uid, .int .i64 y.gid, .int .i64 y.time, .string s, .slice o3 y.list.length c3] 55); simpa using h7
   have hO5 : OnlyG w W5 b := by rw [← hW5]; exact (HO4.out.set 6 _).trans (OnlyG.below b ((Below.refl _ _).alloc (Nat.le_refl _) _))
   have hBb5 : Below b w W5 := by rw [← hW5]; exact (HBb4.out.setCell (p := ⟨b, 6, none⟩) (Nat.le_refl _) _).alloc (by simp; omega) _
   rw [hW5]
   clear hW5 i0 i4 i5 i5a i6 i4f i6f v0 v1 v2 v3 v4 v5 v6
   have HR5 := qhZ (rd_kept (HT2.out) hO5 hpb)
   have HK5 : Hid (W5.drew.heap[b]? = _) := qhZ hb5
   have HY5 : Hid (W5.drew.heap[w4.heap.size]? = _) := qhZ hY5
   have HO5 := qhZ (hO5.trans (OnlyG.below b (Below.refl _ W5).drew))
   have HBb5 := qhZ hBb5.drew
   have HR5d := qhZ (HR5.out.below (Below.refl _ W5).drew)
   have e5 : W5.drew.cell? ⟨b, 5, none⟩ = some (.slice (some ⟨pg, po + 1, none⟩) r.length (pc - 1)) := aA9 HK5.out 5
   have y5 : W5.drew.cell? ⟨w4.heap.size, 5, none⟩ = some (.string s) := aA9 HY5.out 5
   obtain ⟨i9, hi9, hz0, hz1, hz2⟩ := info_parts strInfo
   have hpl9 : (parts s.data.toList).length ≤ 61 := by have h7 := parts_le s.data.toList; rw [aW9] at h7; omega
   have hO5s := hO5.1
   clear hb5 hY5 hO5 hBb5
   go_region_law (first
     | (refine aN9 _ rfl (.tmp 118) (.tmp 122) 97 rfl W5.heap.size 9 i9 (.string ⟨#[]⟩) 1 16 Tryz.underlying97 hi9 hz0 hz1 hz2 rfl (by decide) vP (parts s.data.toList).length (strs (parts s.data.toList)) (by simp [Act.eval, Act.put]) HLP.out ⟨pg, po + 1, none⟩ r.length (pc - 1) (strs r) (by simp [Act.eval, Act.put]) (by simp [strs]) (rd_news HRP.out) (strs_one r) (by unfold maxLen; omega) (by omega) hszP ?_; intro oo cap wA hown hgrow hoo; have hrow : ∀ i, i < W5.heap.size → some i ≠ vP.ownBlock := fun i hi e => (by have h7 := (World.ownsRow.lt HLP.out i e.symm).1; exact absurd hi (Nat.not_lt.2 h7)); have HKA := qhZ ((hgrow.block b (aB9 HKP.out) (hrow b (by omega))).trans HKP.out); have HYA := qhZ ((hgrow.block w4.heap.size (aB9 HYP.out) (hrow _ hsz5)).trans HYP.out); have HOA := qhZ (only_grown HOP.out hgrow (fun i hi => hrow i (by have h7 := hO5s; omega))); have HBbA := qhZ (HBbP.out.grown hgrow (Nat.le_of_lt (aB9 HKP.out)) (fun j ej => by have h7 := (World.ownsRow.lt HLP.out j ej).1; have h8 : W5.heap.size ≤ j := h7; omega)); have eA : wA.cell? ⟨b, 5, none⟩ = some (.slice (some ⟨pg, po + 1, none⟩) r.length (pc - 1)) := aA9 HKA.out 5; have fA := aE9 HKA.out 5; have e4A : wA.cell? ⟨b, 4, none⟩ = some (.int .i64 (node : Int)) := aA9 HKA.out 4; have f4A := aE9 HKA.out 4; have yA : wA.cell? ⟨w4.heap.size, 5, none⟩ = some (.string s) := aA9 HYA.out 5; have HLA := qhZ hown; have HOO := qhZ hoo; clear hown hgrow hoo hrow)
     | (go_simp; go_at_call 76; refine (l2Parts_any s _ (by omega)).mono ?_; rintro e wP ⟨vP, rfl, hLP, hbP⟩; have HLP := qhZ hLP; have HRP := qhZ (HR5d.out.below hbP); have hszP := hbP.size; have HKP := qhZ ((hbP.block b (aB9 HK5.out)).trans HK5.out); have HYP := qhZ ((hbP.block w4.heap.size (aB9 HY5.out)).trans HY5.out); have HOP := qhZ (HO5.out.trans (OnlyG.below b hbP)); have HBbP := qhZ (HBb5.out.trans (hbP.mono (Nat.le_trans (Nat.le_of_lt hbs) HBb5.out.size))); have eP : wP.cell? ⟨b, 5, none⟩ = some (.slice (some ⟨pg, po + 1, none⟩) r.length (pc - 1)) := aA9 HKP.out 5; have fP := aE9 HKP.out 5; clear hLP hbP))
   all_goals
     have HDN : Hid (parts s.data.toList = parts (aC9 f.nodes m2).data) := qhZ (by rw [HSL.out, HY.out])
     go_wp2
     go_ret
     have hoff : ∀ a l k, Value.slice oo ((parts s.data.toList).length + r.length) cap = .slice (some a) l k → a.block ≠ b := fun a l k e => by
       simp only [Value.slice.injEq] at e
       obtain ⟨g, rfl, hg9, -⟩ := HOO.out a e.1
       simp only
       omega
     refine ⟨rfl, .slice oo ((parts s.data.toList).length + r.length) cap, heap_setCell_same _ b 4 _ _ (.int .i64 0) (heap_setCell_same wA b 5 _ _ _ HKA.out), ?_, hoff, (HBbA.out.setCell (p := ⟨b, 5, none⟩) (Nat.le_refl _) _).setCell (p := ⟨b, 4, none⟩) (Nat.le_refl _) _⟩
     have h7 : Rd wA (.slice oo ((parts s.data.toList).length + r.length) cap) (parts s.data.toList ++ r) := (lst_app HLA.out).read
     rw [HDN.out] at h7
     rw [HDN.out] at hoff
     rw [HDN.out]
     exact rd_keptV h7 (((OnlyG.below b (Below.refl _ wA)).set 5 _).set 4 _) hoff
def LkAt (w : World) (b : Nat) (o : Option Addr) (n c : Nat) (room u g : Int) (s : Lk) : Prop :=
 ∃ pv, w.heap[b]? = some (.cells (bD9 o n c room u g s.node pv s.hops) 140 (0, 0)) ∧ Rd w pv s.parts ∧ ∀ a l k, pv = .slice (some a) l k → a.block ≠ b
def LinkLen (ns : List Nod) : Prop := ∀ i, i < ns.length → (aC9 ns i).kind = 3 → 0 < (aC9 ns i).data.length ∧ (aC9 ns i).data.length ≤ 60
theorem atE_in {ns : List Nod} (hld : Lead ns) {node : Nat} (hn : node < ns.length) {p : List UInt8} (h : ¬ atE (aC9 ns node).list p < 0) : ∃ m : Nat, atE (aC9 ns node).list p = m ∧ m < ns.length := by
 have key : ∀ es : List Ent, (∀ e ∈ es, 0 ≤ e.node ∧ e.node < ns.length) → ¬ atE es p < 0 → ∃ m : Nat, atE es p = m ∧ m < ns.length := by
   intro es
   induction es with
   | nil => intro _ h; exact absurd (show (-1 : Int) < 0 by decide) h
   | cons e es ih =>
     intro hl h
     rw [atE] at h ⊢
     by_cases he : e.name = p
     · rw [if_pos he]
       have := hl e (by simp)
       exact ⟨e.node.toNat, by omega, by omega⟩
     · rw [if_neg he] at h ⊢
       exact ih (fun x hx => hl x (by simp [hx])) h
 have e1 : aC9 ns node = ns[node] := aR9 hn
 exact key _ (by rw [e1]; exact hld _ (List.getElem_mem hn)) h
theorem step_any (f : FsD) (o : Option Addr) (c : Nat) (u g : Int) (fol : Bool) (b node hops : Nat) (p : List UInt8) (r : List (List UInt8)) (w0 w : World) (hF : LookFs f) (hLL : LinkLen f.nodes)
   (hN0 : NodsA w0 (.slice o f.nodes.length c) f.nodes) (hB0 : Below w0.heap.size w0 w) (hb0 : w0.heap.size ≤ b) (hL : LkAt w b o f.nodes.length c f.room u g ⟨node, p :: r, hops⟩) (hn : node < f.nodes.length) (hh : hops ≤ 8) (hrl : r.length ≤ 1000) :
   Calls Tryz.prog 114 #[.pointer (some ⟨b, 0, none⟩), .bool fol] w fun e w' => e = .returned (.int .i64 (lkStep f.nodes u g fol node p r hops).1) ∧ Below b w w' ∧ ((lkStep f.nodes u g fol node p r hops).1 = 0 → LkAt w' b o f.nodes.length c f.room u g (lkStep f.nodes u g fol node p r hops).2) := by
 obtain ⟨pv, hb, hR, hoff⟩ := hL
 simp only at hb hR
 obtain ⟨po', pc, e, h1, h2, h3⟩ := id hR
 obtain ⟨pg, po, e2, -, -⟩ := h3 0 (by simp)
 subst e2
 subst e
 have hpb : pg ≠ b := hoff _ _ _ rfl
 have hbl := aB9 hb
 have hs : f.nodes.length ≤ 1048576 := (aG9 hF.size).1
 have hb' : w.heap[b]? = some (.cells (bD9 o f.nodes.length c f.room u g node (.slice (some ⟨pg, po, none⟩) (r.length + 1) pc) hops) 140 (0, 0)) := hb
 unfold lkStep
 by_cases k1 : (aC9 f.nodes node).kind ≠ 2
 · rw [if_pos k1]
   refine (step_no f o c u g fol b node hops _ w (hN0.below hB0) hb' hn hs k1).mono fun e w' ⟨h, h'⟩ => ⟨h, h'.mono (Nat.le_of_lt hbl), fun e => absurd e (by decide)⟩
 rw [if_neg k1]
 have hk : (aC9 f.nodes node).kind = 2 := by simpa using k1
 by_cases k2 : mayB u g (aC9 f.nodes node).mode (aC9 f.nodes node).uid (aC9 f.nodes node).gid 1 = false
 · rw [if_pos k2]
   refine (step_may f o c u g fol b node hops p r pg po pc w0 w hF hN0 hB0 hb0 hb' hn hR hpb hrl hk k2).mono fun e w' ⟨h, h'⟩ => ⟨h, h'.mono (Nat.le_of_lt hbl), fun e => absurd e (by decide)⟩
 rw [if_neg k2]
 have hmay : mayB u g (aC9 f.nodes node).mode (aC9 f.nodes node).uid (aC9 f.nodes node).gid 1 = true := by simpa using k2
 by_cases k3 : p = [46]
 · rw [if_pos k3]
   refine (step_dot f o c u g fol b node hops p r pg po pc w0 w hF hN0 hB0 hb0 hb' hn hR hpb hrl hk hmay k3).mono fun e w' ⟨h, pv', q1, q2, q3, q4⟩ => ⟨h, q4, fun _ => ⟨pv', q1, q2, q3⟩⟩
 rw [if_neg k3]
 by_cases k4 : p = [46, 46]
 · rw [if_pos k4]
   refine (step_up f o c u g fol b node hops p r pg po pc w0 w hF hN0 hB0 hb0 hb' hn hR hpb hrl hk hmay k4).mono fun e w' ⟨h, pv', q1, q2, q3, q4⟩ => ⟨h, q4, fun _ => ⟨pv', q1, q2, q3⟩⟩
 rw [if_neg k4]
 by_cases k5 : atE (aC9 f.nodes node).list p < 0
 · rw [if_pos k5]
   refine (step_none f o c u g fol b node hops p r pg po pc w0 w hF hN0 hB0 hb0 hb' hn hR hpb hrl hk hmay k3 k4 k5).mono fun e w' ⟨h, h'⟩ => ⟨h, h', fun e => absurd e (by decide)⟩
 rw [if_neg k5]
 obtain ⟨m2, hat, hm2⟩ := atE_in hF.lead hn k5
 have hmn : (atE (aC9 f.nodes node).list p).toNat = m2 := by rw [hat]; simp
 rw [hmn]
 by_cases k6 : (aC9 f.nodes m2).kind ≠ 3 ∨ (r = [] ∧ fol = false)
 · rw [if_pos k6]
   by_cases k7 : (aC9 f.nodes m2).kind = 3
   · obtain ⟨hrn, hfo⟩ : r = [] ∧ fol = false := by
       rcases k6 with h | h
       · exact absurd k7 h
       · exact h
     refine (step_last f o c u g fol b node hops p r pg po pc w0 w hF hN0 hB0 hb0 hb' hn hR hpb hrl hk hmay k3 k4 m2 hat hm2 k7 hrn hfo).mono fun e w' ⟨h, pv', q1, q2, q3, q4⟩ => ⟨h, q4, fun _ => ⟨pv', q1, q2, q3⟩⟩
   · refine (step_next f o c u g fol b node hops p r pg po pc w0 w hF hN0 hB0 hb0 hb' hn hR hpb hrl hk hmay k3 k4 m2 hat hm2 k7).mono fun e w' ⟨h, pv', q1, q2, q3, q4⟩ => ⟨h, q4, fun _ => ⟨pv', q1, q2, q3⟩⟩
 rw [if_neg k6]
 have hk3 : (aC9 f.nodes m2).kind = 3 := by
   by_cases h : (aC9 f.nodes m2).kind = 3
   · exact h
   · exact absurd (.inl h) k6
 have hrf : r ≠ [] ∨ fol = true := by
   by_cases h : r = []
   · right
     cases hfo : fol with
     | true => rfl
     | false => exact absurd (.inr ⟨h, hfo⟩) k6
   · exact .inl h
 by_cases k8 : hops = 8
 · rw [if_pos k8]
   refine (step_loop f o c u g fol b node hops p r pg po pc w0 w hF hN0 hB0 hb0 hb' hn hR hpb hrl hk hmay k3 k4 m2 hat hm2 hk3 hrf k8).mono fun e w' ⟨h, h'⟩ => ⟨h, h', fun e => absurd e (by decide)⟩
 rw [if_neg k8]
 have hlt : hops < 8 := by omega
 cases hw : wholeB (aC9 f.nodes m2).data with
 | true =>
   rw [if_pos rfl]
   refine (step_linkw f o c u g fol b node hops p r pg po pc w0 w hF hN0 hB0 hb0 hb' hn hR hpb hrl hk hmay k3 k4 m2 hat hm2 hk3 hrf hlt (hLL m2 hm2 hk3) hw).mono fun e w' ⟨h, pv', q1, q2, q3, q4⟩ => ⟨h, q4, fun _ => ⟨pv', q1, q2, q3⟩⟩
 | false =>
   rw [if_neg (by simp)]
   refine (step_link f o c u g fol b node hops p r pg po pc w0 w hF hN0 hB0 hb0 hb' hn hR hpb hrl hk hmay k3 k4 m2 hat hm2 hk3 hrf hlt (hLL m2 hm2 hk3) hw).mono fun e w' ⟨h, pv', q1, q2, q3, q4⟩ => ⟨h, q4, fun _ => ⟨pv', q1, q2, q3⟩⟩
theorem parentOf_lt {ns : List Nod} (hp : 0 < ns.length) (i : Int) : parentOf i ns < ns.length := by
 unfold parentOf
 split
 · rename_i k hk
   have := List.findIdx?_eq_some_iff_getElem.1 hk
   exact this.1
 · exact hp
structure LkInv (ns : List Nod) (s : Lk) : Prop where
 node : s.node < ns.length
 hops : s.hops ≤ 8
 parts : s.parts.length ≤ 61 * (s.hops + 1)
theorem lkInv_step {ns : List Nod} (hf : LinksFit ns) (hld : Lead ns) (hp : 0 < ns.length) {u g : Int} {fol : Bool} {node : Nat} {p : List UInt8} {r : List (List UInt8)} {hops : Nat} (h : LkInv ns ⟨node, p :: r, hops⟩) (h0 : (lkStep ns u g fol node p r hops).1 = 0) : LkInv ns (lkStep ns u g fol node p r hops).2 := by
 have hn : node < ns.length := h.node
 have hh : hops ≤ 8 := h.hops
 have hpl : r.length + 1 ≤ 61 * (hops + 1) := h.parts
 unfold lkStep at h0 ⊢
 by_cases h1 : (aC9 ns node).kind ≠ 2
 · rw [if_pos h1] at h0; simp at h0
 rw [if_neg h1] at h0 ⊢
 by_cases h2 : mayB u g (aC9 ns node).mode (aC9 ns node).uid (aC9 ns node).gid 1 = false
 · rw [if_pos h2] at h0; simp at h0
 rw [if_neg h2] at h0 ⊢
 by_cases h3 : p = [46]
 · rw [if_pos h3]; exact ⟨hn, hh, by simp only; omega⟩
 rw [if_neg h3] at h0 ⊢
 by_cases h4 : p = [46, 46]
 · rw [if_pos h4]; exact ⟨parentOf_lt hp _, hh, by simp only; omega⟩
 rw [if_neg h4] at h0 ⊢
 by_cases h5 : atE (aC9 ns node).list p < 0
 · rw [if_pos h5] at h0; simp at h0
 rw [if_neg h5] at h0 ⊢
 obtain ⟨m2, hat, hm2⟩ := atE_in hld hn h5
 have hmn : (atE (aC9 ns node).list p).toNat = m2 := by rw [hat]; simp
 rw [hmn] at h0 ⊢
 by_cases h6 : (aC9 ns m2).kind ≠ 3 ∨ (r = [] ∧ fol = false)
 · rw [if_pos h6]; exact ⟨hm2, hh, by simp only; omega⟩
 rw [if_neg h6] at h0 ⊢
 by_cases h7 : hops = 8
 · rw [if_pos h7] at h0; simp at h0
 rw [if_neg h7]
 have h8 := hf m2 (by
   by_cases hk : (aC9 ns m2).kind = 3
   · exact hk
   · exact absurd (.inl hk) h6)
 refine ⟨by simp only; split <;> omega, by simp only; omega, by simp only [List.length_append]; omega⟩
def lkMeas (b : Nat) (w : World) : Nat := match w.heap[b]? with
 | some (.cells cs _ _) => (8 - (intOf (cs.getD 6 undef)).toNat) * 64 + (match cs.getD 5 undef with
   | .slice _ n _ => n
   | _ => 0)
 | _ => 0
theorem lkMeas_is {w : World} {b : Nat} {o : Option Addr} {n c : Nat} {room u g : Int} {s : Lk} (h : LkAt w b o n c room u g s) : lkMeas b w = lkW s := by
 obtain ⟨pv, hb, ⟨o2, c2, rfl, -, -, -⟩, -⟩ := h
 unfold lkMeas lkW
 rw [hb]
 simp [bD9, intOf]
theorem LkAt.below {w w' : World} {b : Nat} {o : Option Addr} {n c : Nat} {room u g : Int} {s : Lk} (h : LkAt w b o n c room u g s) (hb : Below w.heap.size w w') : LkAt w' b o n c room u g s := by
 obtain ⟨pv, h1, h2, h3⟩ := h
 exact ⟨pv, (hb.block b (aB9 h1)).trans h1, h2.below hb, h3⟩
theorem slash_at {s : ByteArray} (h : 0 < s.size) : slashB s.data.toList = decide ((s[s.size - 1]'(by omega)) = 47) := by
 have hl := aW9 s
 unfold slashB
 have : s.data.toList.getLast? = some (s[s.size - 1]'(by omega)) := by
   rw [List.getLast?_eq_getElem?, List.getElem?_eq_getElem (by omega)]
   simp only [hl]
   rfl
 rw [this, Bool.eq_iff_iff]
 simp
end Go.Proofs.YtknhacblialboaaGreatDoor
namespace Go.Proofs.YtknhacblialboaaGreatDoor
open Go.RowKit Go.Shelf
set_option linter.unusedVariables false
set_option linter.unusedSimpArgs false
set_option maxHeartbeats 16000000
attribute [local go_sem] Oper.semAt_some
def got (xs : List ByteArray) : List (List UInt8) := xs.map fun x => x.data.toList
theorem got_snoc (xs : List ByteArray) (x : ByteArray) : got (xs ++ [x]) = got xs ++ [x.data.toList] := by simp [got]
theorem got_parts (ps : List (List UInt8)) : got (ps.map bs) = ps := by
 unfold got
 rw [List.map_map]
 conv => rhs; rw [← List.map_id ps]
 exact List.map_congr_left fun p _ => aY9 p
theorem got_len (xs : List ByteArray) : (got xs).length = xs.length := by simp [got]
set_option maxRecDepth 100000 in
theorem appendSeq_any (s : ByteArray) (b : Nat) (w : World) (hs : s.size ≤ 1073741824) (hb : b < w.heap.size) (hc : w.cell? ⟨b, 0, none⟩ = some (.string s)) :
   Calls Tryz.prog 172 #[.slice none 0 0, .func (.func 173) #[] #[.pointer (some ⟨b, 0, none⟩)]] w fun e w' => ∃ v, e = .returned v ∧ Lst w' w.heap.size v (parts s.data.toList) ∧ Below w.heap.size w w' := by
 obtain ⟨i0, hi, hz0, hz1, hz2⟩ := info_parts strInfo
 have hpl := parts_le s.data.toList
 rw [aW9] at hpl
 refine (callsIn_wide (n := 6)).1 ?_
 refine callsIn_of_wp_marks Tryz.func172 rfl trivial ?_ rfl
 simp only [Tryz.ntmps172, List.size_toArray, List.length_cons, List.length_nil, Nat.reduceAdd, Nat.reduceSub, Array.replicate_succ, Array.replicate_zero, List.push_toArray, List.append_toArray, List.nil_append, List.cons_append]
 gi_wp2
 have bK := Boxed.new w 97 (.slice none 0 0)
 have hB0 : Below w.heap.size w (w.alloc (.cells #[.slice none 0 0] 97)) := (Below.refl _ w).alloc (Nat.le_refl _) _
 have hc0 : (w.alloc (.cells #[.slice none 0 0] 97)).cell? ⟨b, 0, none⟩ = some (.string s) := (hB0.cell (p := ⟨b, 0, none⟩) hb).trans hc
 refine wpIn_rangeFunc_ownF rfl (by omega) (gf := 173) (lb := #[.pointer (some ⟨b, 0, none⟩)]) rfl trivial (enters_of Tryz.func173 (by kernel_rfl) rfl)
   (iter_stops Fence.wide (6 - 1) trivial rfl (by omega) b s (by unfold maxLen; omega) _ (by simp; omega) hc0) kpB_t (kpB_b (by simp; omega)) (Below.refl _ _) (fun _ => rfl)
   (fun pre W => (∃ v, Boxed W w.heap.size 97 v ∧ W.ownsRow w.heap.size 9 1 v (got pre).length (strs (got pre)) ∧ True) ∧ Below w.heap.size w W)
   (fun _ _ _ => False)
   (OwnFrom.and (Own.from (holdsRow_own w.heap.size w.heap.size 97 9 1 (fun pre => (got pre).length) (fun pre => strs (got pre)) (fun _ _ => True)) _) (ownFrom_below (Nat.le_refl _) (by simp)))
   (fun _ _ _ _ _ hs _ _ => hs)
   ⟨⟨_, bK, World.ownsRow_nil _ _ _ _, trivial⟩, hB0⟩
   ?a1 ?assign ?body ?done ?stop
 case assign =>
   intro l x W K hK
   gi_wp2
   exact hK
 case body =>
   rintro l pre x W ⟨⟨v, hv, hrow, _⟩, hB⟩ hlt
   have hgl := got_len pre
   have HE := qhZ (got_snoc pre x)
   have hcK := hv.cell
   have hsW := hB.size
   obtain ⟨cs, hcs⟩ : ∃ cs, cs = got pre := ⟨_, rfl⟩
   rw [← hcs] at hrow hgl HE
   have hgl' : cs.length ≤ pre.length := by omega
   clear hgl hcs
   gi_wp2_with (gi_at_builtin; refine wpListIn_append_own _ rfl _ _ 97 rfl w.heap.size 9 i0 (.string ⟨#[]⟩) 1 16 Tryz.underlying97 hi hz0 hz1 hz2 rfl (by decide) _ _ _ rfl (hrow.alloc _) ⟨W.heap.size, 0, none⟩ 1 1 [.string x] rfl rfl (cell_one_new _ _ _) (by simp [Value.oneCell']) (by unfold maxLen; omega) (by omega) (by simp; omega) ?_; intro v' w1 hown' hgrow _; obtain ⟨g', cap', rfl⟩ := ownsRow_succ hown'; obtain ⟨hv1, hv2, hr2, hk2, hb2⟩ := hv.appended (by decide) hrow hB.size (Nat.le_refl _) hown' hgrow; have hcK1 := hv1.cell; have hfK1 := hv1.frozen)
   exact ⟨hk2, ⟨hk2.walks, hb2.cell (p := ⟨b, 0, none⟩) hb⟩, ⟨_, hv2, by rw [HE.out]; exact Lst.snoc (bs_of x).symm hr2, trivial⟩, hB.trans hb2⟩
 case done =>
   rintro D ys W hD rfl ⟨⟨v, hv, hrow, _⟩, hB⟩ hK
   have HR : Lst W w.heap.size v (parts s.data.toList) := by
     have h0 : Lst W w.heap.size v (got ((parts s.data.toList).map bs)) := hrow
     rwa [got_parts] at h0
   clear hrow
   have hc := hv.cell
   gi_wp2
   refine ⟨by simp, .inl ⟨_, _, rfl, run_takeDeferred hK, ?_⟩⟩
   exact ⟨_, results_tmp rfl _ _ _, v, rfl, ownsRow_putObj HR _ hK rfl, hB.trans (belowK_b (w := w) (Nat.le_refl _) W D _ _ (by simp at hD; omega) hK rfl rfl)⟩
 case stop =>
   rintro D c pre W _ _ h _
   exact h.elim
theorem collect_any (s : ByteArray) (b : Nat) (w : World) (hs : s.size ≤ 1073741824) (hb : b < w.heap.size) (hc : w.cell? ⟨b, 0, none⟩ = some (.string s)) :
   Calls Tryz.prog 150 #[.func (.func 173) #[] #[.pointer (some ⟨b, 0, none⟩)]] w fun e w' => ∃ v, e = .returned v ∧ Lst w' w.heap.size v (parts s.data.toList) ∧ Below w.heap.size w w' := by
 go_enter Tryz.func150, Tryz.ntmps150
 go_wp2_with fail
 refine (appendSeq_any s b w hs hb hc).mono ?_
 rintro e w1 ⟨v, rfl, hL, hb1⟩
 go_wp2
 go_ret
 exact ⟨v, rfl, hL, hb1⟩
theorem whole_size {s : ByteArray} (h : 0 < s.size) : wholeB s.data.toList = decide ((s[0]'h) = 47) := by
 have hl := aW9 s
 unfold wholeB
 have : s.data.toList.head? = some (s[0]'h) := by
   rw [List.head?_eq_getElem?, List.getElem?_eq_getElem (by omega)]
   rfl
 rw [this, Bool.eq_iff_iff]
 simp
theorem cut_one {s : ByteArray} (h : 0 < s.size) : ((s.extract 0 1).toList == [47]) = wholeB s.data.toList := by
 rw [whole_size h, ByteArray.toList_eq, Bool.eq_iff_iff]
 have hs : s.data.toList.length = s.size := aW9 s
 have : (s.extract 0 1).data.toList = [s[0]'h] := by
   apply List.ext_getElem?
   intro i
   rcases i with _ | i
   · simp [ByteArray.data_extract, h]; rfl
   · simp [ByteArray.data_extract]; omega
 rw [this]
 simp
theorem isWhole_any (s : ByteArray) (w : World) : Calls Tryz.prog 147 #[.string s] w fun e w' => e = .returned (.bool (wholeB s.data.toList)) ∧ w = w' := by
 by_cases h0 : 0 < s.size
 · have HC := qhZ (cut_one h0)
   have h1 : (1 : Int) ≤ (s.size : Int) := by omega
   go_enter Tryz.func147, Tryz.ntmps147
   go_wp2
   go_ret
   exact ⟨by rw [← HC.out]; rfl, rfl⟩
 · have HE : Hid (wholeB s.data.toList = false) := qhZ (by
     have : s.data.toList = [] := List.eq_nil_of_length_eq_zero (by rw [aW9]; omega)
     rw [this]; rfl)
   have h1 : ¬ (1 : Int) ≤ (s.size : Int) := by omega
   go_enter Tryz.func147, Tryz.ntmps147
   go_wp2
   go_ret
   exact ⟨by rw [HE.out]; rfl, rfl⟩
theorem isWholePath_any (s : ByteArray) (w : World) (hs : s.size ≤ 1073741824) : Calls Tryz.prog 115 #[.string s] w fun e w' => e = .returned (.bool (wgB s.data.toList)) ∧ Below w.heap.size w w' := by
 by_cases hw : wholeB s.data.toList = true
 · have HW := qhZ hw
   have HE : Hid (wgB s.data.toList = goodB s.data.toList) := qhZ (by simp [wgB, hw])
   clear hw
   go_enter Tryz.func115, Tryz.ntmps115
   go_wp2_with fail
   refine (isWhole_any _ _).mono ?_
   rintro e w1 ⟨rfl, rfl⟩
   rw [HW.out]
   go_wp2_with fail
   refine (goodPath_any _ _ (by unfold maxLen; omega)).mono ?_
   rintro e w2 ⟨rfl, hb⟩
   go_wp2
   go_ret
   exact ⟨aK9 HE.out.symm, hb⟩
 · have HW := qhZ (show wholeB s.data.toList = false by simpa using hw)
   have HE : Hid (wgB s.data.toList = false) := qhZ (by simp [wgB, HW.out])
   clear hw
   go_enter Tryz.func115, Tryz.ntmps115
   go_wp2_with fail
   refine (isWhole_any _ _).mono ?_
   rintro e w1 ⟨rfl, rfl⟩
   rw [HW.out]
   go_wp2
   go_ret
   exact ⟨aK9 HE.out.symm, Below.refl _ _⟩
theorem cut_last {s : ByteArray} (h : 0 < s.size) : ((s.extract (s.size - 1) s.size).toList == [47]) = slashB s.data.toList := by
 rw [slash_at h, ByteArray.toList_eq, Bool.eq_iff_iff]
 have hs : s.data.toList.length = s.size := aW9 s
 have : (s.extract (s.size - 1) s.size).data.toList = [s[s.size - 1]'(by omega)] := by
   apply List.ext_getElem?
   intro i
   rcases i with _ | i
   · have h2 : s.size - 1 < s.data.size := by have : s.data.size = s.size := rfl; omega
     have h3 : (s[s.size - 1]'(by omega)) = s.data.toList[s.size - 1]'(by omega) := rfl
     rw [h3]
     simp [ByteArray.data_extract, List.getElem?_take, List.getElem?_drop, h]
     omega
   · have h2 : s.data.size = s.size := rfl
     simp [ByteArray.data_extract]; omega
 rw [this]
 simp
theorem hasSlash_any (s : ByteArray) (w : World) (h0 : 0 < s.size) (hs : s.size ≤ 1073741824) : Calls Tryz.prog 116 #[.string s, .string ⟨#[47]⟩] w fun e w' => e = .returned (.bool (slashB s.data.toList)) ∧ w = w' := by
 have HC := qhZ (cut_last h0)
 have h1 : (1 : Int) ≤ (s.size : Int) := by omega
 go_enter Tryz.func116, Tryz.ntmps116
 go_wp2
 go_ret
 exact ⟨by rw [← HC.out]; rfl, rfl⟩
end Go.Proofs.YtknhacblialboaaGreatDoor
namespace Go.Proofs.YtknhacblialboaaGreatDoor
open Go.ChangeShapes Go.WideShapes Go.ChangeAt Go.RowKit Go.Joins
set_option linter.unusedVariables false
set_option linter.unusedSimpArgs false
set_option maxHeartbeats 16000000
section
set_option maxHeartbeats 400000
theorem isRoom_any (n : Int) (w : World) : Calls Tryz.prog 132 #[.int .i64 n] w fun e w' => e = .returned (.bool (inB 0 1000 n)) ∧ w = w' := by
 by_cases h0 : 0 ≤ n
 · by_cases h1 : n ≤ 1000
   · go_enter Tryz.func132, Tryz.ntmps132
     go_wp2
     go_ret
     exact ⟨aK9 (inB_mk h0 h1), rfl⟩
   · go_enter Tryz.func132, Tryz.ntmps132
     go_wp2
     go_ret
     exact ⟨aK9 (inB_no (by omega)), rfl⟩
 · go_enter Tryz.func132, Tryz.ntmps132
   go_wp2
   go_ret
   exact ⟨aK9 (inB_no (by omega)), rfl⟩
theorem isTime_any (n : Int) (w : World) : Calls Tryz.prog 79 #[.int .i64 n] w fun e w' => e = .returned (.bool (inB 0 1000000 n)) ∧ w = w' := by
 by_cases h0 : 0 ≤ n
 · by_cases h1 : n ≤ 1000000
   · go_enter Tryz.func79, Tryz.ntmps79
     go_wp2
     go_ret
     exact ⟨aK9 (inB_mk h0 h1), rfl⟩
   · go_enter Tryz.func79, Tryz.ntmps79
     go_wp2
     go_ret
     exact ⟨aK9 (inB_no (by omega)), rfl⟩
 · go_enter Tryz.func79, Tryz.ntmps79
   go_wp2
   go_ret
   exact ⟨aK9 (inB_no (by omega)), rfl⟩
theorem isModeN_any (n : Int) (w : World) : Calls Tryz.prog 69 #[.int .i64 n] w fun e w' => e = .returned (.bool (inB 0 511 n)) ∧ w = w' := by
 by_cases h0 : 0 ≤ n
 · by_cases h1 : n ≤ 511
   · go_enter Tryz.func69, Tryz.ntmps69
     go_wp2
     go_ret
     exact ⟨aK9 (inB_mk h0 h1), rfl⟩
   · go_enter Tryz.func69, Tryz.ntmps69
     go_wp2
     go_ret
     exact ⟨aK9 (inB_no (by omega)), rfl⟩
 · go_enter Tryz.func69, Tryz.ntmps69
   go_wp2
   go_ret
   exact ⟨aK9 (inB_no (by omega)), rfl⟩
theorem isIdN_any (n : Int) (w : World) : Calls Tryz.prog 135 #[.int .i64 n] w fun e w' => e = .returned (.bool (inB 0 99 n)) ∧ w = w' := by
 by_cases h0 : 0 ≤ n
 · by_cases h1 : n ≤ 99
   · go_enter Tryz.func135, Tryz.ntmps135
     go_wp2
     go_ret
     exact ⟨aK9 (inB_mk h0 h1), rfl⟩
   · go_enter Tryz.func135, Tryz.ntmps135
     go_wp2
     go_ret
     exact ⟨aK9 (inB_no (by omega)), rfl⟩
 · go_enter Tryz.func135, Tryz.ntmps135
   go_wp2
   go_ret
   exact ⟨aK9 (inB_no (by omega)), rfl⟩
end
def attrB (q : Nod) : Bool := inB 0 511 q.mode && (inB 0 99 q.uid && (inB 0 99 q.gid && inB 0 1000000 q.time))
def noneB (q : Nod) : Bool := q.mode == 0 && (q.uid == 0 && (q.gid == 0 && q.time == 0))
theorem hasAttr_any (q : Nod) (lv : Value) (g p : Nat) (w : World) (hg : g < w.heap.size) (hc : NodC w g p lv q) : Calls Tryz.prog 223 #[.agg #[.pointer (some ⟨g, p, none⟩)]] w fun e w' => e = .returned (.bool (attrB q)) ∧ Below w.heap.size w w' := by
 have hB : ∀ o, Below w.heap.size w (w.alloc o) := fun o => (Below.refl _ _).alloc (Nat.le_refl _) _
 have HB := qhZ hB
 obtain ⟨d0, d1, d2, d3, d4, d5, d6⟩ := hc.below (hB (.cells #[.pointer (some ⟨g, p, none⟩)] 219)) hg
 clear hB
 go_enter Tryz.func223, Tryz.ntmps223
 go_wp2_with (first | (go_at_call 69; refine (isModeN_any _ _).mono ?_; rintro e w' ⟨rfl, rfl⟩) | (go_at_call 135; refine (isIdN_any _ _).mono ?_; rintro e w' ⟨rfl, rfl⟩) | (go_at_call 79; refine (isTime_any _ _).mono ?_; rintro e w' ⟨rfl, rfl⟩))
 all_goals
   go_ret
   refine ⟨aK9 ?_, HB.out _⟩
   simp [attrB, *]
theorem hasNone_any (q : Nod) (lv : Value) (g p : Nat) (w : World) (hg : g < w.heap.size) (hc : NodC w g p lv q) : Calls Tryz.prog 225 #[.agg #[.pointer (some ⟨g, p, none⟩)]] w fun e w' => e = .returned (.bool (noneB q)) ∧ Below w.heap.size w w' := by
 have hB : ∀ o, Below w.heap.size w (w.alloc o) := fun o => (Below.refl _ _).alloc (Nat.le_refl _) _
 have HB := qhZ hB
 obtain ⟨d0, d1, d2, d3, d4, d5, d6⟩ := hc.below (hB (.cells #[.pointer (some ⟨g, p, none⟩)] 219)) hg
 clear hB
 go_enter Tryz.func225, Tryz.ntmps225
 go_wp2
 all_goals
   go_ret
   refine ⟨aK9 ?_, HB.out _⟩
   simp [noneB, *]
theorem len_pos {l : List UInt8} : (decide (0 < (bs l).size)) = !l.isEmpty := by
 rw [bs_size]
 cases l <;> simp
theorem hasData_any (q : Nod) (lv : Value) (g p : Nat) (w : World) (hg : g < w.heap.size) (hc : NodC w g p lv q) : Calls Tryz.prog 226 #[.agg #[.pointer (some ⟨g, p, none⟩)]] w fun e w' => e = .returned (.bool (!q.data.isEmpty)) ∧ Below w.heap.size w w' := by
 have hB : ∀ o, Below w.heap.size w (w.alloc o) := fun o => (Below.refl _ _).alloc (Nat.le_refl _) _
 have HB := qhZ hB
 obtain ⟨d0, d1, d2, d3, d4, d5, d6⟩ := hc.below (hB (.cells #[.pointer (some ⟨g, p, none⟩)] 219)) hg
 have HL := qhZ (len_pos (l := q.data))
 clear hB
 go_enter Tryz.func226, Tryz.ntmps226
 go_wp2
 all_goals
   go_ret
   refine ⟨aK9 ?_, HB.out _⟩
   rw [← HL.out]
theorem hasList_any (q : Nod) (lv : Value) (g p : Nat) (w : World) (hg : g < w.heap.size) (hc : NodC w g p lv q) (hE : EntsA w lv q.list) : Calls Tryz.prog 227 #[.agg #[.pointer (some ⟨g, p, none⟩)]] w fun e w' => e = .returned (.bool (!q.list.isEmpty)) ∧ Below w.heap.size w w' := by
 have hB : ∀ o, Below w.heap.size w (w.alloc o) := fun o => (Below.refl _ _).alloc (Nat.le_refl _) _
 have HB := qhZ hB
 obtain ⟨o2, c2, rfl, -, -⟩ := hE
 obtain ⟨d0, d1, d2, d3, d4, d5, d6⟩ := hc.below (hB (.cells #[.pointer (some ⟨g, p, none⟩)] 219)) hg
 have HL : Hid (decide (0 < q.list.length) = !q.list.isEmpty) := qhZ (by cases q.list <;> simp)
 clear hB
 go_enter Tryz.func227, Tryz.ntmps227
 go_wp2
 all_goals
   go_ret
   refine ⟨aK9 ?_, HB.out _⟩
   rw [← HL.out]
theorem goodName_is {l : List UInt8} {b : Bool} (h : nameB l = b) (s : ByteArray) (hs : s = bs l) (w : World) : Calls Tryz.prog 162 #[.string s] w fun e w' => e = .returned (.bool b) ∧ Below w.heap.size w w' :=
 (goodName_any s w).mono fun e w' ⟨h1, h2⟩ => ⟨by rw [h1, hs, ← h]; simp [bs], h2⟩
theorem isGoodEntry_any (e : Ent) (count : Int) (s : ByteArray) (w : World) (hs : s = bs e.name) : Calls Tryz.prog 230 #[.agg #[.string s, .int .i64 e.node], .int .i64 count] w fun x w' => x = .returned (.bool (nameB e.name && inB 0 (count - 1) e.node)) ∧ Below w.heap.size w w' := by
 obtain ⟨nm, r⟩ := e
 simp only at hs ⊢
 have HS := qhZ hs
 have hb0 : Below w.heap.size w (w.alloc (.cells #[.string s, .int .i64 r] 126)) := (Below.refl _ _).alloc (Nat.le_refl _) _
 have HB := qhZ hb0
 have HK := qhZ (heap_alloc_new w (.cells #[.string s, .int .i64 r] 126))
 clear hs hb0
 by_cases hn : nameB nm = true
 · have HN := qhZ hn
   by_cases h0 : 0 ≤ r
   · by_cases h1 : r < count
     · have HF : Hid (true = (nameB nm && inB 0 (count - 1) r)) := qhZ (by rw [hn, ← inB_mk h0 (by omega)]; rfl)
       clear hn
       go_enter Tryz.func230, Tryz.ntmps230
       go_wp2_with fail
       refine (goodName_is HN.out _ HS.out _).mono ?_
       rintro e w1 ⟨rfl, hb1⟩
       have HB1 := qhZ (HB.out.trans (hb1.mono HB.out.size))
       have k1 := (hb1.block w.heap.size (aB9 HK.out)).trans HK.out
       have x1 := (aA9 k1 1).trans rfl
       clear hb1 k1
       go_wp2
       go_ret
       exact ⟨aK9 HF.out, HB1.out⟩
     · have HF : Hid (false = (nameB nm && inB 0 (count - 1) r)) := qhZ (by rw [hn, ← inB_no (.inr (by omega))]; rfl)
       clear hn
       go_enter Tryz.func230, Tryz.ntmps230
       go_wp2_with fail
       refine (goodName_is HN.out _ HS.out _).mono ?_
       rintro e w1 ⟨rfl, hb1⟩
       have HB1 := qhZ (HB.out.trans (hb1.mono HB.out.size))
       have k1 := (hb1.block w.heap.size (aB9 HK.out)).trans HK.out
       have x1 := (aA9 k1 1).trans rfl
       clear hb1 k1
       go_wp2
       go_ret
       exact ⟨aK9 (by rw [← HF.out]; simp [h1]), HB1.out⟩
   · have HF : Hid (false = (nameB nm && inB 0 (count - 1) r)) := qhZ (by rw [hn, ← inB_no (.inl (by omega))]; rfl)
     clear hn
     go_enter Tryz.func230, Tryz.ntmps230
     go_wp2_with fail
     refine (goodName_is HN.out _ HS.out _).mono ?_
     rintro e w1 ⟨rfl, hb1⟩
     have HB1 := qhZ (HB.out.trans (hb1.mono HB.out.size))
     have k1 := (hb1.block w.heap.size (aB9 HK.out)).trans HK.out
     have x1 := (aA9 k1 1).trans rfl
     clear hb1 k1
     go_wp2
     go_ret
     exact ⟨aK9 HF.out, HB1.out⟩
 · have HN : Hid (nameB nm = false) := qhZ (by simpa using hn)
   have HF : Hid (false = (nameB nm && inB 0 (count - 1) r)) := qhZ (by rw [HN.out]; rfl)
   clear hn
   go_enter Tryz.func230, Tryz.ntmps230
   go_wp2_with fail
   refine (goodName_is HN.out _ HS.out _).mono ?_
   rintro e w1 ⟨rfl, hb1⟩
   have HB1 := qhZ (HB.out.trans (hb1.mono HB.out.size))
   clear hb1
   go_wp2
   go_ret
   exact ⟨aK9 HF.out, HB1.out⟩
theorem freeGood_any (q : Nod) (lv : Value) (g p : Nat) (cn : Int) (w : World) (hg : g < w.heap.size) (hc : NodC w g p lv q) (hE : EntsA w lv q.list) : Calls Tryz.prog 224 #[.agg #[.pointer (some ⟨g, p, none⟩)], .int .i64 cn] w fun e w' => e = .returned (.bool (noneB q && (q.data.isEmpty && q.list.isEmpty))) ∧ Below w.heap.size w w' := by
 have hb0 : Below w.heap.size w (w.alloc (.cells #[.pointer (some ⟨g, p, none⟩)] 221)) := (Below.refl _ _).alloc (Nat.le_refl _) _
 have HB := qhZ hb0
 have HK := qhZ (heap_alloc_new w (.cells #[.pointer (some ⟨g, p, none⟩)] 221))
 have HC := qhZ hc
 have HE := qhZ hE
 clear hb0 hc hE
 by_cases h1 : noneB q = true
 · have H1 := qhZ h1
   by_cases h2 : q.data.isEmpty = true
   · have H2 : Hid ((!q.data.isEmpty) = false) := qhZ (by rw [h2]; rfl)
     have HF : Hid ((noneB q && (q.data.isEmpty && q.list.isEmpty)) = q.list.isEmpty) := qhZ (by rw [h1, h2]; rfl)
     clear h1 h2
     go_enter Tryz.func224, Tryz.ntmps224
     go_wp2_with fail
     refine (hasNone_any q lv g p _ (Nat.lt_of_lt_of_le hg HB.out.size) (HC.out.below HB.out hg)).mono ?_
     rintro e w1 ⟨rfl, hb1⟩
     rw [H1.out]
     have HB1 := qhZ (HB.out.trans (hb1.mono HB.out.size))
     have HK1 := qhZ ((hb1.block w.heap.size (aB9 HK.out)).trans HK.out)
     have x1 := (aA9 HK1.out 0).trans rfl
     clear hb1
     go_wp2_with fail
     refine (hasData_any q lv g p _ (Nat.lt_of_lt_of_le hg HB1.out.size) (HC.out.below HB1.out hg)).mono ?_
     rintro e w2 ⟨rfl, hb2⟩
     rw [H2.out]
     have HB2 := qhZ (HB1.out.trans (hb2.mono HB1.out.size))
     have HK2 := qhZ ((hb2.block w.heap.size (aB9 HK1.out)).trans HK1.out)
     have x2 := (aA9 HK2.out 0).trans rfl
     clear hb2
     go_wp2_with fail
     refine (hasList_any q lv g p _ (Nat.lt_of_lt_of_le hg HB2.out.size) (HC.out.below HB2.out hg) (HE.out.below HB2.out)).mono ?_
     rintro e w3 ⟨rfl, hb3⟩
     have HB3 := qhZ (HB2.out.trans (hb3.mono HB2.out.size))
     clear hb3
     go_wp2
     go_ret
     exact ⟨aK9 (by rw [HF.out]), HB3.out⟩
   · have H2 : Hid ((!q.data.isEmpty) = true) := qhZ (by simpa using h2)
     have HF : Hid ((noneB q && (q.data.isEmpty && q.list.isEmpty)) = false) := qhZ (by rw [h1, show q.data.isEmpty = false by simpa using h2]; rfl)
     clear h1 h2
     go_enter Tryz.func224, Tryz.ntmps224
     go_wp2_with fail
     refine (hasNone_any q lv g p _ (Nat.lt_of_lt_of_le hg HB.out.size) (HC.out.below HB.out hg)).mono ?_
     rintro e w1 ⟨rfl, hb1⟩
     rw [H1.out]
     have HB1 := qhZ (HB.out.trans (hb1.mono HB.out.size))
     have HK1 := qhZ ((hb1.block w.heap.size (aB9 HK.out)).trans HK.out)
     have x1 := (aA9 HK1.out 0).trans rfl
     clear hb1
     go_wp2_with fail
     refine (hasData_any q lv g p _ (Nat.lt_of_lt_of_le hg HB1.out.size) (HC.out.below HB1.out hg)).mono ?_
     rintro e w2 ⟨rfl, hb2⟩
     rw [H2.out]
     have HB2 := qhZ (HB1.out.trans (hb2.mono HB1.out.size))
     clear hb2
     go_wp2
     go_ret
     exact ⟨aK9 HF.out.symm, HB2.out⟩
 · have H1 : Hid (noneB q = false) := qhZ (by simpa using h1)
   have HF : Hid ((noneB q && (q.data.isEmpty && q.list.isEmpty)) = false) := qhZ (by rw [H1.out]; rfl)
   clear h1
   go_enter Tryz.func224, Tryz.ntmps224
   go_wp2_with fail
   refine (hasNone_any q lv g p _ (Nat.lt_of_lt_of_le hg HB.out.size) (HC.out.below HB.out hg)).mono ?_
   rintro e w1 ⟨rfl, hb1⟩
   rw [H1.out]
   have HB1 := qhZ (HB.out.trans (hb1.mono HB.out.size))
   clear hb1
   go_wp2
   go_ret
   exact ⟨aK9 HF.out.symm, HB1.out⟩
end Go.Proofs.YtknhacblialboaaGreatDoor
