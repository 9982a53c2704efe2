/-
  Joined: LookW LookF LookG LookH.
  Conditions: as each states.
-/
import Derived.Test.YtpkmkpeabfmbiaaGreatDoorLib10

/-
  The model's step of a look at a link that is followed and whose text is whole.
  Conditions: as in LookC.
-/
namespace Go.Proofs.YtpkmkpeabfmbiaaGreatDoor
open Go.ChangeShapes Go.WideShapes Go.ChangeAt Go.RowKit Go.Joins
set_option linter.unusedVariables false
set_option linter.unusedSimpArgs false

set_option maxRecDepth 100000 in
set_option maxHeartbeats 16000000 in
theorem step_linkw (f : FsD) (o : Option Addr) (c : Nat) (u g : Int) (fol : Bool) (b node hops : Nat) (p : List UInt8) (r : List (List UInt8)) (pg po pc : Nat) (w0 w : World) (hF : LookFs f) (hN0 : NodsA w0 (.slice o f.nodes.length c) f.nodes) (hB0 : Below w0.heap.size w0 w) (hb0 : w0.heap.size ≤ b) (hb : w.heap[b]? = some (.cells (lkCells o f.nodes.length c f.room u g node (.slice (some ⟨pg, po, none⟩) (r.length + 1) pc) hops) 119 (0, 0))) (hn : node < f.nodes.length) (hP : Rd w (.slice (some ⟨pg, po, none⟩) (p :: r).length pc) (p :: r)) (hpb : pg ≠ b) (hrl : r.length ≤ 1000) (hk : (nodeAt f.nodes node).kind = 2) (hmay : mayB u g (nodeAt f.nodes node).mode (nodeAt f.nodes node).uid (nodeAt f.nodes node).gid 1 = true) (hp1 : p ≠ [46]) (hp2 : p ≠ [46, 46]) (m2 : Nat) (hat : atE (nodeAt f.nodes node).list p = m2) (hm2 : m2 < f.nodes.length) (hky : (nodeAt f.nodes m2).kind = 3) (hrf : r ≠ [] ∨ fol = true) (hh : hops < 8) (hlen : 0 < (nodeAt f.nodes m2).data.length ∧ (nodeAt f.nodes m2).data.length ≤ 60) (hwh : wholeB (nodeAt f.nodes m2).data = true) : Calls Tryz.prog 77 #[.pointer (some ⟨b, 0, none⟩), .bool fol] w fun e w' => e = .returned (.int .i64 0) ∧ ∃ pv, w'.heap[b]? = some (.cells (lkCells o f.nodes.length c f.room u g 0 pv (hops + 1)) 119 (0, 0)) ∧ Rd w' pv (parts (nodeAt f.nodes m2).data ++ r) ∧ (∀ a l k, pv = .slice (some a) l k → a.block ≠ b) ∧ Below b w w' := by
  have hN := hN0.below hB0
  have HN0 := Lib.hid hN0
  have HB0 := Lib.hid hB0
  obtain ⟨o0, c00, e00, -, hH0⟩ := id hN0
  simp only [Value.slice.injEq, true_and] at e00
  obtain ⟨rfl, rfl⟩ := e00
  obtain ⟨gg0, off0, lv0, e00, hg0, hcc0, he0, -⟩ := hH0 node hn
  obtain ⟨o', c', e1, hmm, hH⟩ := id hN
  simp only [Value.slice.injEq, true_and] at e1
  obtain ⟨rfl, rfl⟩ := e1
  unfold maxLen at hmm
  have hl : f.nodes.length ≤ 1048576 := (lists_small hF.size).1
  obtain ⟨gg, off, lv, rfl, hg, hcc, he, -⟩ := hH node hn
  have hqe : f.nodes[node] = nodeAt f.nodes node := (getD_at hn).symm
  have HHH := Lib.hid hH
  have HMO : Hid (inB 0 511 (nodeAt f.nodes node).mode = true) := Lib.hid (hF.mode node hn (by rw [hk]; decide))
  have hql : (nodeAt f.nodes node).list.length ≤ 1048576 := by rw [← hqe]; exact ((lists_small hF.size).2 _ (List.getElem_mem hn)).1
  rw [hqe] at hcc he hcc0 he0
  obtain ⟨q, hq⟩ : ∃ q, q = nodeAt f.nodes node := ⟨_, rfl⟩
  have HQ := Lib.hid hq
  rw [← hq] at hcc hk he hql hcc0 he0
  obtain ⟨o2, c2, rfl, -, -⟩ := he
  obtain ⟨d0, d1, d2, d3, d4, d5, d6⟩ := hcc
  have hlv : lv0 = .slice o2 q.list.length c2 := by
    simp only [Option.some.injEq, Addr.mk.injEq, and_true] at e00
    obtain ⟨rfl, rfl⟩ := e00
    have h1 := (hB0.cell (p := ⟨gg, off + node * 7 + 6, none⟩) hg0).trans hcc0.c6
    rw [d6] at h1
    simpa using h1.symm
  subst hlv
  have HE := Lib.hid he0
  have hbs := lt_of_heap hb
  have c0 : w.cell? ⟨b, 0, none⟩ = some (.slice (some ⟨gg, off, none⟩) f.nodes.length c) := cell_blk hb 0
  have c4 : w.cell? ⟨b, 4, none⟩ = some (.int .i64 (node : Int)) := cell_blk hb 4
  have hne1 : w.heap.size ≠ b := by omega
  have hne2 : w.heap.size ≠ gg := by omega
  have HB := Lib.hid hb
  have HN := Lib.hid hN
  have hat1 := hat
  rw [← hq] at hat1
  clear hat
  have HP := Lib.hid hP
  rw [hk] at d0
  clear hq hqe hH hb hN hP hN0 hB0 hH0 hcc0 he0 e00 hg0
  go_enter Tryz.func77, Tryz.ntmps77
  go_wp2
  go_region
  obtain ⟨W1, hW1⟩ : ∃ W1, (w.alloc (.cells #[.int .i64 2, .int .i64 q.mode, .int .i64 q.uid, .int .i64 q.gid, .int .i64 q.time, .string (bs q.data), .slice o2 q.list.length c2] 91)).drew = W1 := ⟨_, rfl⟩
  have hB1 : Below w.heap.size w W1 := by rw [← hW1]; exact ((Below.refl _ _).alloc (Nat.le_refl _) _).drew
  have hX1 : W1.heap[w.heap.size]? = some (.cells #[.int .i64 2, .int .i64 q.mode, .int .i64 q.uid, .int .i64 q.gid, .int .i64 q.time, .string (bs q.data), .slice o2 q.list.length c2] 91) := by rw [← hW1]; exact heap_alloc_new _ _
  rw [hW1]
  clear hW1 c0 c4 d0 d1 d2 d3 d4 d5 d6
  have hb1 := (hB1.block b hbs).trans HB.out
  have HFS1 : Hid (FsA W1 (.agg #[.slice (some ⟨gg, off, none⟩) f.nodes.length c, .int .i64 f.room]) f) := Lib.hid ⟨_, rfl, HN.out.below hB1⟩
  have s0 : W1.cell? ⟨b, 0, none⟩ = some (.slice (some ⟨gg, off, none⟩) f.nodes.length c) := cell_blk hb1 0
  have s1 : W1.cell? ⟨b, 1, none⟩ = some (.int .i64 f.room) := cell_blk hb1 1
  have s2 : W1.cell? ⟨b, 2, none⟩ = some (.int .i64 u) := cell_blk hb1 2
  have s3 : W1.cell? ⟨b, 3, none⟩ = some (.int .i64 g) := cell_blk hb1 3
  have s4 : W1.cell? ⟨b, 4, none⟩ = some (.int .i64 (node : Int)) := cell_blk hb1 4
  have x0 : W1.cell? ⟨w.heap.size, 0, none⟩ = some (.int .i64 2) := cell_blk hX1 0
  have z0 := fun d os => cell_regrown (w := W1) s0 d os
  have z1 := fun d os => cell_regrown (w := W1) s1 d os
  have z2 := fun d os => cell_regrown (w := W1) s2 d os
  have z3 := fun d os => cell_regrown (w := W1) s3 d os
  have z4 := fun d os => cell_regrown (w := W1) s4 d os
  go_wp2
  have HMAY : Hid (mayB u g (nodeAt f.nodes node).mode (nodeAt f.nodes node).uid (nodeAt f.nodes node).gid 1 = true) := Lib.hid hmay
  refine wp_region_quiet_below (by kernel_rfl) (by kernel_rfl) ?_
  repeat (first | go_big_quiet_step ((go_at_call 80; exact Calls.regrown_of (l4May_is HMAY.out (HFS1.out.below (below_regrown _ _ _)) hn HMO.out hl))) | quiet_step ((go_at_call 80; exact Calls.regrown_of (l4May_is HMAY.out (HFS1.out.below (below_regrown _ _ _)) hn HMO.out hl))))
  refine wpQuiet_nil ?_
  intro w2 hwq
  have hb5 : Below W1.heap.size W1 w2 := by
    obtain ⟨pp, rfl⟩ := hwq
    exact below_regrown _ _ _
  have hB2 := hB1.trans (hb5.mono hB1.size)
  have hb2 := (hb5.block b (lt_of_heap hb1)).trans hb1
  have hX2 := (hb5.block w.heap.size (lt_of_heap hX1)).trans hX1
  have hBb2 : Below b w w2 := hB2.mono (Nat.le_of_lt hbs)
  clear hwq hb5 hX1 hb1 z0 z1 z2 z3 z4 s0 s1 s2 s3 s4 x0 hmay HFS1
  obtain ⟨hpg, hpl, hpm, hp0, hr1, hr2⟩ := rd_first HP.out
  unfold maxLen at hpm
  have p0 := (hB2.cell (p := ⟨pg, po, none⟩) hpg).trans hp0
  have t5 : w2.cell? ⟨b, 5, none⟩ = some (.slice (some ⟨pg, po, none⟩) (r.length + 1) pc) := cell_blk hb2 5
  have f5 := frozen_blk hb2 5
  have HK2 := Lib.hid hb2
  have HX2 := Lib.hid hX2
  have HB2 := Lib.hid hB2
  have HT1 := Lib.hid hr1
  have HT2 := Lib.hid hr2
  clear hp0 hr1 hr2 hb2 hX2
  have hx1 := bytes_neP (x := bs p) (l := [46]) (by rw [bs_list]; exact hp1)
  have hx2 := bytes_neP (x := bs p) (l := [46, 46]) (by rw [bs_list]; exact hp2)
  have HPB : Hid ((bs p).data.toList = p) := Lib.hid (bs_list p)
  obtain ⟨x, hx⟩ : ∃ x, x = bs p := ⟨_, rfl⟩
  rw [← hx] at p0 hx1 hx2 HPB
  clear hx hp1 hp2
  have HAT : Hid (atE q.list x.data.toList = (m2 : Int)) := Lib.hid (by rw [HPB.out, hat1])
  by_cases hpc : pc = 1
  · subst hpc
    obtain rfl : r = [] := List.eq_nil_of_length_eq_zero (by omega)
    simp only [List.length_nil] at *
    have hO3 := (OnlyG.below b HB2.out).set 5 (.slice (some ⟨pg, po, none⟩) 0 0)
    have hX3 : (w2.setCell ⟨b, 5, none⟩ (.slice (some ⟨pg, po, none⟩) 0 0)).heap[w.heap.size]? = some (.cells #[.int .i64 2, .int .i64 q.mode, .int .i64 q.uid, .int .i64 q.gid, .int .i64 q.time, .string (bs q.data), .slice o2 q.list.length c2] 91) := (Below.heap_setCell w2 ⟨b, 5, none⟩ (.slice (some ⟨pg, po, none⟩) 0 0) w.heap.size hne1).trans HX2.out
    have hb3 : (w2.setCell ⟨b, 5, none⟩ (.slice (some ⟨pg, po, none⟩) 0 0)).heap[b]? = some (.cells (lkCells (some ⟨gg, off, none⟩) f.nodes.length c f.room u g node (.slice (some ⟨pg, po, none⟩) 0 0) hops) 119 (0, 0)) := heap_setCell_same w2 b 5 _ _ (.slice (some ⟨pg, po, none⟩) 0 0) HK2.out
    have x6 : (w2.setCell ⟨b, 5, none⟩ (.slice (some ⟨pg, po, none⟩) 0 0)).cell? ⟨w.heap.size, 6, none⟩ = some (.slice o2 q.list.length c2) := cell_blk hX3 6
    have hBb3 : Below b w (w2.setCell ⟨b, 5, none⟩ (.slice (some ⟨pg, po, none⟩) 0 0)) := hBb2.setCell (p := ⟨b, 5, none⟩) (Nat.le_refl _) _
    have HBb3 := Lib.hid hBb3
    have HEN : Hid (EntsA (w2.setCell ⟨b, 5, none⟩ (.slice (some ⟨pg, po, none⟩) 0 0)) (.slice o2 q.list.length c2) q.list) := Lib.hid (HE.out.below (HB0.out.trans (hBb3.mono hb0)))
    have HO3 := Lib.hid hO3
    have HB3 := Lib.hid hb3
    clear hO3 hX3 hb3 hBb3
    go_wp2_with fail
    refine (l3At_any q.list _ x _ HEN.out hql).mono ?_
    rintro e w4 ⟨rfl, hb4⟩
    rw [HAT.out]
    have HO4 := Lib.hid (HO3.out.trans (OnlyG.below b hb4))
    have HB4 := Lib.hid ((hb4.block b (lt_of_heap HB3.out)).trans HB3.out)
    have HBb4 := Lib.hid (HBb3.out.trans (hb4.mono (Nat.le_trans (Nat.le_of_lt hbs) HBb3.out.size)))
    clear hb4
    obtain ⟨o5, c5, e5, -, hH5⟩ := id HN0.out
    simp only [Value.slice.injEq, true_and] at e5
    obtain ⟨rfl, rfl⟩ := e5
    obtain ⟨gy, offy, ly, e5, hgy, hcy, hey, -⟩ := hH5 m2 hm2
    simp only [Option.some.injEq, Addr.mk.injEq, and_true] at e5
    obtain ⟨rfl, rfl⟩ := e5
    have hye : f.nodes[m2] = nodeAt f.nodes m2 := (getD_at hm2).symm
    rw [hye] at hcy hey
    obtain ⟨y, hy⟩ : ∃ y, y = nodeAt f.nodes m2 := ⟨_, rfl⟩
    have HY := Lib.hid hy
    rw [← hy] at hcy hey hky
    obtain ⟨o3, c3, rfl, -, -⟩ := hey
    have hB04 := HB0.out.trans (HBb4.out.mono hb0)
    obtain ⟨v0, v1, v2, v3, v4, v5, v6⟩ := hcy.below hB04 hgy
    have i0 : w4.cell? ⟨b, 0, none⟩ = some (.slice (some ⟨gg, off, none⟩) f.nodes.length c) := cell_blk HB4.out 0
    have i5 : w4.cell? ⟨b, 5, none⟩ = some (.slice (some ⟨pg, po, none⟩) 0 0) := cell_blk HB4.out 5
    have HBY : Hid (∀ oo, Below b w (w4.alloc oo)) := Lib.hid (fun oo => HBb4.out.alloc (Nat.le_trans (Nat.le_of_lt hbs) HBb4.out.size) oo)
    have HOY : Hid (∀ oo, OnlyG w (w4.alloc oo) b) := Lib.hid (fun oo => HO4.out.trans (OnlyG.below b ((Below.refl _ _).alloc (Nat.le_refl _) oo)))
    have HKY : Hid (∀ oo, (w4.alloc oo).heap[b]? = some (.cells (lkCells (some ⟨gg, off, none⟩) f.nodes.length c f.room u g node (.slice (some ⟨pg, po, none⟩) 0 0) hops) 119 (0, 0))) := Lib.hid (fun oo => (Below.heap_alloc _ _ _ (lt_of_heap HB4.out)).trans HB4.out)
    have hsz4 : b < w4.heap.size := lt_of_heap HB4.out
    have hne3 : w4.heap.size ≠ b := by omega
    have i4 : ∀ oo, (w4.alloc oo).cell? ⟨b, 4, none⟩ = some (.int .i64 (node : Int)) := fun oo => cell_blk (HKY.out oo) 4
    have i6 : ∀ oo, (w4.alloc oo).cell? ⟨b, 6, none⟩ = some (.int .i64 (hops : Int)) := fun oo => cell_blk (HKY.out oo) 6
    have i5a : ∀ oo, (w4.alloc oo).cell? ⟨b, 5, none⟩ = some (.slice (some ⟨pg, po, none⟩) 0 0) := fun oo => cell_blk (HKY.out oo) 5
    have i4f : ∀ oo, (w4.alloc oo).frozen? ⟨b, 4, none⟩ = false := fun oo => frozen_blk (HKY.out oo) 4
    have i6f : ∀ oo, (w4.alloc oo).frozen? ⟨b, 6, none⟩ = false := fun oo => frozen_blk (HKY.out oo) 6
    clear hcy hye hy hH5 hB04
    rw [hky] at v0
    have hh8 : ((hops : Int) == 8) = false := by rw [beq_eq_false_iff_ne]; omega
    have hhw : (hops : Int) + 1 ≤ 100 := by omega
    have hfo : fol = true := by rcases hrf with h | h; exact absurd rfl h; exact h
    subst hfo
    have HSZ : Hid ((bs y.data).size = y.data.length) := Lib.hid (bs_size _)
    have HSL : Hid ((bs y.data).data.toList = y.data) := Lib.hid (bs_list _)
    have HHD : Hid (∀ h : 0 < (bs y.data).size, wholeB (bs y.data).data.toList = decide (((bs y.data)[0]'h) = 47)) := Lib.hid (fun h => whole_at h)
    have hgl : 0 < y.data.length ∧ y.data.length ≤ 60 := by rw [HY.out]; exact hlen
    obtain ⟨s, hs⟩ : ∃ s, s = bs y.data := ⟨_, rfl⟩
    rw [← hs] at v5 HSZ HSL HHD
    clear hs
    have hs0 : 0 < s.size := by rw [HSZ.out]; exact hgl.1
    have hs1 : s.size ≤ 60 := by rw [HSZ.out]; exact hgl.2
    have HWB : Hid (wholeB y.data = true) := Lib.hid (by rw [HY.out]; exact hwh)
    have hc0 : ((s[0]'hs0).toNat : Int) = 47 := by
      have h9 := HHD.out hs0
      rw [HSL.out, HWB.out] at h9
      have h8 : (s[0]'hs0) = 47 := by simpa using h9.symm
      rw [h8]; rfl
    clear hgl
    go_wp2
    obtain ⟨W5, hW5⟩ : ∃ W5, (w4.setCell ⟨b, 6, none⟩ (.int .i64 ((hops : Int) + 1))).alloc (.cells #[.int .i64 3, .int .i64 y.mode, .int .i64 y.uid, .int .i64 y.gid, .int .i64 y.time, .string s, .slice o3 y.list.length c3] 91) = W5 := ⟨_, rfl⟩
    have hsz5 : w4.heap.size < W5.heap.size := by rw [← hW5]; simp
    have hb5 : W5.heap[b]? = some (.cells (lkCells (some ⟨gg, off, none⟩) f.nodes.length c f.room u g node (.slice (some ⟨pg, po, none⟩) 0 0) (hops + 1)) 119 (0, 0)) := by rw [← hW5]; exact (Below.heap_alloc _ _ b (by simpa using hsz4)).trans (heap_setCell_same w4 b 6 _ _ (.int .i64 ((hops : Int) + 1)) HB4.out)
    have hY5 : W5.heap[w4.heap.size]? = some (.cells #[.int .i64 3, .int .i64 y.mode, .int .i64 y.uid, .int .i64 y.gid, .int .i64 y.time, .string s, .slice o3 y.list.length c3] 91) := by rw [← hW5]; have h7 := heap_alloc_new (w4.setCell ⟨b, 6, none⟩ (.int .i64 ((hops : Int) + 1))) (.cells #[.int .i64 3, .int .i64 y.mode, .int .i64 y.uid, .int .i64 y.gid, .int .i64 y.time, .string s, .slice o3 y.list.length c3] 91); simpa using h7
    have hO5 : OnlyG w W5 b := by rw [← hW5]; exact (HO4.out.set 6 _).trans (OnlyG.below b ((Below.refl _ _).alloc (Nat.le_refl _) _))
    have hBb5 : Below b w W5 := by rw [← hW5]; exact (HBb4.out.setCell (p := ⟨b, 6, none⟩) (Nat.le_refl _) _).alloc (by simp; omega) _
    rw [hW5]
    clear hW5 i0 i4 i5 i5a i6 i4f i6f v0 v1 v2 v3 v4 v5 v6
    have HR5 := Lib.hid (rd_kept (HT1.out trivial) hO5 hpb)
    have HK5 : Hid (W5.drew.heap[b]? = _) := Lib.hid hb5
    have HY5 : Hid (W5.drew.heap[w4.heap.size]? = _) := Lib.hid hY5
    have HO5 := Lib.hid (hO5.trans (OnlyG.below b (Below.refl _ W5).drew))
    have HBb5 := Lib.hid hBb5.drew
    have HR5d := Lib.hid (HR5.out.below (Below.refl _ W5).drew)
    have e5 : W5.drew.cell? ⟨b, 5, none⟩ = some (.slice (some ⟨pg, po, none⟩) 0 0) := cell_blk HK5.out 5
    have y5 : W5.drew.cell? ⟨w4.heap.size, 5, none⟩ = some (.string s) := cell_blk HY5.out 5
    obtain ⟨i9, hi9, hz0, hz1, hz2⟩ := info_parts strInfo
    have hpl9 : (parts s.data.toList).length ≤ 61 := by have h7 := parts_le s.data.toList; rw [len_size] at h7; omega
    have hO5s := hO5.1
    clear hb5 hY5 hO5 hBb5
    go_region_law (first
      | (refine step_append_any _ rfl (.tmp 118) (.tmp 122) 116 rfl W5.heap.size 9 i9 (.string ⟨#[]⟩) 1 16 Tryz.underlying116 hi9 hz0 hz1 hz2 rfl (by decide) vP (parts s.data.toList).length (strs (parts s.data.toList)) (by simp [Act.eval, Act.put]) HLP.out ⟨pg, po, none⟩ 0 0 (strs []) (by simp [Act.eval, Act.put]) (by simp [strs]) (rd_news HRP.out) (strs_one []) (by unfold maxLen; omega) (by omega) hszP ?_; intro oo cap wA hown hgrow hoo; have hrow : ∀ i, i < W5.heap.size → some i ≠ vP.ownBlock := fun i hi e => (by have h7 := (World.ownsRow.lt HLP.out i e.symm).1; exact absurd hi (Nat.not_lt.2 h7)); have HKA := Lib.hid ((hgrow.block b (lt_of_heap HKP.out) (hrow b (by omega))).trans HKP.out); have HYA := Lib.hid ((hgrow.block w4.heap.size (lt_of_heap HYP.out) (hrow _ hsz5)).trans HYP.out); have HOA := Lib.hid (only_grown HOP.out hgrow (fun i hi => hrow i (by have h7 := hO5s; omega))); have HBbA := Lib.hid (HBbP.out.grown hgrow (Nat.le_of_lt (lt_of_heap HKP.out)) (fun j ej => by have h7 := (World.ownsRow.lt HLP.out j ej).1; have h8 : W5.heap.size ≤ j := h7; omega)); have eA : wA.cell? ⟨b, 5, none⟩ = some (.slice (some ⟨pg, po, none⟩) 0 0) := cell_blk HKA.out 5; have fA := frozen_blk HKA.out 5; have e4A : wA.cell? ⟨b, 4, none⟩ = some (.int .i64 (node : Int)) := cell_blk HKA.out 4; have f4A := frozen_blk HKA.out 4; have yA : wA.cell? ⟨w4.heap.size, 5, none⟩ = some (.string s) := cell_blk HYA.out 5; have HLA := Lib.hid hown; have HOO := Lib.hid hoo; clear hown hgrow hoo hrow)
      | (go_simp; go_at_call 76; refine (l2Parts_any s _ (by omega)).mono ?_; rintro e wP ⟨vP, rfl, hLP, hbP⟩; have HLP := Lib.hid hLP; have HRP := Lib.hid (HR5d.out.below hbP); have hszP := hbP.size; have HKP := Lib.hid ((hbP.block b (lt_of_heap HK5.out)).trans HK5.out); have HYP := Lib.hid ((hbP.block w4.heap.size (lt_of_heap HY5.out)).trans HY5.out); have HOP := Lib.hid (HO5.out.trans (OnlyG.below b hbP)); have HBbP := Lib.hid (HBb5.out.trans (hbP.mono (Nat.le_trans (Nat.le_of_lt hbs) HBb5.out.size))); have eP : wP.cell? ⟨b, 5, none⟩ = some (.slice (some ⟨pg, po, none⟩) 0 0) := cell_blk HKP.out 5; have fP := frozen_blk HKP.out 5; clear hLP hbP))
    all_goals
      have HDN : Hid (parts s.data.toList = parts (nodeAt f.nodes m2).data) := Lib.hid (by rw [HSL.out, HY.out])
      go_wp2
      go_ret
      have hoff : ∀ a l k, Value.slice oo ((parts s.data.toList).length + 0) cap = .slice (some a) l k → a.block ≠ b := fun a l k e => by
        simp only [Value.slice.injEq] at e
        obtain ⟨g, rfl, hg9, -⟩ := HOO.out a e.1
        simp only
        omega
      refine ⟨rfl, .slice oo ((parts s.data.toList).length + 0) cap, heap_setCell_same _ b 4 _ _ (.int .i64 0) (heap_setCell_same wA b 5 _ _ _ HKA.out), ?_, hoff, (HBbA.out.setCell (p := ⟨b, 5, none⟩) (Nat.le_refl _) _).setCell (p := ⟨b, 4, none⟩) (Nat.le_refl _) _⟩
      have h7 : Rd wA (.slice oo ((parts s.data.toList).length + 0) cap) (parts s.data.toList ++ []) := (lst_app HLA.out).read
      rw [HDN.out] at h7
      rw [HDN.out] at hoff
      rw [HDN.out]
      exact rd_keptV h7 (((OnlyG.below b (Below.refl _ wA)).set 5 _).set 4 _) hoff
  · have hpc2 : ¬ 1 = pc := fun e => hpc e.symm
    have hO3 := (OnlyG.below b HB2.out).set 5 (.slice (some ⟨pg, po + 1, none⟩) r.length (pc - 1))
    have hX3 : (w2.setCell ⟨b, 5, none⟩ (.slice (some ⟨pg, po + 1, none⟩) r.length (pc - 1))).heap[w.heap.size]? = some (.cells #[.int .i64 2, .int .i64 q.mode, .int .i64 q.uid, .int .i64 q.gid, .int .i64 q.time, .string (bs q.data), .slice o2 q.list.length c2] 91) := (Below.heap_setCell w2 ⟨b, 5, none⟩ (.slice (some ⟨pg, po + 1, none⟩) r.length (pc - 1)) w.heap.size hne1).trans HX2.out
    have hb3 : (w2.setCell ⟨b, 5, none⟩ (.slice (some ⟨pg, po + 1, none⟩) r.length (pc - 1))).heap[b]? = some (.cells (lkCells (some ⟨gg, off, none⟩) f.nodes.length c f.room u g node (.slice (some ⟨pg, po + 1, none⟩) r.length (pc - 1)) hops) 119 (0, 0)) := heap_setCell_same w2 b 5 _ _ (.slice (some ⟨pg, po + 1, none⟩) r.length (pc - 1)) HK2.out
    have x6 : (w2.setCell ⟨b, 5, none⟩ (.slice (some ⟨pg, po + 1, none⟩) r.length (pc - 1))).cell? ⟨w.heap.size, 6, none⟩ = some (.slice o2 q.list.length c2) := cell_blk hX3 6
    have hBb3 : Below b w (w2.setCell ⟨b, 5, none⟩ (.slice (some ⟨pg, po + 1, none⟩) r.length (pc - 1))) := hBb2.setCell (p := ⟨b, 5, none⟩) (Nat.le_refl _) _
    have HBb3 := Lib.hid hBb3
    have HEN : Hid (EntsA (w2.setCell ⟨b, 5, none⟩ (.slice (some ⟨pg, po + 1, none⟩) r.length (pc - 1))) (.slice o2 q.list.length c2) q.list) := Lib.hid (HE.out.below (HB0.out.trans (hBb3.mono hb0)))
    have HO3 := Lib.hid hO3
    have HB3 := Lib.hid hb3
    clear hO3 hX3 hb3 hBb3
    go_wp2_with fail
    refine (l3At_any q.list _ x _ HEN.out hql).mono ?_
    rintro e w4 ⟨rfl, hb4⟩
    rw [HAT.out]
    have HO4 := Lib.hid (HO3.out.trans (OnlyG.below b hb4))
    have HB4 := Lib.hid ((hb4.block b (lt_of_heap HB3.out)).trans HB3.out)
    have HBb4 := Lib.hid (HBb3.out.trans (hb4.mono (Nat.le_trans (Nat.le_of_lt hbs) HBb3.out.size)))
    clear hb4
    obtain ⟨o5, c5, e5, -, hH5⟩ := id HN0.out
    simp only [Value.slice.injEq, true_and] at e5
    obtain ⟨rfl, rfl⟩ := e5
    obtain ⟨gy, offy, ly, e5, hgy, hcy, hey, -⟩ := hH5 m2 hm2
    simp only [Option.some.injEq, Addr.mk.injEq, and_true] at e5
    obtain ⟨rfl, rfl⟩ := e5
    have hye : f.nodes[m2] = nodeAt f.nodes m2 := (getD_at hm2).symm
    rw [hye] at hcy hey
    obtain ⟨y, hy⟩ : ∃ y, y = nodeAt f.nodes m2 := ⟨_, rfl⟩
    have HY := Lib.hid hy
    rw [← hy] at hcy hey hky
    obtain ⟨o3, c3, rfl, -, -⟩ := hey
    have hB04 := HB0.out.trans (HBb4.out.mono hb0)
    obtain ⟨v0, v1, v2, v3, v4, v5, v6⟩ := hcy.below hB04 hgy
    have i0 : w4.cell? ⟨b, 0, none⟩ = some (.slice (some ⟨gg, off, none⟩) f.nodes.length c) := cell_blk HB4.out 0
    have i5 : w4.cell? ⟨b, 5, none⟩ = some (.slice (some ⟨pg, po + 1, none⟩) r.length (pc - 1)) := cell_blk HB4.out 5
    have HBY : Hid (∀ oo, Below b w (w4.alloc oo)) := Lib.hid (fun oo => HBb4.out.alloc (Nat.le_trans (Nat.le_of_lt hbs) HBb4.out.size) oo)
    have HOY : Hid (∀ oo, OnlyG w (w4.alloc oo) b) := Lib.hid (fun oo => HO4.out.trans (OnlyG.below b ((Below.refl _ _).alloc (Nat.le_refl _) oo)))
    have HKY : Hid (∀ oo, (w4.alloc oo).heap[b]? = some (.cells (lkCells (some ⟨gg, off, none⟩) f.nodes.length c f.room u g node (.slice (some ⟨pg, po + 1, none⟩) r.length (pc - 1)) hops) 119 (0, 0))) := Lib.hid (fun oo => (Below.heap_alloc _ _ _ (lt_of_heap HB4.out)).trans HB4.out)
    have hsz4 : b < w4.heap.size := lt_of_heap HB4.out
    have hne3 : w4.heap.size ≠ b := by omega
    have i4 : ∀ oo, (w4.alloc oo).cell? ⟨b, 4, none⟩ = some (.int .i64 (node : Int)) := fun oo => cell_blk (HKY.out oo) 4
    have i6 : ∀ oo, (w4.alloc oo).cell? ⟨b, 6, none⟩ = some (.int .i64 (hops : Int)) := fun oo => cell_blk (HKY.out oo) 6
    have i5a : ∀ oo, (w4.alloc oo).cell? ⟨b, 5, none⟩ = some (.slice (some ⟨pg, po + 1, none⟩) r.length (pc - 1)) := fun oo => cell_blk (HKY.out oo) 5
    have i4f : ∀ oo, (w4.alloc oo).frozen? ⟨b, 4, none⟩ = false := fun oo => frozen_blk (HKY.out oo) 4
    have i6f : ∀ oo, (w4.alloc oo).frozen? ⟨b, 6, none⟩ = false := fun oo => frozen_blk (HKY.out oo) 6
    clear hcy hye hy hH5 hB04
    rw [hky] at v0
    have hh8 : ((hops : Int) == 8) = false := by rw [beq_eq_false_iff_ne]; omega
    have hhw : (hops : Int) + 1 ≤ 100 := by omega
    have hcond : (r.length ≠ 0 ∨ fol = true) := by rcases hrf with h | h; exact .inl (fun e => h (List.eq_nil_of_length_eq_zero e)); exact .inr h
    have HSZ : Hid ((bs y.data).size = y.data.length) := Lib.hid (bs_size _)
    have HSL : Hid ((bs y.data).data.toList = y.data) := Lib.hid (bs_list _)
    have HHD : Hid (∀ h : 0 < (bs y.data).size, wholeB (bs y.data).data.toList = decide (((bs y.data)[0]'h) = 47)) := Lib.hid (fun h => whole_at h)
    have hgl : 0 < y.data.length ∧ y.data.length ≤ 60 := by rw [HY.out]; exact hlen
    obtain ⟨s, hs⟩ : ∃ s, s = bs y.data := ⟨_, rfl⟩
    rw [← hs] at v5 HSZ HSL HHD
    clear hs
    have hs0 : 0 < s.size := by rw [HSZ.out]; exact hgl.1
    have hs1 : s.size ≤ 60 := by rw [HSZ.out]; exact hgl.2
    have HWB : Hid (wholeB y.data = true) := Lib.hid (by rw [HY.out]; exact hwh)
    have hc0 : ((s[0]'hs0).toNat : Int) = 47 := by
      have h9 := HHD.out hs0
      rw [HSL.out, HWB.out] at h9
      have h8 : (s[0]'hs0) = 47 := by simpa using h9.symm
      rw [h8]; rfl
    clear hgl
    by_cases hr0 : r.length = 0
    · have hfo : fol = true := by rcases hcond with h | h; exact absurd hr0 h; exact h
      subst hfo
      have hr0b : ((r.length : Int) == 0) = true := by rw [beq_iff_eq]; omega
      have HR0 := Lib.hid hr0
      clear hr0 hcond
      go_wp2
      obtain ⟨W5, hW5⟩ : ∃ W5, (w4.setCell ⟨b, 6, none⟩ (.int .i64 ((hops : Int) + 1))).alloc (.cells #[.int .i64 3, .int .i64 y.mode, .int .i64 y.uid, .int .i64 y.gid, .int .i64 y.time, .string s, .slice o3 y.list.length c3] 91) = W5 := ⟨_, rfl⟩
      have hsz5 : w4.heap.size < W5.heap.size := by rw [← hW5]; simp
      have hb5 : W5.heap[b]? = some (.cells (lkCells (some ⟨gg, off, none⟩) f.nodes.length c f.room u g node (.slice (some ⟨pg, po + 1, none⟩) r.length (pc - 1)) (hops + 1)) 119 (0, 0)) := by rw [← hW5]; exact (Below.heap_alloc _ _ b (by simpa using hsz4)).trans (heap_setCell_same w4 b 6 _ _ (.int .i64 ((hops : Int) + 1)) HB4.out)
      have hY5 : W5.heap[w4.heap.size]? = some (.cells #[.int .i64 3, .int .i64 y.mode, .int .i64 y.uid, .int .i64 y.gid, .int .i64 y.time, .string s, .slice o3 y.list.length c3] 91) := by rw [← hW5]; have h7 := heap_alloc_new (w4.setCell ⟨b, 6, none⟩ (.int .i64 ((hops : Int) + 1))) (.cells #[.int .i64 3, .int .i64 y.mode, .int .i64 y.uid, .int .i64 y.gid, .int .i64 y.time, .string s, .slice o3 y.list.length c3] 91); simpa using h7
      have hO5 : OnlyG w W5 b := by rw [← hW5]; exact (HO4.out.set 6 _).trans (OnlyG.below b ((Below.refl _ _).alloc (Nat.le_refl _) _))
      have hBb5 : Below b w W5 := by rw [← hW5]; exact (HBb4.out.setCell (p := ⟨b, 6, none⟩) (Nat.le_refl _) _).alloc (by simp; omega) _
      rw [hW5]
      clear hW5 i0 i4 i5 i5a i6 i4f i6f v0 v1 v2 v3 v4 v5 v6
      have HR5 := Lib.hid (rd_kept (HT2.out) hO5 hpb)
      have HK5 : Hid (W5.drew.heap[b]? = _) := Lib.hid hb5
      have HY5 : Hid (W5.drew.heap[w4.heap.size]? = _) := Lib.hid hY5
      have HO5 := Lib.hid (hO5.trans (OnlyG.below b (Below.refl _ W5).drew))
      have HBb5 := Lib.hid hBb5.drew
      have HR5d := Lib.hid (HR5.out.below (Below.refl _ W5).drew)
      have e5 : W5.drew.cell? ⟨b, 5, none⟩ = some (.slice (some ⟨pg, po + 1, none⟩) r.length (pc - 1)) := cell_blk HK5.out 5
      have y5 : W5.drew.cell? ⟨w4.heap.size, 5, none⟩ = some (.string s) := cell_blk HY5.out 5
      obtain ⟨i9, hi9, hz0, hz1, hz2⟩ := info_parts strInfo
      have hpl9 : (parts s.data.toList).length ≤ 61 := by have h7 := parts_le s.data.toList; rw [len_size] at h7; omega
      have hO5s := hO5.1
      clear hb5 hY5 hO5 hBb5
      go_region_law (first
        | (refine step_append_any _ rfl (.tmp 118) (.tmp 122) 116 rfl W5.heap.size 9 i9 (.string ⟨#[]⟩) 1 16 Tryz.underlying116 hi9 hz0 hz1 hz2 rfl (by decide) vP (parts s.data.toList).length (strs (parts s.data.toList)) (by simp [Act.eval, Act.put]) HLP.out ⟨pg, po + 1, none⟩ r.length (pc - 1) (strs r) (by simp [Act.eval, Act.put]) (by simp [strs]) (rd_news HRP.out) (strs_one r) (by unfold maxLen; omega) (by omega) hszP ?_; intro oo cap wA hown hgrow hoo; have hrow : ∀ i, i < W5.heap.size → some i ≠ vP.ownBlock := fun i hi e => (by have h7 := (World.ownsRow.lt HLP.out i e.symm).1; exact absurd hi (Nat.not_lt.2 h7)); have HKA := Lib.hid ((hgrow.block b (lt_of_heap HKP.out) (hrow b (by omega))).trans HKP.out); have HYA := Lib.hid ((hgrow.block w4.heap.size (lt_of_heap HYP.out) (hrow _ hsz5)).trans HYP.out); have HOA := Lib.hid (only_grown HOP.out hgrow (fun i hi => hrow i (by have h7 := hO5s; omega))); have HBbA := Lib.hid (HBbP.out.grown hgrow (Nat.le_of_lt (lt_of_heap HKP.out)) (fun j ej => by have h7 := (World.ownsRow.lt HLP.out j ej).1; have h8 : W5.heap.size ≤ j := h7; omega)); have eA : wA.cell? ⟨b, 5, none⟩ = some (.slice (some ⟨pg, po + 1, none⟩) r.length (pc - 1)) := cell_blk HKA.out 5; have fA := frozen_blk HKA.out 5; have e4A : wA.cell? ⟨b, 4, none⟩ = some (.int .i64 (node : Int)) := cell_blk HKA.out 4; have f4A := frozen_blk HKA.out 4; have yA : wA.cell? ⟨w4.heap.size, 5, none⟩ = some (.string s) := cell_blk HYA.out 5; have HLA := Lib.hid hown; have HOO := Lib.hid hoo; clear hown hgrow hoo hrow)
        | (go_simp; go_at_call 76; refine (l2Parts_any s _ (by omega)).mono ?_; rintro e wP ⟨vP, rfl, hLP, hbP⟩; have HLP := Lib.hid hLP; have HRP := Lib.hid (HR5d.out.below hbP); have hszP := hbP.size; have HKP := Lib.hid ((hbP.block b (lt_of_heap HK5.out)).trans HK5.out); have HYP := Lib.hid ((hbP.block w4.heap.size (lt_of_heap HY5.out)).trans HY5.out); have HOP := Lib.hid (HO5.out.trans (OnlyG.below b hbP)); have HBbP := Lib.hid (HBb5.out.trans (hbP.mono (Nat.le_trans (Nat.le_of_lt hbs) HBb5.out.size))); have eP : wP.cell? ⟨b, 5, none⟩ = some (.slice (some ⟨pg, po + 1, none⟩) r.length (pc - 1)) := cell_blk HKP.out 5; have fP := frozen_blk HKP.out 5; clear hLP hbP))
      all_goals
        have HDN : Hid (parts s.data.toList = parts (nodeAt f.nodes m2).data) := Lib.hid (by rw [HSL.out, HY.out])
        go_wp2
        go_ret
        have hoff : ∀ a l k, Value.slice oo ((parts s.data.toList).length + r.length) cap = .slice (some a) l k → a.block ≠ b := fun a l k e => by
          simp only [Value.slice.injEq] at e
          obtain ⟨g, rfl, hg9, -⟩ := HOO.out a e.1
          simp only
          omega
        refine ⟨rfl, .slice oo ((parts s.data.toList).length + r.length) cap, heap_setCell_same _ b 4 _ _ (.int .i64 0) (heap_setCell_same wA b 5 _ _ _ HKA.out), ?_, hoff, (HBbA.out.setCell (p := ⟨b, 5, none⟩) (Nat.le_refl _) _).setCell (p := ⟨b, 4, none⟩) (Nat.le_refl _) _⟩
        have h7 : Rd wA (.slice oo ((parts s.data.toList).length + r.length) cap) (parts s.data.toList ++ r) := (lst_app HLA.out).read
        rw [HDN.out] at h7
        rw [HDN.out] at hoff
        rw [HDN.out]
        exact rd_keptV h7 (((OnlyG.below b (Below.refl _ wA)).set 5 _).set 4 _) hoff
    have hr0b : ((r.length : Int) == 0) = false := by rw [beq_eq_false_iff_ne]; omega
    go_wp2
    obtain ⟨W5, hW5⟩ : ∃ W5, (w4.setCell ⟨b, 6, none⟩ (.int .i64 ((hops : Int) + 1))).alloc (.cells #[.int .i64 3, .int .i64 y.mode, .int .i64 y.uid, .int .i64 y.gid, .int .i64 y.time, .string s, .slice o3 y.list.length c3] 91) = W5 := ⟨_, rfl⟩
    have hsz5 : w4.heap.size < W5.heap.size := by rw [← hW5]; simp
    have hb5 : W5.heap[b]? = some (.cells (lkCells (some ⟨gg, off, none⟩) f.nodes.length c f.room u g node (.slice (some ⟨pg, po + 1, none⟩) r.length (pc - 1)) (hops + 1)) 119 (0, 0)) := by rw [← hW5]; exact (Below.heap_alloc _ _ b (by simpa using hsz4)).trans (heap_setCell_same w4 b 6 _ _ (.int .i64 ((hops : Int) + 1)) HB4.out)
    have hY5 : W5.heap[w4.heap.size]? = some (.cells #[.int .i64 3, .int .i64 y.mode, .int .i64 y.uid, .int .i64 y.gid, .int .i64 y.time, .string s, .slice o3 y.list.length c3] 91) := by rw [← hW5]; have h7 := heap_alloc_new (w4.setCell ⟨b, 6, none⟩ (.int .i64 ((hops : Int) + 1))) (.cells #[.int .i64 3, .int .i64 y.mode, .int .i64 y.uid, .int .i64 y.gid, .int .i64 y.time, .string s, .slice o3 y.list.length c3] 91); simpa using h7
    have hO5 : OnlyG w W5 b := by rw [← hW5]; exact (HO4.out.set 6 _).trans (OnlyG.below b ((Below.refl _ _).alloc (Nat.le_refl _) _))
    have hBb5 : Below b w W5 := by rw [← hW5]; exact (HBb4.out.setCell (p := ⟨b, 6, none⟩) (Nat.le_refl _) _).alloc (by simp; omega) _
    rw [hW5]
    clear hW5 i0 i4 i5 i5a i6 i4f i6f v0 v1 v2 v3 v4 v5 v6
    have HR5 := Lib.hid (rd_kept (HT2.out) hO5 hpb)
    have HK5 : Hid (W5.drew.heap[b]? = _) := Lib.hid hb5
    have HY5 : Hid (W5.drew.heap[w4.heap.size]? = _) := Lib.hid hY5
    have HO5 := Lib.hid (hO5.trans (OnlyG.below b (Below.refl _ W5).drew))
    have HBb5 := Lib.hid hBb5.drew
    have HR5d := Lib.hid (HR5.out.below (Below.refl _ W5).drew)
    have e5 : W5.drew.cell? ⟨b, 5, none⟩ = some (.slice (some ⟨pg, po + 1, none⟩) r.length (pc - 1)) := cell_blk HK5.out 5
    have y5 : W5.drew.cell? ⟨w4.heap.size, 5, none⟩ = some (.string s) := cell_blk HY5.out 5
    obtain ⟨i9, hi9, hz0, hz1, hz2⟩ := info_parts strInfo
    have hpl9 : (parts s.data.toList).length ≤ 61 := by have h7 := parts_le s.data.toList; rw [len_size] at h7; omega
    have hO5s := hO5.1
    clear hb5 hY5 hO5 hBb5
    go_region_law (first
      | (refine step_append_any _ rfl (.tmp 118) (.tmp 122) 116 rfl W5.heap.size 9 i9 (.string ⟨#[]⟩) 1 16 Tryz.underlying116 hi9 hz0 hz1 hz2 rfl (by decide) vP (parts s.data.toList).length (strs (parts s.data.toList)) (by simp [Act.eval, Act.put]) HLP.out ⟨pg, po + 1, none⟩ r.length (pc - 1) (strs r) (by simp [Act.eval, Act.put]) (by simp [strs]) (rd_news HRP.out) (strs_one r) (by unfold maxLen; omega) (by omega) hszP ?_; intro oo cap wA hown hgrow hoo; have hrow : ∀ i, i < W5.heap.size → some i ≠ vP.ownBlock := fun i hi e => (by have h7 := (World.ownsRow.lt HLP.out i e.symm).1; exact absurd hi (Nat.not_lt.2 h7)); have HKA := Lib.hid ((hgrow.block b (lt_of_heap HKP.out) (hrow b (by omega))).trans HKP.out); have HYA := Lib.hid ((hgrow.block w4.heap.size (lt_of_heap HYP.out) (hrow _ hsz5)).trans HYP.out); have HOA := Lib.hid (only_grown HOP.out hgrow (fun i hi => hrow i (by have h7 := hO5s; omega))); have HBbA := Lib.hid (HBbP.out.grown hgrow (Nat.le_of_lt (lt_of_heap HKP.out)) (fun j ej => by have h7 := (World.ownsRow.lt HLP.out j ej).1; have h8 : W5.heap.size ≤ j := h7; omega)); have eA : wA.cell? ⟨b, 5, none⟩ = some (.slice (some ⟨pg, po + 1, none⟩) r.length (pc - 1)) := cell_blk HKA.out 5; have fA := frozen_blk HKA.out 5; have e4A : wA.cell? ⟨b, 4, none⟩ = some (.int .i64 (node : Int)) := cell_blk HKA.out 4; have f4A := frozen_blk HKA.out 4; have yA : wA.cell? ⟨w4.heap.size, 5, none⟩ = some (.string s) := cell_blk HYA.out 5; have HLA := Lib.hid hown; have HOO := Lib.hid hoo; clear hown hgrow hoo hrow)
      | (go_simp; go_at_call 76; refine (l2Parts_any s _ (by omega)).mono ?_; rintro e wP ⟨vP, rfl, hLP, hbP⟩; have HLP := Lib.hid hLP; have HRP := Lib.hid (HR5d.out.below hbP); have hszP := hbP.size; have HKP := Lib.hid ((hbP.block b (lt_of_heap HK5.out)).trans HK5.out); have HYP := Lib.hid ((hbP.block w4.heap.size (lt_of_heap HY5.out)).trans HY5.out); have HOP := Lib.hid (HO5.out.trans (OnlyG.below b hbP)); have HBbP := Lib.hid (HBb5.out.trans (hbP.mono (Nat.le_trans (Nat.le_of_lt hbs) HBb5.out.size))); have eP : wP.cell? ⟨b, 5, none⟩ = some (.slice (some ⟨pg, po + 1, none⟩) r.length (pc - 1)) := cell_blk HKP.out 5; have fP := frozen_blk HKP.out 5; clear hLP hbP))
    all_goals
      have HDN : Hid (parts s.data.toList = parts (nodeAt f.nodes m2).data) := Lib.hid (by rw [HSL.out, HY.out])
      go_wp2
      go_ret
      have hoff : ∀ a l k, Value.slice oo ((parts s.data.toList).length + r.length) cap = .slice (some a) l k → a.block ≠ b := fun a l k e => by
        simp only [Value.slice.injEq] at e
        obtain ⟨g, rfl, hg9, -⟩ := HOO.out a e.1
        simp only
        omega
      refine ⟨rfl, .slice oo ((parts s.data.toList).length + r.length) cap, heap_setCell_same _ b 4 _ _ (.int .i64 0) (heap_setCell_same wA b 5 _ _ _ HKA.out), ?_, hoff, (HBbA.out.setCell (p := ⟨b, 5, none⟩) (Nat.le_refl _) _).setCell (p := ⟨b, 4, none⟩) (Nat.le_refl _) _⟩
      have h7 : Rd wA (.slice oo ((parts s.data.toList).length + r.length) cap) (parts s.data.toList ++ r) := (lst_app HLA.out).read
      rw [HDN.out] at h7
      rw [HDN.out] at hoff
      rw [HDN.out]
      exact rd_keptV h7 (((OnlyG.below b (Below.refl _ wA)).set 5 _).set 4 _) hoff

end Go.Proofs.YtpkmkpeabfmbiaaGreatDoor


/-
  One contract of the model's step of a look: the code that the plain step gives, and where the look is then.
  Conditions: a good file system of at most 2^20 values and letters together; a node that is there; at most eight links met, at most 1000 parts to come.
-/
namespace Go.Proofs.YtpkmkpeabfmbiaaGreatDoor
open Go.ChangeShapes Go.WideShapes Go.ChangeAt Go.RowKit Go.Joins
set_option linter.unusedVariables false
set_option linter.unusedSimpArgs false

/-- What a look's cells hold: the state s, its parts readable, their block another one. -/
def LkAt (w : World) (b : Nat) (o : Option Addr) (n c : Nat) (room u g : Int) (s : Lk) : Prop :=
  ∃ pv, w.heap[b]? = some (.cells (lkCells o n c room u g s.node pv s.hops) 119 (0, 0)) ∧ Rd w pv s.parts ∧ ∀ a l k, pv = .slice (some a) l k → a.block ≠ b

/-- The text of a link: not empty, short. -/
def LinkLen (ns : List Nod) : Prop := ∀ i, i < ns.length → (nodeAt ns i).kind = 3 → 0 < (nodeAt ns i).data.length ∧ (nodeAt ns i).data.length ≤ 60
theorem atE_in {ns : List Nod} (hld : Lead ns) {node : Nat} (hn : node < ns.length) {p : List UInt8} (h : ¬ atE (nodeAt ns node).list p < 0) : ∃ m : Nat, atE (nodeAt ns node).list p = m ∧ m < ns.length := by
  have key : ∀ es : List Ent, (∀ e ∈ es, 0 ≤ e.node ∧ e.node < ns.length) → ¬ atE es p < 0 → ∃ m : Nat, atE es p = m ∧ m < ns.length := by
    intro es
    induction es with
    | nil => intro _ h; exact absurd (show (-1 : Int) < 0 by decide) h
    | cons e es ih =>
      intro hl h
      rw [atE] at h ⊢
      by_cases he : e.name = p
      · rw [if_pos he]
        have := hl e (by simp)
        exact ⟨e.node.toNat, by omega, by omega⟩
      · rw [if_neg he] at h ⊢
        exact ih (fun x hx => hl x (by simp [hx])) h
  have e1 : nodeAt ns node = ns[node] := getD_at hn
  exact key _ (by rw [e1]; exact hld _ (List.getElem_mem hn)) h

theorem step_any (f : FsD) (o : Option Addr) (c : Nat) (u g : Int) (fol : Bool) (b node hops : Nat) (p : List UInt8) (r : List (List UInt8)) (w0 w : World) (hF : LookFs f) (hLL : LinkLen f.nodes)
    (hN0 : NodsA w0 (.slice o f.nodes.length c) f.nodes) (hB0 : Below w0.heap.size w0 w) (hb0 : w0.heap.size ≤ b) (hL : LkAt w b o f.nodes.length c f.room u g ⟨node, p :: r, hops⟩) (hn : node < f.nodes.length) (hh : hops ≤ 8) (hrl : r.length ≤ 1000) :
    Calls Tryz.prog 77 #[.pointer (some ⟨b, 0, none⟩), .bool fol] w fun e w' => e = .returned (.int .i64 (lkStep f.nodes u g fol node p r hops).1) ∧ Below b w w' ∧ ((lkStep f.nodes u g fol node p r hops).1 = 0 → LkAt w' b o f.nodes.length c f.room u g (lkStep f.nodes u g fol node p r hops).2) := by
  obtain ⟨pv, hb, hR, hoff⟩ := hL
  simp only at hb hR
  obtain ⟨po', pc, e, h1, h2, h3⟩ := id hR
  obtain ⟨pg, po, e2, -, -⟩ := h3 0 (by simp)
  subst e2
  subst e
  have hpb : pg ≠ b := hoff _ _ _ rfl
  have hbl := lt_of_heap hb
  have hs : f.nodes.length ≤ 1048576 := (lists_small hF.size).1
  have hb' : w.heap[b]? = some (.cells (lkCells o f.nodes.length c f.room u g node (.slice (some ⟨pg, po, none⟩) (r.length + 1) pc) hops) 119 (0, 0)) := hb
  unfold lkStep
  by_cases k1 : (nodeAt f.nodes node).kind ≠ 2
  · rw [if_pos k1]
    refine (step_no f o c u g fol b node hops _ w (hN0.below hB0) hb' hn hs k1).mono fun e w' ⟨h, h'⟩ => ⟨h, h'.mono (Nat.le_of_lt hbl), fun e => absurd e (by decide)⟩
  rw [if_neg k1]
  have hk : (nodeAt f.nodes node).kind = 2 := by simpa using k1
  by_cases k2 : mayB u g (nodeAt f.nodes node).mode (nodeAt f.nodes node).uid (nodeAt f.nodes node).gid 1 = false
  · rw [if_pos k2]
    refine (step_may f o c u g fol b node hops p r pg po pc w0 w hF hN0 hB0 hb0 hb' hn hR hpb hrl hk k2).mono fun e w' ⟨h, h'⟩ => ⟨h, h'.mono (Nat.le_of_lt hbl), fun e => absurd e (by decide)⟩
  rw [if_neg k2]
  have hmay : mayB u g (nodeAt f.nodes node).mode (nodeAt f.nodes node).uid (nodeAt f.nodes node).gid 1 = true := by simpa using k2
  by_cases k3 : p = [46]
  · rw [if_pos k3]
    refine (step_dot f o c u g fol b node hops p r pg po pc w0 w hF hN0 hB0 hb0 hb' hn hR hpb hrl hk hmay k3).mono fun e w' ⟨h, pv', q1, q2, q3, q4⟩ => ⟨h, q4, fun _ => ⟨pv', q1, q2, q3⟩⟩
  rw [if_neg k3]
  by_cases k4 : p = [46, 46]
  · rw [if_pos k4]
    refine (step_up f o c u g fol b node hops p r pg po pc w0 w hF hN0 hB0 hb0 hb' hn hR hpb hrl hk hmay k4).mono fun e w' ⟨h, pv', q1, q2, q3, q4⟩ => ⟨h, q4, fun _ => ⟨pv', q1, q2, q3⟩⟩
  rw [if_neg k4]
  by_cases k5 : atE (nodeAt f.nodes node).list p < 0
  · rw [if_pos k5]
    refine (step_none f o c u g fol b node hops p r pg po pc w0 w hF hN0 hB0 hb0 hb' hn hR hpb hrl hk hmay k3 k4 k5).mono fun e w' ⟨h, h'⟩ => ⟨h, h', fun e => absurd e (by decide)⟩
  rw [if_neg k5]
  obtain ⟨m2, hat, hm2⟩ := atE_in hF.lead hn k5
  have hmn : (atE (nodeAt f.nodes node).list p).toNat = m2 := by rw [hat]; simp
  rw [hmn]
  by_cases k6 : (nodeAt f.nodes m2).kind ≠ 3 ∨ (r = [] ∧ fol = false)
  · rw [if_pos k6]
    by_cases k7 : (nodeAt f.nodes m2).kind = 3
    · obtain ⟨hrn, hfo⟩ : r = [] ∧ fol = false := by
        rcases k6 with h | h
        · exact absurd k7 h
        · exact h
      refine (step_last f o c u g fol b node hops p r pg po pc w0 w hF hN0 hB0 hb0 hb' hn hR hpb hrl hk hmay k3 k4 m2 hat hm2 k7 hrn hfo).mono fun e w' ⟨h, pv', q1, q2, q3, q4⟩ => ⟨h, q4, fun _ => ⟨pv', q1, q2, q3⟩⟩
    · refine (step_next f o c u g fol b node hops p r pg po pc w0 w hF hN0 hB0 hb0 hb' hn hR hpb hrl hk hmay k3 k4 m2 hat hm2 k7).mono fun e w' ⟨h, pv', q1, q2, q3, q4⟩ => ⟨h, q4, fun _ => ⟨pv', q1, q2, q3⟩⟩
  rw [if_neg k6]
  have hk3 : (nodeAt f.nodes m2).kind = 3 := by
    by_cases h : (nodeAt f.nodes m2).kind = 3
    · exact h
    · exact absurd (.inl h) k6
  have hrf : r ≠ [] ∨ fol = true := by
    by_cases h : r = []
    · right
      cases hfo : fol with
      | true => rfl
      | false => exact absurd (.inr ⟨h, hfo⟩) k6
    · exact .inl h
  by_cases k8 : hops = 8
  · rw [if_pos k8]
    refine (step_loop f o c u g fol b node hops p r pg po pc w0 w hF hN0 hB0 hb0 hb' hn hR hpb hrl hk hmay k3 k4 m2 hat hm2 hk3 hrf k8).mono fun e w' ⟨h, h'⟩ => ⟨h, h', fun e => absurd e (by decide)⟩
  rw [if_neg k8]
  have hlt : hops < 8 := by omega
  cases hw : wholeB (nodeAt f.nodes m2).data with
  | true =>
    rw [if_pos rfl]
    refine (step_linkw f o c u g fol b node hops p r pg po pc w0 w hF hN0 hB0 hb0 hb' hn hR hpb hrl hk hmay k3 k4 m2 hat hm2 hk3 hrf hlt (hLL m2 hm2 hk3) hw).mono fun e w' ⟨h, pv', q1, q2, q3, q4⟩ => ⟨h, q4, fun _ => ⟨pv', q1, q2, q3⟩⟩
  | false =>
    rw [if_neg (by simp)]
    refine (step_link f o c u g fol b node hops p r pg po pc w0 w hF hN0 hB0 hb0 hb' hn hR hpb hrl hk hmay k3 k4 m2 hat hm2 hk3 hrf hlt (hLL m2 hm2 hk3) hw).mono fun e w' ⟨h, pv', q1, q2, q3, q4⟩ => ⟨h, q4, fun _ => ⟨pv', q1, q2, q3⟩⟩
end Go.Proofs.YtpkmkpeabfmbiaaGreatDoor


/-
  The contract of the model's l4Find: what a look finds.
  Conditions: a good file system of at most 2^20 values and letters together; a text of at most 2^20 bytes.
-/
namespace Go.Proofs.YtpkmkpeabfmbiaaGreatDoor
open Go.ChangeShapes Go.WideShapes Go.ChangeAt Go.RowKit Go.Joins
set_option linter.unusedVariables false
set_option linter.unusedSimpArgs false

theorem parentOf_lt {ns : List Nod} (hp : 0 < ns.length) (i : Int) : parentOf i ns < ns.length := by
  unfold parentOf
  split
  · rename_i k hk
    have := List.findIdx?_eq_some_iff_getElem.1 hk
    exact this.1
  · exact hp
/-- What stays true of a look, step by step. -/
structure LkInv (ns : List Nod) (s : Lk) : Prop where
  node : s.node < ns.length
  hops : s.hops ≤ 8
  parts : s.parts.length ≤ 61 * (s.hops + 1)
theorem lkInv_step {ns : List Nod} (hf : LinksFit ns) (hld : Lead ns) (hp : 0 < ns.length) {u g : Int} {fol : Bool} {node : Nat} {p : List UInt8} {r : List (List UInt8)} {hops : Nat} (h : LkInv ns ⟨node, p :: r, hops⟩) (h0 : (lkStep ns u g fol node p r hops).1 = 0) : LkInv ns (lkStep ns u g fol node p r hops).2 := by
  have hn : node < ns.length := h.node
  have hh : hops ≤ 8 := h.hops
  have hpl : r.length + 1 ≤ 61 * (hops + 1) := h.parts
  unfold lkStep at h0 ⊢
  by_cases h1 : (nodeAt ns node).kind ≠ 2
  · rw [if_pos h1] at h0; simp at h0
  rw [if_neg h1] at h0 ⊢
  by_cases h2 : mayB u g (nodeAt ns node).mode (nodeAt ns node).uid (nodeAt ns node).gid 1 = false
  · rw [if_pos h2] at h0; simp at h0
  rw [if_neg h2] at h0 ⊢
  by_cases h3 : p = [46]
  · rw [if_pos h3]; exact ⟨hn, hh, by simp only; omega⟩
  rw [if_neg h3] at h0 ⊢
  by_cases h4 : p = [46, 46]
  · rw [if_pos h4]; exact ⟨parentOf_lt hp _, hh, by simp only; omega⟩
  rw [if_neg h4] at h0 ⊢
  by_cases h5 : atE (nodeAt ns node).list p < 0
  · rw [if_pos h5] at h0; simp at h0
  rw [if_neg h5] at h0 ⊢
  obtain ⟨m2, hat, hm2⟩ := atE_in hld hn h5
  have hmn : (atE (nodeAt ns node).list p).toNat = m2 := by rw [hat]; simp
  rw [hmn] at h0 ⊢
  by_cases h6 : (nodeAt ns m2).kind ≠ 3 ∨ (r = [] ∧ fol = false)
  · rw [if_pos h6]; exact ⟨hm2, hh, by simp only; omega⟩
  rw [if_neg h6] at h0 ⊢
  by_cases h7 : hops = 8
  · rw [if_pos h7] at h0; simp at h0
  rw [if_neg h7]
  have h8 := hf m2 (by
    by_cases hk : (nodeAt ns m2).kind = 3
    · exact hk
    · exact absurd (.inl hk) h6)
  refine ⟨by simp only; split <;> omega, by simp only; omega, by simp only [List.length_append]; omega⟩

/-- A look's weight, read off its cells. -/
def lkMeas (b : Nat) (w : World) : Nat := match w.heap[b]? with
  | some (.cells cs _ _) => (8 - (intOf (cs.getD 6 undef)).toNat) * 64 + (match cs.getD 5 undef with
    | .slice _ n _ => n
    | _ => 0)
  | _ => 0
theorem lkMeas_is {w : World} {b : Nat} {o : Option Addr} {n c : Nat} {room u g : Int} {s : Lk} (h : LkAt w b o n c room u g s) : lkMeas b w = lkW s := by
  obtain ⟨pv, hb, ⟨o2, c2, rfl, -, -, -⟩, -⟩ := h
  unfold lkMeas lkW
  rw [hb]
  simp [lkCells, intOf]
theorem LkAt.below {w w' : World} {b : Nat} {o : Option Addr} {n c : Nat} {room u g : Int} {s : Lk} (h : LkAt w b o n c room u g s) (hb : Below w.heap.size w w') : LkAt w' b o n c room u g s := by
  obtain ⟨pv, h1, h2, h3⟩ := h
  exact ⟨pv, (hb.block b (lt_of_heap h1)).trans h1, h2.below hb, h3⟩
theorem slash_at {s : ByteArray} (h : 0 < s.size) : slashB s.data.toList = decide ((s[s.size - 1]'(by omega)) = 47) := by
  have hl := len_size s
  unfold slashB
  have : s.data.toList.getLast? = some (s[s.size - 1]'(by omega)) := by
    rw [List.getLast?_eq_getElem?, List.getElem?_eq_getElem (by omega)]
    simp only [hl]
    rfl
  rw [this, Bool.eq_iff_iff]
  simp
theorem tupII {a a' b b' : Int} (h1 : a = a') (h2 : b = b') : Ending.returned (.tuple #[.int .i64 a, .int .i64 b]) = .returned (.tuple #[.int .i64 a', .int .i64 b']) := by rw [h1, h2]
end Go.Proofs.YtpkmkpeabfmbiaaGreatDoor


/-
  The contract of the model's l4Find: what a look finds.
  Conditions: a good file system of at most 2^20 values and letters together; a text of at most 2^30 bytes.
-/
namespace Go.Proofs.YtpkmkpeabfmbiaaGreatDoor
open Go.ChangeShapes Go.WideShapes Go.ChangeAt Go.RowKit Go.Joins
set_option linter.unusedVariables false
set_option linter.unusedSimpArgs false

theorem alloc3_fst' (w : World) (a b : Obj) : ((w.alloc a).alloc b).heap[w.heap.size]? = some a := by
  rw [Below.heap_alloc (w.alloc a) b w.heap.size (by simp)]; exact heap_alloc_new w a
theorem alloc3_snd' (w : World) (a b : Obj) : ((w.alloc a).alloc b).heap[w.heap.size + 1]? = some b := by
  have h := heap_alloc_new (w.alloc a) b
  rw [World.size_alloc] at h
  exact h
theorem lkFind_is {ns : List Nod} {u g : Int} {l : List UInt8} {fol : Bool} (h : goodB l = true ∧ wholeB l = true) : lkFind ns u g l fol = if (lkGo ns u g (fol || slashB l) ⟨0, parts l, 0⟩).1 ≠ 0 then ((lkGo ns u g (fol || slashB l) ⟨0, parts l, 0⟩).1, 0)
    else if slashB l = true ∧ (nodeAt ns (lkGo ns u g (fol || slashB l) ⟨0, parts l, 0⟩).2).kind ≠ 2 then (3, 0)
    else (0, (lkGo ns u g (fol || slashB l) ⟨0, parts l, 0⟩).2) := by
  unfold lkFind; rw [if_pos h]
theorem l2Whole_is {s : ByteArray} {b : Bool} (h : wgB s.data.toList = b) (w : World) (hs : s.size ≤ 1073741824) : Calls Tryz.prog 75 #[.string s] w fun e w' => e = .returned (.bool b) ∧ Below w.heap.size w w' :=
  (l2Whole_any s w hs).mono fun e w' ⟨h1, h2⟩ => ⟨by rw [h1, h], h2⟩

set_option maxRecDepth 100000 in
set_option maxHeartbeats 8000000 in
theorem l4Find_any (f : FsD) (v : Value) (u g : Int) (s : ByteArray) (fol : Bool) (w : World) (hR : FsA w v f) (hF : LookFs f) (hLL : LinkLen f.nodes) (hs : s.size ≤ 1073741824) :
    Calls Tryz.prog 36 #[v, .agg #[.int .i64 u, .int .i64 g], .string s, .bool fol] w fun e w' => e = .returned (.tuple #[.int .i64 ((lkFind f.nodes u g s.data.toList fol).2 : Nat), .int .i64 (lkFind f.nodes u g s.data.toList fol).1]) ∧ Below w.heap.size w w' := by
  obtain ⟨nv, rfl, hN⟩ := hR
  have HN := Lib.hid hN
  obtain ⟨o, c, rfl, hm, hH⟩ := hN
  have HH := Lib.hid hH
  unfold maxLen at hm
  have hl : f.nodes.length ≤ 1048576 := (lists_small hF.size).1
  have HBx : Hid (∀ a b, Below w.heap.size w ((w.alloc a).alloc b)) := Lib.hid (fun a b => ((Below.refl _ _).alloc (Nat.le_refl _) _).alloc (by simp) _)
  have KA0 := Lib.hid (alloc3_fst' w (.cells #[.slice o f.nodes.length c, .int .i64 f.room] 34) (.cells #[.int .i64 u, .int .i64 g] 36))
  have KB0 := Lib.hid (alloc3_snd' w (.cells #[.slice o f.nodes.length c, .int .i64 f.room] 34) (.cells #[.int .i64 u, .int .i64 g] 36))
  clear hH
  by_cases hw : wgB s.data.toList = true
  · have HW := Lib.hid hw
    have hgd : goodB s.data.toList = true ∧ wholeB s.data.toList = true := by
      unfold wgB at hw
      simp only [Bool.and_eq_true] at hw
      exact ⟨hw.2, hw.1⟩
    have HGD := Lib.hid hgd
    have h60 : 0 < s.size ∧ s.size ≤ 60 := by
      have h1 := hgd.1
      simp [goodB] at h1
      omega
    obtain ⟨hs0, hs60⟩ := h60
    have HSL := Lib.hid (slash_at hs0)
    clear hw hgd
    go_enter Tryz.func36, Tryz.ntmps36
    go_wp2_with fail
    refine (l2Whole_is HW.out _ hs).mono ?_
    rintro e w1 ⟨rfl, hb1⟩
    have HB1 := Lib.hid ((HBx.out _ _).trans (hb1.mono (HBx.out _ _).size))
    have KA1 := Lib.hid ((hb1.block w.heap.size (lt_of_heap KA0.out)).trans KA0.out)
    have KB1 := Lib.hid ((hb1.block (w.heap.size + 1) (lt_of_heap KB0.out)).trans KB0.out)
    have x0 : w1.cell? ⟨w.heap.size, 0, none⟩ = some (.slice o f.nodes.length c) := cell_blk KA1.out 0
    have x1 : w1.cell? ⟨w.heap.size, 1, none⟩ = some (.int .i64 f.room) := cell_blk KA1.out 1
    have y0 : w1.cell? ⟨w.heap.size + 1, 0, none⟩ = some (.int .i64 u) := cell_blk KB1.out 0
    have y1 : w1.cell? ⟨w.heap.size + 1, 1, none⟩ = some (.int .i64 g) := cell_blk KB1.out 1
    obtain ⟨sl, hsl⟩ : ∃ sl, slashB s.data.toList = sl := ⟨_, rfl⟩
    have HSB : Hid ((((s[s.size - 1]'(by omega)).toNat : Int) == 47) = sl) := Lib.hid (by
      rw [← hsl, HSL.out, Bool.eq_iff_iff]
      simp only [beq_iff_eq, decide_eq_true_eq]
      constructor
      · intro h; exact UInt8.toNat_inj.1 (by rw [show (47 : UInt8).toNat = 47 from rfl]; omega)
      · intro h; rw [h]; rfl)
    have HS2 := Lib.hid hsl
    have HB1d := Lib.hid HB1.out.drew
    have KA1d : Hid (w1.drew.heap[w.heap.size]? = _) := Lib.hid KA1.out
    have KB1d : Hid (w1.drew.heap[w.heap.size + 1]? = _) := Lib.hid KB1.out
    clear hb1 hsl
    go_wp2
    rw [HSB.out]
    go_region_held3 (fun w' => w'.cell? ⟨w.heap.size, 0, none⟩ = some (.slice o f.nodes.length c) ∧ w'.cell? ⟨w.heap.size, 1, none⟩ = some (.int .i64 f.room) ∧ w'.cell? ⟨w.heap.size + 1, 0, none⟩ = some (.int .i64 u) ∧ w'.cell? ⟨w.heap.size + 1, 1, none⟩ = some (.int .i64 g)) (first | exact ⟨x0, x1, y0, y1⟩ | exact ⟨x2, x3, y2, y3⟩ | exact ⟨(xa 0 _).trans x2, (xa 1 _).trans x3, (ya 0 _).trans y2, (ya 1 _).trans y3⟩)
      (first
        | (go_at_call 76; refine (l2Parts_any s _ hs).mono ?_; rintro e w2 ⟨vP, rfl, hLP, hbP⟩; have HB2 := Lib.hid (HB1d.out.trans (hbP.mono HB1d.out.size)); have KA2 := Lib.hid ((hbP.block w.heap.size (lt_of_heap KA1d.out)).trans KA1d.out); have KB2 := Lib.hid ((hbP.block (w.heap.size + 1) (lt_of_heap KB1d.out)).trans KB1d.out); have x2 : w2.cell? ⟨w.heap.size, 0, none⟩ = some (.slice o f.nodes.length c) := cell_blk KA2.out 0; have x3 : w2.cell? ⟨w.heap.size, 1, none⟩ = some (.int .i64 f.room) := cell_blk KA2.out 1; have y2 : w2.cell? ⟨w.heap.size + 1, 0, none⟩ = some (.int .i64 u) := cell_blk KB2.out 0; have y3 : w2.cell? ⟨w.heap.size + 1, 1, none⟩ = some (.int .i64 g) := cell_blk KB2.out 1; have HLP := Lib.hid hLP; obtain ⟨oo, cap, rfl, hoo⟩ := owns_form hLP; have HOO := Lib.hid hoo; have xa : ∀ j oo, (w2.alloc oo).cell? ⟨w.heap.size, j, none⟩ = w2.cell? ⟨w.heap.size, j, none⟩ := fun j oo => ((Below.refl _ w2).alloc (Nat.le_refl _) oo).cell (p := ⟨w.heap.size, j, none⟩) (lt_of_heap KA2.out); have ya : ∀ j oo, (w2.alloc oo).cell? ⟨w.heap.size + 1, j, none⟩ = w2.cell? ⟨w.heap.size + 1, j, none⟩ := fun j oo => ((Below.refl _ w2).alloc (Nat.le_refl _) oo).cell (p := ⟨w.heap.size + 1, j, none⟩) (lt_of_heap KB2.out); clear hLP hoo hbP))
    obtain ⟨W3, hW3⟩ : ∃ W3, w2.alloc (.cells #[.slice o f.nodes.length c, .int .i64 f.room, .int .i64 u, .int .i64 g, .int .i64 0, .slice oo (parts s.data.toList).length cap, .int .i64 0] 119) = W3 := ⟨_, rfl⟩
    have hA3 : Below w2.heap.size w2 W3 := by rw [← hW3]; exact (Below.refl _ _).alloc (Nat.le_refl _) _
    have hL3 : LkAt W3 w2.heap.size o f.nodes.length c f.room u g ⟨0, parts s.data.toList, 0⟩ := by
      refine ⟨.slice oo (parts s.data.toList).length cap, by rw [← hW3]; exact heap_alloc_new w2 (.cells #[.slice o f.nodes.length c, .int .i64 f.room, .int .i64 u, .int .i64 g, .int .i64 0, .slice oo (parts s.data.toList).length cap, .int .i64 0] 119), HLP.out.read.below hA3, fun a l k e => ?_⟩
      simp only [Value.slice.injEq] at e
      obtain ⟨g9, rfl, -, h9⟩ := HOO.out a e.1
      simp only
      omega
    have hsz3 : w2.heap.size < W3.heap.size := by rw [← hW3]; simp
    have HA3 := Lib.hid hA3
    have HB3 := Lib.hid (HB2.out.trans (hA3.mono HB2.out.size))
    have KA3 := Lib.hid ((hA3.block w.heap.size (lt_of_heap KA2.out)).trans KA2.out)
    have HL3 := Lib.hid hL3
    have hw2 := HB2.out.size
    have hw2' := lt_of_heap KA2.out
    have HI3 : Hid (LkInv f.nodes ⟨0, parts s.data.toList, 0⟩) := Lib.hid ⟨hF.pos, Nat.zero_le _, by have h7 := parts_le s.data.toList; rw [len_size] at h7; simp only; omega⟩
    have HFI := Lib.hid (lkFind_is (ns := f.nodes) (u := u) (g := g) (fol := fol) HGD.out)
    rw [HS2.out] at HFI
    rw [hW3]
    have HF := Lib.hid hF
    clear hW3 hA3 hL3 x0 x1 y0 y1 x2 x3 y2 y3 xa ya
    go_wp2
    go_loopw [] (fun wr => ∃ st : Lk, LkAt wr w2.heap.size o f.nodes.length c f.room u g st ∧ LkInv f.nodes st ∧ lkGo f.nodes u g (fol || sl) st = lkGo f.nodes u g (fol || sl) ⟨0, parts s.data.toList, 0⟩ ∧ Below w.heap.size w wr ∧ wr.heap[w.heap.size]? = some (.cells #[.slice o f.nodes.length c, .int .i64 f.room] 34)) (fun wr => lkMeas w2.heap.size wr)
    case atStart => exact ⟨_, HL3.out, HI3.out, rfl, HB3.out, KA3.out⟩
    case round =>
      obtain ⟨⟨node, ps, hops⟩, hL, hI, hG, hB, hKA⟩ := hrel
      have HLr := Lib.hid hL
      have HIr := Lib.hid hI
      have HGr := Lib.hid hG
      have HBr := Lib.hid hB
      have KAr := Lib.hid hKA
      obtain ⟨pv, hbk, ⟨o9, c9, rfl, -, -, -⟩, -⟩ := hL
      simp only at hbk
      have hbr := lt_of_heap hbk
      have c4 : wr.cell? ⟨w2.heap.size, 4, none⟩ = some (.int .i64 (node : Int)) := cell_blk hbk 4
      have c5 : wr.cell? ⟨w2.heap.size, 5, none⟩ = some (.slice o9 ps.length c9) := cell_blk hbk 5
      have hnl : node < f.nodes.length := hI.node
      have hpl : ps.length ≤ 549 := by have h7 := hI.parts; have h8 := hI.hops; simp only at h7 h8; omega
      clear hI hG hB hKA hbk
      cases ps with
      | nil =>
        have HG0 : Hid (lkGo f.nodes u g (fol || sl) ⟨0, parts s.data.toList, 0⟩ = (0, node)) := Lib.hid (by rw [← HGr.out]; exact lkGo_nil _ _ _ _ _ _)
        simp only [List.length_nil] at c5
        obtain ⟨g3, f3, lv3, e3, hg3, hcc, -, -⟩ := HH.out node hnl
        have d0 := (HBr.out.cell (p := ⟨g3, f3 + node * 7, none⟩) hg3).trans hcc.c0
        have hqe : f.nodes[node] = nodeAt f.nodes node := (getD_at hnl).symm
        rw [hqe] at d0
        obtain ⟨kd, hkd⟩ : ∃ kd, (nodeAt f.nodes node).kind = kd := ⟨_, rfl⟩
        rw [hkd] at d0
        have HKD := Lib.hid hkd
        subst e3
        have x0 : wr.cell? ⟨w.heap.size, 0, none⟩ = some (.slice (some ⟨g3, f3, none⟩) f.nodes.length c) := cell_blk KAr.out 0
        have z0 := fun d os => cell_regrown (w := wr) x0 d os
        have z4 := fun d os => cell_regrown (w := wr) c4 d os
        have zk := fun d os => cell_regrown (w := wr) d0 d os
        clear hcc hqe hkd
        cases sl with
        | false =>
          have HFD : Hid (lkFind f.nodes u g s.data.toList fol = (0, node)) := Lib.hid (by rw [HFI.out, HG0.out]; simp)
          go_wp2
          refine wp_region_quiet_below (by kernel_rfl) (by kernel_rfl) ?_
          repeat (first | go_big_quiet_step (fail) | quiet_step (fail))
          refine wpQuiet_nil ?_
          intro w5 hwq
          have hb5 : Below wr.heap.size wr w5 := by
            obtain ⟨pp, rfl⟩ := hwq
            exact below_regrown _ _ _
          have HB5 := Lib.hid (HBr.out.trans (hb5.mono HBr.out.size))
          have e4 : w5.cell? ⟨w2.heap.size, 4, none⟩ = some (.int .i64 (node : Int)) := (hb5.cell (p := ⟨w2.heap.size, 4, none⟩) hbr).trans c4
          clear hwq hb5
          go_wp2
          go_ret2
          exact ⟨by rw [HFD.out]; rfl, HB5.out⟩
        | true =>
          by_cases hk2 : kd = 2
          · have HFD : Hid (lkFind f.nodes u g s.data.toList fol = (0, node)) := Lib.hid (by rw [HFI.out, HG0.out]; simp [HKD.out, hk2])
            subst hk2
            go_wp2
            refine wp_region_quiet_below (by kernel_rfl) (by kernel_rfl) ?_
            repeat (first | go_big_quiet_step (fail) | quiet_step (fail))
            refine wpQuiet_nil ?_
            intro w5 hwq
            have hb5 : Below wr.heap.size wr w5 := by
              obtain ⟨pp, rfl⟩ := hwq
              exact below_regrown _ _ _
            have HB5 := Lib.hid (HBr.out.trans (hb5.mono HBr.out.size))
            have e4 : w5.cell? ⟨w2.heap.size, 4, none⟩ = some (.int .i64 (node : Int)) := (hb5.cell (p := ⟨w2.heap.size, 4, none⟩) hbr).trans c4
            clear hwq hb5
            go_wp2
            go_ret2
            exact ⟨by rw [HFD.out]; rfl, HB5.out⟩
          · have HFD : Hid (lkFind f.nodes u g s.data.toList fol = (3, 0)) := Lib.hid (by rw [HFI.out, HG0.out]; simp [HKD.out, hk2])
            have hkb : (kd == 2) = false := beq_eq_false_iff_ne.2 hk2
            have hkc : (kd != 2) = true := by rw [bne_iff_ne]; exact hk2
            go_wp2
            refine wp_region_quiet_below (by kernel_rfl) (by kernel_rfl) ?_
            repeat (first | go_big_quiet_step (fail) | quiet_step (fail))
            refine wpQuiet_nil ?_
            intro w5 hwq
            have hb5 : Below wr.heap.size wr w5 := by
              obtain ⟨pp, rfl⟩ := hwq
              exact below_regrown _ _ _
            have HB5 := Lib.hid (HBr.out.trans (hb5.mono HBr.out.size))
            have e4 : w5.cell? ⟨w2.heap.size, 4, none⟩ = some (.int .i64 (node : Int)) := (hb5.cell (p := ⟨w2.heap.size, 4, none⟩) hbr).trans c4
            clear hwq hb5
            go_wp2
            go_ret2
            exact ⟨by rw [HFD.out]; rfl, HB5.out⟩
      | cons p r =>
        simp only [List.length_cons] at c5 hpl
        have hlp : 0 < ((r.length + 1 : Nat) : Int) := by omega
        have hms := Lib.hid (lkMeas_is HLr.out)
        cases fol with
        | false =>
          go_wp2_with fail
          refine (step_any f o c u g sl w2.heap.size node hops p r w _ HF.out hLL HN.out HBr.out hw2 HLr.out hnl HIr.out.hops (by omega)).mono ?_
          rintro e w6 ⟨rfl, hb6, hst⟩
          have HST := Lib.hid hst
          have HB6 := Lib.hid (HBr.out.trans (hb6.mono hw2))
          have KA6 := Lib.hid ((hb6.block w.heap.size (by omega)).trans KAr.out)
          have HG1 : Hid (lkGo f.nodes u g sl ⟨node, p :: r, hops⟩ = lkGo f.nodes u g sl ⟨0, parts s.data.toList, 0⟩) := Lib.hid HGr.out
          have HFI2 : Hid (lkFind f.nodes u g s.data.toList false = if (lkGo f.nodes u g sl ⟨0, parts s.data.toList, 0⟩).1 ≠ 0 then ((lkGo f.nodes u g sl ⟨0, parts s.data.toList, 0⟩).1, 0) else if sl = true ∧ (nodeAt f.nodes (lkGo f.nodes u g sl ⟨0, parts s.data.toList, 0⟩).2).kind ≠ 2 then (3, 0) else (0, (lkGo f.nodes u g sl ⟨0, parts s.data.toList, 0⟩).2)) := Lib.hid HFI.out
          have HSTEP : Hid ((lkStep f.nodes u g sl node p r hops).1 = 0 → lkGo f.nodes u g sl ⟨node, p :: r, hops⟩ = lkGo f.nodes u g sl (lkStep f.nodes u g sl node p r hops).2 ∧ LkInv f.nodes (lkStep f.nodes u g sl node p r hops).2 ∧ lkW (lkStep f.nodes u g sl node p r hops).2 < lkW ⟨node, p :: r, hops⟩) := Lib.hid (fun h => ⟨lkGo_step HF.out.fit HIr.out.hops h, lkInv_step HF.out.fit HF.out.lead HF.out.pos HIr.out h, (step_less HF.out.fit HIr.out.hops h).1⟩)
          have HSTOP : Hid ((lkStep f.nodes u g sl node p r hops).1 ≠ 0 → lkGo f.nodes u g sl ⟨node, p :: r, hops⟩ = ((lkStep f.nodes u g sl node p r hops).1, 0)) := Lib.hid (fun h => lkGo_stop h)
          clear hst hb6
          obtain ⟨q, hq⟩ : ∃ q, lkStep f.nodes u g sl node p r hops = q := ⟨_, rfl⟩
          rw [hq] at HST HSTEP HSTOP ⊢
          clear hq HGr HFI
          obtain ⟨cd, st⟩ := q
          simp only at HST HSTEP HSTOP ⊢
          by_cases hc : cd = 0
          · subst hc
            have HL6 := Lib.hid (HST.out rfl)
            obtain ⟨h6a, h6b, h6c⟩ := HSTEP.out rfl
            have HG6 : Hid (lkGo f.nodes u g sl st = lkGo f.nodes u g sl ⟨0, parts s.data.toList, 0⟩) := Lib.hid (by rw [← h6a]; exact HG1.out)
            have HI6 := Lib.hid h6b
            have HM6 : Hid (lkMeas w2.heap.size w6 < lkMeas w2.heap.size wr) := Lib.hid (by rw [lkMeas_is HL6.out, lkMeas_is HLr.out]; exact h6c)
            clear h6a h6b h6c
            go_wp2
            go_roundw
            case rel => exact ⟨st, HL6.out, HI6.out, HG6.out, HB6.out, KA6.out⟩
            case measure => exact HM6.out
          · have HFD : Hid (lkFind f.nodes u g s.data.toList false = (cd, 0)) := Lib.hid (by rw [HFI2.out, ← HG1.out, HSTOP.out hc]; simp [hc])
            have hcb : (cd == 0) = false := beq_eq_false_iff_ne.2 hc
            have hcc : (cd != 0) = true := by rw [bne_iff_ne]; exact hc
            go_wp2
            go_ret2
            exact ⟨by rw [HFD.out]; rfl, HB6.out⟩
        | true =>
          go_wp2_with fail
          refine (step_any f o c u g true w2.heap.size node hops p r w _ HF.out hLL HN.out HBr.out hw2 HLr.out hnl HIr.out.hops (by omega)).mono ?_
          rintro e w6 ⟨rfl, hb6, hst⟩
          have HST := Lib.hid hst
          have HB6 := Lib.hid (HBr.out.trans (hb6.mono hw2))
          have KA6 := Lib.hid ((hb6.block w.heap.size (by omega)).trans KAr.out)
          have HG1 : Hid (lkGo f.nodes u g true ⟨node, p :: r, hops⟩ = lkGo f.nodes u g true ⟨0, parts s.data.toList, 0⟩) := Lib.hid HGr.out
          have HFI2 : Hid (lkFind f.nodes u g s.data.toList true = if (lkGo f.nodes u g true ⟨0, parts s.data.toList, 0⟩).1 ≠ 0 then ((lkGo f.nodes u g true ⟨0, parts s.data.toList, 0⟩).1, 0) else if sl = true ∧ (nodeAt f.nodes (lkGo f.nodes u g true ⟨0, parts s.data.toList, 0⟩).2).kind ≠ 2 then (3, 0) else (0, (lkGo f.nodes u g true ⟨0, parts s.data.toList, 0⟩).2)) := Lib.hid HFI.out
          have HSTEP : Hid ((lkStep f.nodes u g true node p r hops).1 = 0 → lkGo f.nodes u g true ⟨node, p :: r, hops⟩ = lkGo f.nodes u g true (lkStep f.nodes u g true node p r hops).2 ∧ LkInv f.nodes (lkStep f.nodes u g true node p r hops).2 ∧ lkW (lkStep f.nodes u g true node p r hops).2 < lkW ⟨node, p :: r, hops⟩) := Lib.hid (fun h => ⟨lkGo_step HF.out.fit HIr.out.hops h, lkInv_step HF.out.fit HF.out.lead HF.out.pos HIr.out h, (step_less HF.out.fit HIr.out.hops h).1⟩)
          have HSTOP : Hid ((lkStep f.nodes u g true node p r hops).1 ≠ 0 → lkGo f.nodes u g true ⟨node, p :: r, hops⟩ = ((lkStep f.nodes u g true node p r hops).1, 0)) := Lib.hid (fun h => lkGo_stop h)
          clear hst hb6
          obtain ⟨q, hq⟩ : ∃ q, lkStep f.nodes u g true node p r hops = q := ⟨_, rfl⟩
          rw [hq] at HST HSTEP HSTOP ⊢
          clear hq HGr HFI
          obtain ⟨cd, st⟩ := q
          simp only at HST HSTEP HSTOP ⊢
          by_cases hc : cd = 0
          · subst hc
            have HL6 := Lib.hid (HST.out rfl)
            obtain ⟨h6a, h6b, h6c⟩ := HSTEP.out rfl
            have HG6 : Hid (lkGo f.nodes u g true st = lkGo f.nodes u g true ⟨0, parts s.data.toList, 0⟩) := Lib.hid (by rw [← h6a]; exact HG1.out)
            have HI6 := Lib.hid h6b
            have HM6 : Hid (lkMeas w2.heap.size w6 < lkMeas w2.heap.size wr) := Lib.hid (by rw [lkMeas_is HL6.out, lkMeas_is HLr.out]; exact h6c)
            clear h6a h6b h6c
            go_wp2
            go_roundw
            case rel => exact ⟨st, HL6.out, HI6.out, HG6.out, HB6.out, KA6.out⟩
            case measure => exact HM6.out
          · have HFD : Hid (lkFind f.nodes u g s.data.toList true = (cd, 0)) := Lib.hid (by rw [HFI2.out, ← HG1.out, HSTOP.out hc]; simp [hc])
            have hcb : (cd == 0) = false := beq_eq_false_iff_ne.2 hc
            have hcc : (cd != 0) = true := by rw [bne_iff_ne]; exact hc
            go_wp2
            go_ret2
            exact ⟨by rw [HFD.out]; rfl, HB6.out⟩
  · have HW : Hid (wgB s.data.toList = false) := Lib.hid (by simpa using hw)
    have HFD : Hid (lkFind f.nodes u g s.data.toList fol = (1, 0)) := Lib.hid (by
      unfold lkFind
      rw [if_neg]
      intro h
      apply hw
      unfold wgB
      rw [h.1, h.2]; rfl)
    clear hw
    go_enter Tryz.func36, Tryz.ntmps36
    go_wp2_with fail
    refine (l2Whole_is HW.out _ hs).mono ?_
    rintro e w1 ⟨rfl, hb1⟩
    have HB1 := Lib.hid ((HBx.out _ _).trans (hb1.mono (HBx.out _ _).size))
    clear hb1
    go_wp2
    go_ret2
    exact ⟨by rw [HFD.out]; rfl, HB1.out⟩
end Go.Proofs.YtpkmkpeabfmbiaaGreatDoor
