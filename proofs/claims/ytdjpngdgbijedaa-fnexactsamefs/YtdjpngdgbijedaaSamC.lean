
/-
  Contracts of the model's l3SameNode and SameFs.
  Conditions: at most 2^20 values and letters together.
-/
import Derived.Test.YtdjpngdgbijedaaSamB
namespace Go.Proofs.Ytdjpngdgbijedaa
open Go.ChangeShapes Go.WideShapes Go.ChangeAt Go.RowKit Go.Joins
set_option linter.unusedVariables false
set_option linter.unusedSimpArgs false

theorem alloc2_fst (w : World) (a b : Obj) : ((w.alloc a).alloc b).heap[w.heap.size]? = some a := by
  have h := Below.heap_alloc (w.alloc a) b w.heap.size (by simp)
  rw [h]; exact heap_alloc_new w a
theorem alloc2_snd (w : World) (a b : Obj) : ((w.alloc a).alloc b).heap[w.heap.size + 1]? = some b := by
  have h := heap_alloc_new (w.alloc a) b
  rw [World.size_alloc] at h
  exact h

set_option maxHeartbeats 4000000 in
theorem l3SameNode_any (p q : Nod) (u v : Value) (w : World) (hU : EntsA w u p.list) (hV : EntsA w v q.list) (hs : p.list.length ≤ 1048576) : Calls Try.prog 55 #[.agg #[.int .i64 p.kind, .int .i64 p.mode, .int .i64 p.uid, .int .i64 p.gid, .int .i64 p.time, .string (bs p.data), u], .agg #[.int .i64 q.kind, .int .i64 q.mode, .int .i64 q.uid, .int .i64 q.gid, .int .i64 q.time, .string (bs q.data), v]] w fun e w' => e = .returned (.bool (eqB p q)) ∧ Below w.heap.size w w' := by
  obtain ⟨o1, c1, rfl, hm1, hH1⟩ := id hU
  obtain ⟨o2, c2, rfl, hm2, hH2⟩ := id hV
  have HU := Lib.hid hU
  have HV := Lib.hid hV
  have HH1 := Lib.hid hH1
  have HH2 := Lib.hid hH2
  clear hU hV hH1 hH2
  obtain ⟨k1, m1, u1, gi1, t1, d1, e1⟩ := p
  obtain ⟨k2, m2, u2, gi2, t2, d2, e2⟩ := q
  simp only at HU HV HH1 HH2 hs hm1 hm2 ⊢
  have HD : Hid (bs d1 = bs d2 ↔ d1 = d2) := Lib.hid bs_inj
  obtain ⟨x1, hx1⟩ : ∃ x, x = bs d1 := ⟨_, rfl⟩
  obtain ⟨x2, hx2⟩ : ∃ x, x = bs d2 := ⟨_, rfl⟩
  rw [← hx1, ← hx2] at HD ⊢
  clear hx1 hx2
  have HB : Hid (∀ a b, Below w.heap.size w ((w.alloc a).alloc b)) := Lib.hid (fun a b => ((Below.refl _ _).alloc (Nat.le_refl _) _).alloc (by simp) _)
  unfold maxLen at hm1 hm2
  by_cases hl : e1.length = e2.length
  · have HL := Lib.hid hl
    rw [← hl] at hm2 ⊢
    clear hl
    have HK1 := Lib.hid (alloc2_fst w (.cells #[.int .i64 k1, .int .i64 m1, .int .i64 u1, .int .i64 gi1, .int .i64 t1, .string x1, .slice o1 e1.length c1] 47) (.cells #[.int .i64 k2, .int .i64 m2, .int .i64 u2, .int .i64 gi2, .int .i64 t2, .string x2, .slice o2 e1.length c2] 47))
    have HK2 := Lib.hid (alloc2_snd w (.cells #[.int .i64 k1, .int .i64 m1, .int .i64 u1, .int .i64 gi1, .int .i64 t1, .string x1, .slice o1 e1.length c1] 47) (.cells #[.int .i64 k2, .int .i64 m2, .int .i64 u2, .int .i64 gi2, .int .i64 t2, .string x2, .slice o2 e1.length c2] 47))
    go_enter Try.func55, Try.ntmps55
    go_wp2
    go_loopw [16] (fun i wr => ∃ k : Nat, k ≤ e1.length ∧ i = .int .i64 k ∧ Below w.heap.size w wr ∧ wr.heap[w.heap.size]? = some (.cells #[.int .i64 k1, .int .i64 m1, .int .i64 u1, .int .i64 gi1, .int .i64 t1, .string x1, .slice o1 e1.length c1] 47) ∧ wr.heap[w.heap.size + 1]? = some (.cells #[.int .i64 k2, .int .i64 m2, .int .i64 u2, .int .i64 gi2, .int .i64 t2, .string x2, .slice o2 e1.length c2] 47) ∧ ∀ j (h1 : j < e1.length) (h2 : j < e2.length), j < k → e1[j] = e2[j]) (fun i _ => e1.length - (intOf i).toNat)
    case atStart => exact ⟨0, Nat.zero_le _, rfl, HB.out _ _, HK1.out, HK2.out, fun j _ _ h => absurd h (Nat.not_lt_zero _)⟩
    case round =>
      obtain ⟨k, hk, rfl, hB, hk1, hk2, hJ⟩ := hrel
      have HJ := Lib.hid hJ
      have HKa := Lib.hid hk1
      have HKb := Lib.hid hk2
      clear hJ hk1 hk2
      by_cases hlt : k < e1.length
      · have hlt2 : k < e2.length := by have := HL.out; omega
        obtain ⟨g1, f1, rfl, q1, y1, z1, -⟩ := HH1.out k hlt
        obtain ⟨g2, f2, rfl, q2, y2, z2, -⟩ := HH2.out k hlt2
        have d1' := (hB.cell (p := ⟨g1, f1 + k * 2, none⟩) q1).trans y1
        have d2' := (hB.cell (p := ⟨g1, f1 + k * 2 + 1, none⟩) q1).trans z1
        have d3' := (hB.cell (p := ⟨g2, f2 + k * 2, none⟩) q2).trans y2
        have d4' := (hB.cell (p := ⟨g2, f2 + k * 2 + 1, none⟩) q2).trans z2
        obtain ⟨a, ha⟩ : ∃ a, a = bs e1[k].name := ⟨_, rfl⟩
        obtain ⟨b, hb⟩ : ∃ b, b = bs e2[k].name := ⟨_, rfl⟩
        obtain ⟨r, hr⟩ : ∃ r, r = e1[k].node := ⟨_, rfl⟩
        obtain ⟨s, hs⟩ : ∃ s, s = e2[k].node := ⟨_, rfl⟩
        rw [← ha] at d1'
        rw [← hr] at d2'
        rw [← hb] at d3'
        rw [← hs] at d4'
        have HEQ : Hid (e1[k] = e2[k] ↔ a = b ∧ r = s) := Lib.hid (by
          rw [ha, hb, hr, hs, bs_inj]
          constructor
          · intro h; rw [h]; exact ⟨rfl, rfl⟩
          · rintro ⟨h1, h2⟩
            cases h3 : e1[k]; cases h4 : e2[k]
            rw [h3, h4] at h1 h2
            simp only at h1 h2
            rw [h1, h2])
        have s1 := (cell_blk HKa.out 6).trans rfl
        have s2 := (cell_blk HKb.out 6).trans rfl
        clear y1 y2 z1 z2 ha hb hr hs
        have w1 := fun d os => cell_regrown (w := wr) d1' d os
        have w2 := fun d os => cell_regrown (w := wr) d2' d os
        have w3 := fun d os => cell_regrown (w := wr) d3' d os
        have w4 := fun d os => cell_regrown (w := wr) d4' d os
        have w6 := fun d os => cell_regrown (w := wr) s1 d os
        have w7 := fun d os => cell_regrown (w := wr) s2 d os
        go_wp2
        by_cases hab : a = b
        · by_cases hrs : r = s
          · have HJ2 : Hid (∀ j (h1 : j < e1.length) (h2 : j < e2.length), j < k + 1 → e1[j] = e2[j]) := Lib.hid (by
              intro j h1 h2 h
              rcases Nat.lt_succ_iff_lt_or_eq.1 h with h3 | rfl
              · exact HJ.out j h1 h2 h3
              · exact HEQ.out.2 ⟨hab, hrs⟩)
            subst hab hrs
            refine wp_region_quiet_below (by kernel_rfl) (by kernel_rfl) ?_
            repeat (first | go_big_quiet_step (fail) | quiet_step (fail))
            refine wpQuiet_nil ?_
            intro w5 hwq
            have hb5 : Below wr.heap.size wr w5 := by
              obtain ⟨pp, rfl⟩ := hwq
              exact below_regrown _ _ _
            clear hwq
            have HK5a := Lib.hid ((hb5.block w.heap.size (lt_of_heap HKa.out)).trans HKa.out)
            have HK5b := Lib.hid ((hb5.block (w.heap.size + 1) (lt_of_heap HKb.out)).trans HKb.out)
            clear w1 w2 w3 w4 w6 w7
            go_wp2
            go_roundw
            case rel => exact ⟨k + 1, hlt, by go_num, hB.trans (hb5.mono hB.size), HK5a.out, HK5b.out, HJ2.out⟩
            case measure => simp [intOf]; omega
          · have HF : Hid ((⟨k1, m1, u1, gi1, t1, d1, e1⟩ : Nod) ≠ ⟨k2, m2, u2, gi2, t2, d2, e2⟩) := Lib.hid (fun h => hrs (HEQ.out.1 (by injection h with _ _ _ _ _ _ h7; simp only [h7])).2)
            have hrb : (r == s) = false := beq_eq_false_iff_ne.2 hrs
            subst hab
            refine wp_region_quiet_below (by kernel_rfl) (by kernel_rfl) ?_
            repeat (first | go_big_quiet_step (fail) | quiet_step (fail))
            refine wpQuiet_nil ?_
            intro w5 hwq
            have hb5 : Below wr.heap.size wr w5 := by
              obtain ⟨pp, rfl⟩ := hwq
              exact below_regrown _ _ _
            clear hwq
            clear w1 w2 w3 w4 w6 w7
            go_wp2
            go_ret
            exact ⟨ret_bool (eqB_no HF.out), hB.trans (hb5.mono hB.size)⟩
        · have HF : Hid ((⟨k1, m1, u1, gi1, t1, d1, e1⟩ : Nod) ≠ ⟨k2, m2, u2, gi2, t2, d2, e2⟩) := Lib.hid (fun h => hab (HEQ.out.1 (by injection h with _ _ _ _ _ _ h7; simp only [h7])).1)
          have hab' := bytes_ne hab
          refine wp_region_quiet_below (by kernel_rfl) (by kernel_rfl) ?_
          repeat (first | go_big_quiet_step (fail) | quiet_step (fail))
          refine wpQuiet_nil ?_
          intro w5 hwq
          have hb5 : Below wr.heap.size wr w5 := by
            obtain ⟨pp, rfl⟩ := hwq
            exact below_regrown _ _ _
          clear hwq
          clear w1 w2 w3 w4 w6 w7
          go_wp2
          go_ret
          exact ⟨ret_bool (eqB_no HF.out), hB.trans (hb5.mono hB.size)⟩
      · have hee : e1 = e2 := List.ext_getElem HL.out (fun j h1 h2 => HJ.out j h1 h2 (by omega))
        subst hee
        have p0 := (cell_blk HKa.out 0).trans rfl
        have p1 := (cell_blk HKa.out 1).trans rfl
        have p2 := (cell_blk HKa.out 2).trans rfl
        have p3 := (cell_blk HKa.out 3).trans rfl
        have p4 := (cell_blk HKa.out 4).trans rfl
        have p5 := (cell_blk HKa.out 5).trans rfl
        have r0 := (cell_blk HKb.out 0).trans rfl
        have r1 := (cell_blk HKb.out 1).trans rfl
        have r2 := (cell_blk HKb.out 2).trans rfl
        have r3 := (cell_blk HKb.out 3).trans rfl
        have r4 := (cell_blk HKb.out 4).trans rfl
        have r5 := (cell_blk HKb.out 5).trans rfl
        by_cases hk : k1 = k2
        case neg =>
          have HF : Hid ((⟨k1, m1, u1, gi1, t1, d1, e1⟩ : Nod) ≠ ⟨k2, m2, u2, gi2, t2, d2, e1⟩) := Lib.hid (fun h => hk (by injection h))
          have hbk : (k1 == k2) = false := beq_eq_false_iff_ne.2 hk
          go_wp2
          go_ret
          exact ⟨ret_bool (eqB_no HF.out), hB⟩
        subst hk
        by_cases hm : m1 = m2
        case neg =>
          have HF : Hid ((⟨k1, m1, u1, gi1, t1, d1, e1⟩ : Nod) ≠ ⟨k1, m2, u2, gi2, t2, d2, e1⟩) := Lib.hid (fun h => hm (by injection h))
          have hbm : (m1 == m2) = false := beq_eq_false_iff_ne.2 hm
          go_wp2
          go_ret
          exact ⟨ret_bool (eqB_no HF.out), hB⟩
        subst hm
        by_cases hu : u1 = u2
        case neg =>
          have HF : Hid ((⟨k1, m1, u1, gi1, t1, d1, e1⟩ : Nod) ≠ ⟨k1, m1, u2, gi2, t2, d2, e1⟩) := Lib.hid (fun h => hu (by injection h))
          have hbu : (u1 == u2) = false := beq_eq_false_iff_ne.2 hu
          go_wp2
          go_ret
          exact ⟨ret_bool (eqB_no HF.out), hB⟩
        subst hu
        by_cases hgi : gi1 = gi2
        case neg =>
          have HF : Hid ((⟨k1, m1, u1, gi1, t1, d1, e1⟩ : Nod) ≠ ⟨k1, m1, u1, gi2, t2, d2, e1⟩) := Lib.hid (fun h => hgi (by injection h))
          have hbgi : (gi1 == gi2) = false := beq_eq_false_iff_ne.2 hgi
          go_wp2
          go_ret
          exact ⟨ret_bool (eqB_no HF.out), hB⟩
        subst hgi
        by_cases ht : t1 = t2
        case neg =>
          have HF : Hid ((⟨k1, m1, u1, gi1, t1, d1, e1⟩ : Nod) ≠ ⟨k1, m1, u1, gi1, t2, d2, e1⟩) := Lib.hid (fun h => ht (by injection h))
          have hbt : (t1 == t2) = false := beq_eq_false_iff_ne.2 ht
          go_wp2
          go_ret
          exact ⟨ret_bool (eqB_no HF.out), hB⟩
        subst ht
        by_cases hx : x1 = x2
        case neg =>
          have HF : Hid ((⟨k1, m1, u1, gi1, t1, d1, e1⟩ : Nod) ≠ ⟨k1, m1, u1, gi1, t1, d2, e1⟩) := Lib.hid (fun h => hx (HD.out.2 (by injection h)))
          have hbx := bytes_ne hx
          go_wp2
          go_ret
          exact ⟨ret_bool (eqB_no HF.out), hB⟩
        have hdd := HD.out.1 hx
        subst hdd
        subst hx
        go_wp2
        go_ret
        exact ⟨ret_bool (eqB_yes rfl), hB⟩
  · have HF : Hid ((⟨k1, m1, u1, gi1, t1, d1, e1⟩ : Nod) ≠ ⟨k2, m2, u2, gi2, t2, d2, e2⟩) := Lib.hid (fun h => hl (by injection h with _ _ _ _ _ _ h7; rw [h7]))
    have hlb : ((e1.length : Int) != (e2.length : Int)) = true := by rw [bne_iff_ne]; omega
    go_enter Try.func55, Try.ntmps55
    go_wp2
    go_ret
    exact ⟨ret_bool (eqB_no HF.out), HB.out _ _⟩

theorem l3Same_is {p q : Nod} {u v : Value} {w : World} {b : Bool} (h : eqB p q = b) (hU : EntsA w u p.list) (hV : EntsA w v q.list) (hs : p.list.length ≤ 1048576) : Calls Try.prog 55 #[.agg #[.int .i64 p.kind, .int .i64 p.mode, .int .i64 p.uid, .int .i64 p.gid, .int .i64 p.time, .string (bs p.data), u], .agg #[.int .i64 q.kind, .int .i64 q.mode, .int .i64 q.uid, .int .i64 q.gid, .int .i64 q.time, .string (bs q.data), v]] w fun e w' => e = .returned (.bool b) ∧ Below w.heap.size w w' :=
  (l3SameNode_any p q u v w hU hV hs).mono fun e w' ⟨h1, h2⟩ => ⟨by rw [h1, h], h2⟩
set_option maxHeartbeats 4000000 in
theorem specSameFs_any (f g : FsD) (u v : Value) (w : World) (hU : FsA w u f) (hV : FsA w v g) (hs : szF f ≤ 1048576) : Calls Try.prog 30 #[u, v] w fun e w' => e = .returned (.bool (eqB f g)) ∧ Below w.heap.size w w' := by
  obtain ⟨nu, rfl, hN1⟩ := hU
  obtain ⟨nv, rfl, hN2⟩ := hV
  obtain ⟨o1, c1, rfl, hm1, hH1⟩ := hN1
  obtain ⟨o2, c2, rfl, hm2, hH2⟩ := hN2
  have HH1 := Lib.hid hH1
  have HH2 := Lib.hid hH2
  have HB : Hid (∀ a b, Below w.heap.size w ((w.alloc a).alloc b)) := Lib.hid (fun a b => ((Below.refl _ _).alloc (Nat.le_refl _) _).alloc (by simp) _)
  have hl : f.nodes.length ≤ 1048576 := (lists_small hs).1
  have HLS : Hid (∀ n ∈ f.nodes, n.list.length ≤ 1048576) := Lib.hid (fun n hn => ((lists_small hs).2 n hn).1)
  unfold maxLen at hm1 hm2
  clear hs hH1 hH2
  obtain ⟨r1, hr1⟩ : ∃ r, r = f.room := ⟨_, rfl⟩
  obtain ⟨r2, hr2⟩ : ∃ r, r = g.room := ⟨_, rfl⟩
  rw [← hr1, ← hr2]
  have HR1 := Lib.hid hr1
  have HR2 := Lib.hid hr2
  clear hr1 hr2
  by_cases hlen : f.nodes.length = g.nodes.length
  · have HL := Lib.hid hlen
    rw [← hlen] at hm2 ⊢
    clear hlen
    by_cases hr : r1 = r2
    · have HRR : Hid (f.room = g.room) := Lib.hid (by rw [← HR1.out, ← HR2.out, hr])
      subst hr
      have HK1 := Lib.hid (alloc2_fst w (.cells #[.slice o1 f.nodes.length c1, .int .i64 r1] 24) (.cells #[.slice o2 f.nodes.length c2, .int .i64 r1] 24))
      have HK2 := Lib.hid (alloc2_snd w (.cells #[.slice o1 f.nodes.length c1, .int .i64 r1] 24) (.cells #[.slice o2 f.nodes.length c2, .int .i64 r1] 24))
      go_enter Try.func30, Try.ntmps30
      go_wp2
      go_loopw [23] (fun i wr => ∃ k : Nat, k ≤ f.nodes.length ∧ i = .int .i64 k ∧ Below w.heap.size w wr ∧ wr.heap[w.heap.size]? = some (.cells #[.slice o1 f.nodes.length c1, .int .i64 r1] 24) ∧ wr.heap[w.heap.size + 1]? = some (.cells #[.slice o2 f.nodes.length c2, .int .i64 r1] 24) ∧ ∀ j (h1 : j < f.nodes.length) (h2 : j < g.nodes.length), j < k → f.nodes[j] = g.nodes[j]) (fun i _ => f.nodes.length - (intOf i).toNat)
      case atStart => exact ⟨0, Nat.zero_le _, rfl, HB.out _ _, HK1.out, HK2.out, fun j _ _ h => absurd h (Nat.not_lt_zero _)⟩
      case round =>
        obtain ⟨k, hk, rfl, hB, hk1, hk2, hJ⟩ := hrel
        have HJ := Lib.hid hJ
        have HKa := Lib.hid hk1
        have HKb := Lib.hid hk2
        clear hJ hk1 hk2
        by_cases hlt : k < f.nodes.length
        · have hlt2 : k < g.nodes.length := by have := HL.out; omega
          obtain ⟨g1, f1, l1, rfl, q1, n1, e1, -⟩ := HH1.out k hlt
          obtain ⟨g2, f2, l2, rfl, q2, n2, e2, -⟩ := HH2.out k hlt2
          have hql := HLS.out _ (List.getElem_mem hlt)
          obtain ⟨a0, a1, a2, a3, a4, a5, a6⟩ := n1.below hB q1
          obtain ⟨b0, b1, b2, b3, b4, b5, b6⟩ := n2.below hB q2
          have HE1 := Lib.hid (e1.below hB)
          have HE2 := Lib.hid (e2.below hB)
          obtain ⟨p, hp⟩ : ∃ p, p = f.nodes[k] := ⟨_, rfl⟩
          obtain ⟨q, hq⟩ : ∃ q, q = g.nodes[k] := ⟨_, rfl⟩
          have HP := Lib.hid hp
          have HQ := Lib.hid hq
          rw [← hp] at a0 a1 a2 a3 a4 a5 HE1 hql
          rw [← hq] at b0 b1 b2 b3 b4 b5 HE2
          obtain ⟨o3, c3, rfl, -, -⟩ := id HE1.out
          obtain ⟨o4, c4, rfl, -, -⟩ := id HE2.out
          have s1 := (cell_blk HKa.out 0).trans rfl
          have s2 := (cell_blk HKb.out 0).trans rfl
          clear n1 n2 e1 e2 hp hq
          go_wp2
          have y0 := fun d os => cell_regrown (w := wr) a0 d os
          have y1 := fun d os => cell_regrown (w := wr) a1 d os
          have y2 := fun d os => cell_regrown (w := wr) a2 d os
          have y3 := fun d os => cell_regrown (w := wr) a3 d os
          have y4 := fun d os => cell_regrown (w := wr) a4 d os
          have y5 := fun d os => cell_regrown (w := wr) a5 d os
          have y6 := fun d os => cell_regrown (w := wr) a6 d os
          have z0 := fun d os => cell_regrown (w := wr) b0 d os
          have z1 := fun d os => cell_regrown (w := wr) b1 d os
          have z2 := fun d os => cell_regrown (w := wr) b2 d os
          have z3 := fun d os => cell_regrown (w := wr) b3 d os
          have z4 := fun d os => cell_regrown (w := wr) b4 d os
          have z5 := fun d os => cell_regrown (w := wr) b5 d os
          have z6 := fun d os => cell_regrown (w := wr) b6 d os
          have y7 := fun d os => cell_regrown (w := wr) s1 d os
          have z7 := fun d os => cell_regrown (w := wr) s2 d os
          by_cases hpq : p = q
          · have HEQ : Hid (eqB p q = true) := Lib.hid (eqB_yes hpq).symm
            have HJ2 : Hid (∀ j (h1 : j < f.nodes.length) (h2 : j < g.nodes.length), j < k + 1 → f.nodes[j] = g.nodes[j]) := Lib.hid (by
              intro j h1 h2 h
              rcases Nat.lt_succ_iff_lt_or_eq.1 h with h3 | rfl
              · exact HJ.out j h1 h2 h3
              · rw [← HP.out, ← HQ.out, hpq])
            clear hpq
            refine wp_region_quiet_below (by kernel_rfl) (by kernel_rfl) ?_
            repeat (first | go_big_quiet_step ((go_at_call 55; exact Calls.regrown_of (l3Same_is HEQ.out (HE1.out.below (below_regrown _ _ _)) (HE2.out.below (below_regrown _ _ _)) hql))) | quiet_step ((go_at_call 55; exact Calls.regrown_of (l3Same_is HEQ.out (HE1.out.below (below_regrown _ _ _)) (HE2.out.below (below_regrown _ _ _)) hql))))
            refine wpQuiet_nil ?_
            intro w5 hwq
            have hb5 : Below wr.heap.size wr w5 := by
              obtain ⟨pp, rfl⟩ := hwq
              exact below_regrown _ _ _
            clear hwq
            have HK5a := Lib.hid ((hb5.block w.heap.size (lt_of_heap HKa.out)).trans HKa.out)
            have HK5b := Lib.hid ((hb5.block (w.heap.size + 1) (lt_of_heap HKb.out)).trans HKb.out)
            clear y0 y1 y2 y3 y4 y5 y6 y7 z0 z1 z2 z3 z4 z5 z6 z7
            go_wp2
            go_roundw
            case rel => exact ⟨k + 1, hlt, by go_num, hB.trans (hb5.mono hB.size), HK5a.out, HK5b.out, HJ2.out⟩
            case measure => simp [intOf]; omega
          · have HEQ : Hid (eqB p q = false) := Lib.hid (eqB_no hpq).symm
            have HF : Hid (f ≠ g) := Lib.hid (fun h => hpq (by rw [HP.out, HQ.out]; simp only [h]))
            clear hpq
            refine wp_region_quiet_below (by kernel_rfl) (by kernel_rfl) ?_
            repeat (first | go_big_quiet_step ((go_at_call 55; exact Calls.regrown_of (l3Same_is HEQ.out (HE1.out.below (below_regrown _ _ _)) (HE2.out.below (below_regrown _ _ _)) hql))) | quiet_step ((go_at_call 55; exact Calls.regrown_of (l3Same_is HEQ.out (HE1.out.below (below_regrown _ _ _)) (HE2.out.below (below_regrown _ _ _)) hql))))
            refine wpQuiet_nil ?_
            intro w5 hwq
            have hb5 : Below wr.heap.size wr w5 := by
              obtain ⟨pp, rfl⟩ := hwq
              exact below_regrown _ _ _
            clear hwq
            clear y0 y1 y2 y3 y4 y5 y6 y7 z0 z1 z2 z3 z4 z5 z6 z7
            go_wp2
            go_ret
            exact ⟨ret_bool (eqB_no HF.out), hB.trans (hb5.mono hB.size)⟩
        · have HF : Hid (f = g) := Lib.hid (fs_ext (List.ext_getElem HL.out (fun j h1 h2 => HJ.out j h1 h2 (by omega))) HRR.out)
          go_wp2
          go_ret
          exact ⟨ret_bool (eqB_yes HF.out), hB⟩
    · have HF : Hid (f ≠ g) := Lib.hid (fun h => hr (by rw [HR1.out, HR2.out, h]))
      have hrb : (r1 != r2) = true := by rw [bne_iff_ne]; exact hr
      have hrc : (r1 == r2) = false := beq_eq_false_iff_ne.2 hr
      go_enter Try.func30, Try.ntmps30
      go_wp2
      go_ret
      exact ⟨ret_bool (eqB_no HF.out), HB.out _ _⟩
  · have HF : Hid (f ≠ g) := Lib.hid (fun h => hlen (by rw [h]))
    have hlb : ((f.nodes.length : Int) != (g.nodes.length : Int)) = true := by rw [bne_iff_ne]; omega
    go_enter Try.func30, Try.ntmps30
    go_wp2
    go_ret
    exact ⟨ret_bool (eqB_no HF.out), HB.out _ _⟩
end Go.Proofs.Ytdjpngdgbijedaa
