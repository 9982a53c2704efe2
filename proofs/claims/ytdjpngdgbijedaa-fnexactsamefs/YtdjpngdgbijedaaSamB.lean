
/-
  Contracts of the comparisons of two nodes and of two file systems: isSameNode, slices.EqualFunc at it, SameFs of the program; l3SameNode, SameFs of the model.
  Conditions: at most 2^20 values and letters together.
-/
import Derived.Test.YtdjpngdgbijedaaSamA
import Derived.Test.YtdjpngdgbijedaaFsU
namespace Go.Proofs.Ytdjpngdgbijedaa
open Go.ChangeShapes Go.WideShapes Go.ChangeAt Go.RowKit Go.Joins
set_option linter.unusedVariables false
set_option linter.unusedSimpArgs false

set_option maxHeartbeats 4000000 in
theorem isSameNode_any (p q : Nod) (u v : Value) (w : World) (hU : EntsA w u p.list) (hV : EntsA w v q.list) (hs : p.list.length ≤ 1048576) : Calls Try.prog 57 #[.agg #[.int .i64 p.kind, .int .i64 p.mode, .int .i64 p.uid, .int .i64 p.gid, .int .i64 p.time, .string (bs p.data), u], .agg #[.int .i64 q.kind, .int .i64 q.mode, .int .i64 q.uid, .int .i64 q.gid, .int .i64 q.time, .string (bs q.data), v]] w fun e w' => e = .returned (.bool (eqB p q)) ∧ Below w.heap.size w w' := by
  obtain ⟨o1, c1, rfl, hm1, hH1⟩ := id hU
  obtain ⟨o2, c2, rfl, hm2, hH2⟩ := id hV
  have HU := Lib.hid hU
  have HV := Lib.hid hV
  have HH1 := Lib.hid hH1
  have HH2 := Lib.hid hH2
  clear hU hV hH1 hH2
  obtain ⟨k1, m1, u1, gi1, t1, d1, e1⟩ := p
  obtain ⟨k2, m2, u2, gi2, t2, d2, e2⟩ := q
  simp only at HU HV HH1 HH2 hs hm1 hm2 ⊢
  have HD : Hid (bs d1 = bs d2 ↔ d1 = d2) := Lib.hid bs_inj
  obtain ⟨x1, hx1⟩ : ∃ x, x = bs d1 := ⟨_, rfl⟩
  obtain ⟨x2, hx2⟩ : ∃ x, x = bs d2 := ⟨_, rfl⟩
  rw [← hx1, ← hx2] at HD ⊢
  clear hx1 hx2
  have HB : Hid (∀ a b, Below w.heap.size w ((w.alloc a).alloc b)) := Lib.hid (fun a b => ((Below.refl _ _).alloc (Nat.le_refl _) _).alloc (by simp) _)
  unfold maxLen at hm1 hm2
  by_cases hk : k1 = k2
  case neg =>
    have HF : Hid ((⟨k1, m1, u1, gi1, t1, d1, e1⟩ : Nod) ≠ ⟨k2, m2, u2, gi2, t2, d2, e2⟩) := Lib.hid (fun h => hk (by injection h))
    have hbk : (k1 == k2) = false := beq_eq_false_iff_ne.2 hk
    go_enter Try.func57, Try.ntmps57
    go_wp2
    go_ret
    exact ⟨ret_bool (eqB_no HF.out), HB.out _ _⟩
  subst hk
  by_cases hm : m1 = m2
  case neg =>
    have HF : Hid ((⟨k1, m1, u1, gi1, t1, d1, e1⟩ : Nod) ≠ ⟨k1, m2, u2, gi2, t2, d2, e2⟩) := Lib.hid (fun h => hm (by injection h))
    have hbm : (m1 == m2) = false := beq_eq_false_iff_ne.2 hm
    go_enter Try.func57, Try.ntmps57
    go_wp2
    go_ret
    exact ⟨ret_bool (eqB_no HF.out), HB.out _ _⟩
  subst hm
  by_cases hu : u1 = u2
  case neg =>
    have HF : Hid ((⟨k1, m1, u1, gi1, t1, d1, e1⟩ : Nod) ≠ ⟨k1, m1, u2, gi2, t2, d2, e2⟩) := Lib.hid (fun h => hu (by injection h))
    have hbu : (u1 == u2) = false := beq_eq_false_iff_ne.2 hu
    go_enter Try.func57, Try.ntmps57
    go_wp2
    go_ret
    exact ⟨ret_bool (eqB_no HF.out), HB.out _ _⟩
  subst hu
  by_cases hgi : gi1 = gi2
  case neg =>
    have HF : Hid ((⟨k1, m1, u1, gi1, t1, d1, e1⟩ : Nod) ≠ ⟨k1, m1, u1, gi2, t2, d2, e2⟩) := Lib.hid (fun h => hgi (by injection h))
    have hbgi : (gi1 == gi2) = false := beq_eq_false_iff_ne.2 hgi
    go_enter Try.func57, Try.ntmps57
    go_wp2
    go_ret
    exact ⟨ret_bool (eqB_no HF.out), HB.out _ _⟩
  subst hgi
  by_cases ht : t1 = t2
  case neg =>
    have HF : Hid ((⟨k1, m1, u1, gi1, t1, d1, e1⟩ : Nod) ≠ ⟨k1, m1, u1, gi1, t2, d2, e2⟩) := Lib.hid (fun h => ht (by injection h))
    have hbt : (t1 == t2) = false := beq_eq_false_iff_ne.2 ht
    go_enter Try.func57, Try.ntmps57
    go_wp2
    go_ret
    exact ⟨ret_bool (eqB_no HF.out), HB.out _ _⟩
  subst ht
  by_cases hx : x1 = x2
  case neg =>
    have HF : Hid ((⟨k1, m1, u1, gi1, t1, d1, e1⟩ : Nod) ≠ ⟨k1, m1, u1, gi1, t1, d2, e2⟩) := Lib.hid (fun h => hx (HD.out.2 (by injection h)))
    have hbx := bytes_ne hx
    go_enter Try.func57, Try.ntmps57
    go_wp2
    go_ret
    exact ⟨ret_bool (eqB_no HF.out), HB.out _ _⟩
  have hdd := HD.out.1 hx
  subst hdd
  subst hx
  have HF : Hid (eqB e1 e2 = eqB (⟨k1, m1, u1, gi1, t1, d1, e1⟩ : Nod) ⟨k1, m1, u1, gi1, t1, d1, e2⟩) := Lib.hid (by
    by_cases h : e1 = e2
    · subst h; rw [← eqB_yes rfl, ← eqB_yes rfl]
    · rw [← eqB_no h, ← eqB_no (fun x => h (by injection x))])
  go_enter Try.func57, Try.ntmps57
  go_wp2_with fail
  refine (entsEqual_any e1 e2 _ _ _ (HU.out.below (HB.out _ _)) (HV.out.below (HB.out _ _)) hs).mono ?_
  rintro e w1 ⟨rfl, hb1⟩
  have HB1 := Lib.hid ((HB.out _ _).trans (hb1.mono (HB.out _ _).size))
  clear hb1
  go_wp2
  go_ret
  exact ⟨ret_bool HF.out, HB1.out⟩

theorem isSame_is {p q : Nod} {u v : Value} {w : World} {b : Bool} (h : eqB p q = b) (hU : EntsA w u p.list) (hV : EntsA w v q.list) (hs : p.list.length ≤ 1048576) : Calls Try.prog 57 #[.agg #[.int .i64 p.kind, .int .i64 p.mode, .int .i64 p.uid, .int .i64 p.gid, .int .i64 p.time, .string (bs p.data), u], .agg #[.int .i64 q.kind, .int .i64 q.mode, .int .i64 q.uid, .int .i64 q.gid, .int .i64 q.time, .string (bs q.data), v]] w fun e w' => e = .returned (.bool b) ∧ Below w.heap.size w w' :=
  (isSameNode_any p q u v w hU hV hs).mono fun e w' ⟨h1, h2⟩ => ⟨by rw [h1, h], h2⟩
set_option maxHeartbeats 4000000 in
theorem equalFunc_any (ns ms : List Nod) (u v : Value) (w : World) (hU : NodsA w u ns) (hV : NodsA w v ms) (hs : ns.length ≤ 1048576) (hs2 : ∀ n ∈ ns, n.list.length ≤ 1048576) : Calls Try.prog 56 #[u, v, .func (.func 57) #[] #[]] w fun e w' => e = .returned (.bool (eqB ns ms)) ∧ Below w.heap.size w w' := by
  obtain ⟨o1, c1, rfl, hm1, hH1⟩ := hU
  obtain ⟨o2, c2, rfl, hm2, hH2⟩ := hV
  have HH1 := Lib.hid hH1
  have HH2 := Lib.hid hH2
  have HS2 := Lib.hid hs2
  clear hH1 hH2 hs2
  unfold maxLen at hm1 hm2
  by_cases hl : ns.length = ms.length
  · have HL := Lib.hid hl
    rw [← hl] at hm2 ⊢
    clear hl
    go_enter Try.func56, Try.ntmps56
    go_wp2
    go_loopw [17] (fun i wr => ∃ k : Nat, k ≤ ns.length ∧ i = .int .i64 k ∧ Below w.heap.size w wr ∧ ∀ j (h1 : j < ns.length) (h2 : j < ms.length), j < k → ns[j] = ms[j]) (fun i _ => ns.length - (intOf i).toNat)
    case atStart => exact ⟨0, Nat.zero_le _, rfl, Below.refl _ _, fun j _ _ h => absurd h (Nat.not_lt_zero _)⟩
    case round =>
      obtain ⟨k, hk, rfl, hB, hJ⟩ := hrel
      have HJ := Lib.hid hJ
      clear hJ
      by_cases hlt : k < ns.length
      · have hlt2 : k < ms.length := by have := HL.out; omega
        obtain ⟨g1, f1, l1, rfl, q1, n1, e1, -⟩ := HH1.out k hlt
        obtain ⟨g2, f2, l2, rfl, q2, n2, e2, -⟩ := HH2.out k hlt2
        have hql := HS2.out _ (List.getElem_mem hlt)
        obtain ⟨a0, a1, a2, a3, a4, a5, a6⟩ := n1.below hB q1
        have hB1 : ∀ o, Below w.heap.size w (wr.alloc o) := fun o => hB.alloc hB.size o
        have HB2 : Hid (∀ a b, Below w.heap.size w ((wr.alloc a).alloc b)) := Lib.hid (fun a b => (hB1 a).alloc (hB1 a).size b)
        have HE1 := Lib.hid e1
        have HE2 := Lib.hid e2
        obtain ⟨p, hp⟩ : ∃ p, p = ns[k] := ⟨_, rfl⟩
        obtain ⟨q, hq⟩ : ∃ q, q = ms[k] := ⟨_, rfl⟩
        have HP := Lib.hid hp
        have HQ := Lib.hid hq
        rw [← hp] at a0 a1 a2 a3 a4 a5 HE1 hql
        rw [← hq] at HE2
        obtain ⟨o3, c3, rfl, -, -⟩ := id HE1.out
        obtain ⟨o4, c4, rfl, -, -⟩ := id HE2.out
        obtain ⟨b0, b1, b2, b3, b4, b5, b6⟩ := n2.below (hB1 (.cells #[.int .i64 p.kind, .int .i64 p.mode, .int .i64 p.uid, .int .i64 p.gid, .int .i64 p.time, .string (bs p.data), .slice o3 p.list.length c3] 47)) q2
        rw [← hq] at b0 b1 b2 b3 b4 b5
        clear n1 n2 e1 e2 hp hq hB1
        by_cases hpq : p = q
        · have HEQ : Hid (eqB p q = true) := Lib.hid (eqB_yes hpq).symm
          have HJ2 : Hid (∀ j (h1 : j < ns.length) (h2 : j < ms.length), j < k + 1 → ns[j] = ms[j]) := Lib.hid (by
            intro j h1 h2 h
            rcases Nat.lt_succ_iff_lt_or_eq.1 h with h3 | rfl
            · exact HJ.out j h1 h2 h3
            · rw [← HP.out, ← HQ.out, hpq])
          clear hpq
          go_wp2_with fail
          refine (isSame_is HEQ.out (HE1.out.below (HB2.out _ _)) (HE2.out.below (HB2.out _ _)) hql).mono ?_
          rintro e w5 ⟨rfl, hb5⟩
          have HB5 := Lib.hid ((HB2.out _ _).trans (hb5.mono (HB2.out _ _).size))
          clear hb5
          go_wp2
          go_roundw
          case rel => exact ⟨k + 1, hlt, by go_num, HB5.out, HJ2.out⟩
          case measure => simp [intOf]; omega
        · have HEQ : Hid (eqB p q = false) := Lib.hid (eqB_no hpq).symm
          have HF : Hid (ns ≠ ms) := Lib.hid (fun h => hpq (by rw [HP.out, HQ.out]; simp only [h]))
          clear hpq
          go_wp2_with fail
          refine (isSame_is HEQ.out (HE1.out.below (HB2.out _ _)) (HE2.out.below (HB2.out _ _)) hql).mono ?_
          rintro e w5 ⟨rfl, hb5⟩
          have HB5 := Lib.hid ((HB2.out _ _).trans (hb5.mono (HB2.out _ _).size))
          clear hb5
          go_wp2
          go_ret
          exact ⟨ret_bool (eqB_no HF.out), HB5.out⟩
      · have HF : Hid (ns = ms) := Lib.hid (List.ext_getElem HL.out (fun j h1 h2 => HJ.out j h1 h2 (by omega)))
        go_wp2
        go_ret
        exact ⟨ret_bool (eqB_yes HF.out), hB⟩
  · have HF : Hid (ns ≠ ms) := Lib.hid (fun h => hl (by rw [h]))
    have hlb : ((ns.length : Int) != (ms.length : Int)) = true := by rw [bne_iff_ne]; omega
    go_enter Try.func56, Try.ntmps56
    go_wp2
    go_ret
    exact ⟨ret_bool (eqB_no HF.out), Below.refl _ _⟩

theorem fs_ext {f g : FsD} (h1 : f.nodes = g.nodes) (h2 : f.room = g.room) : f = g := by cases f; cases g; simp_all
set_option maxHeartbeats 2000000 in
theorem sameFs_any (f g : FsD) (u v : Value) (w : World) (hU : FsA w u f) (hV : FsA w v g) (hs : szF f ≤ 1048576) : Calls Try.prog 31 #[u, v] w fun e w' => e = .returned (.bool (eqB f g)) ∧ Below w.heap.size w w' := by
  obtain ⟨nu, rfl, hN1⟩ := hU
  obtain ⟨nv, rfl, hN2⟩ := hV
  have HN1 := Lib.hid hN1
  have HN2 := Lib.hid hN2
  obtain ⟨o1, c1, rfl, -, -⟩ := hN1
  obtain ⟨o2, c2, rfl, -, -⟩ := hN2
  have HB : Hid (∀ a b, Below w.heap.size w ((w.alloc a).alloc b)) := Lib.hid (fun a b => ((Below.refl _ _).alloc (Nat.le_refl _) _).alloc (by simp) _)
  have hl : f.nodes.length ≤ 1048576 := (lists_small hs).1
  have HLS : Hid (∀ n ∈ f.nodes, n.list.length ≤ 1048576) := Lib.hid (fun n hn => ((lists_small hs).2 n hn).1)
  clear hs
  obtain ⟨r1, hr1⟩ : ∃ r, r = f.room := ⟨_, rfl⟩
  obtain ⟨r2, hr2⟩ : ∃ r, r = g.room := ⟨_, rfl⟩
  rw [← hr1, ← hr2]
  have HR1 := Lib.hid hr1
  have HR2 := Lib.hid hr2
  clear hr1 hr2
  by_cases hr : r1 = r2
  · have HF : Hid (eqB f.nodes g.nodes = eqB f g) := Lib.hid (by
      by_cases h : f.nodes = g.nodes
      · rw [← eqB_yes h, ← eqB_yes (fs_ext h (by rw [← HR1.out, ← HR2.out, hr]))]
      · rw [← eqB_no h, ← eqB_no (fun x => h (by rw [x]))])
    subst hr
    go_enter Try.func31, Try.ntmps31
    go_wp2_with fail
    refine (equalFunc_any f.nodes g.nodes _ _ _ (HN1.out.below (HB.out _ _)) (HN2.out.below (HB.out _ _)) hl HLS.out).mono ?_
    rintro e w1 ⟨rfl, hb1⟩
    have HB1 := Lib.hid ((HB.out _ _).trans (hb1.mono (HB.out _ _).size))
    clear hb1
    go_wp2
    go_ret
    exact ⟨ret_bool HF.out, HB1.out⟩
  · have HF : Hid (f ≠ g) := Lib.hid (fun h => hr (by rw [HR1.out, HR2.out, h]))
    have hrb : (r1 == r2) = false := beq_eq_false_iff_ne.2 hr
    go_enter Try.func31, Try.ntmps31
    go_wp2
    go_ret
    exact ⟨ret_bool (eqB_no HF.out), HB.out _ _⟩
end Go.Proofs.Ytdjpngdgbijedaa
