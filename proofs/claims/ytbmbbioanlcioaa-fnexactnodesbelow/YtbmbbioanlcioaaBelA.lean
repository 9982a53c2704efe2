
/-
  The model's l3Met with the order that it keeps; what slices.Sort and slices.Compact make of a list of numbers, as data.
  Conditions: every entry leads to a node; at most 2^20 nodes, and entries of one.
-/
import Derived.Test.YtbmbbioanlcioaaFsY
import Derived.Test.YtbmbbioanlcioaaIntS
import Derived.Lib.SlicesCompact
namespace Go.Proofs.Ytbmbbioanlcioaa
open Go.ChangeShapes Go.WideShapes Go.ChangeAt Go.RowKit Go.Joins
set_option linter.unusedVariables false

theorem put_sorted {l : List Int} {n : Int} {k : Nat} (h : l.Pairwise (· < ·)) (h1 : ∀ j (hj : j < l.length), j < k → l[j] < n) (h2 : ∀ hk : k < l.length, n < l[k]) : (l.take k ++ n :: l.drop k).Pairwise (· < ·) := by
  have ht : ∀ x ∈ l.take k, x < n := fun x hx => by
    obtain ⟨j, hj, rfl⟩ := List.getElem_of_mem hx
    rw [List.getElem_take]
    have : j < k ∧ j < l.length := by simp at hj; omega
    exact h1 j this.2 this.1
  have hd : ∀ x ∈ l.drop k, n < x := fun x hx => by
    obtain ⟨j, hj, rfl⟩ := List.getElem_of_mem hx
    rw [List.getElem_drop]
    have hkj : k + j < l.length := by simp at hj; omega
    have hk := h2 (by omega)
    by_cases hj0 : j = 0
    · subst hj0; exact hk
    · have := List.pairwise_iff_getElem.1 h k (k + j) (by omega) hkj (by omega)
      omega
  rw [List.pairwise_append]
  refine ⟨h.sublist (List.take_sublist _ _), List.pairwise_cons.2 ⟨hd, h.sublist (List.drop_sublist _ _)⟩, fun a ha b hb => ?_⟩
  have h3 := ht a ha
  rcases List.mem_cons.1 hb with rfl | hb
  · exact h3
  · have := hd b hb; omega
/-- Two lists that rise and hold the same are the same. -/
theorem rise_ext : ∀ (a b : List Int), a.Pairwise (· < ·) → b.Pairwise (· < ·) → (∀ x, x ∈ a ↔ x ∈ b) → a = b
  | [], [], _, _, _ => rfl
  | [], y :: b, _, _, h => absurd ((h y).2 (by simp)) (by simp)
  | x :: a, [], _, _, h => absurd ((h x).1 (by simp)) (by simp)
  | x :: a, y :: b, ha, hb, h => by
    have ha2 := List.pairwise_cons.1 ha
    have hb2 := List.pairwise_cons.1 hb
    have hxy : x = y := by
      rcases List.mem_cons.1 ((h x).1 (by simp)) with e | e
      · exact e
      · rcases List.mem_cons.1 ((h y).2 (by simp)) with e2 | e2
        · exact e2.symm
        · have h1 := hb2.1 x e
          have h2 := ha2.1 y e2
          omega
    subst hxy
    refine congrArg _ (rise_ext a b ha2.2 hb2.2 fun z => ⟨fun hz => ?_, fun hz => ?_⟩)
    · rcases List.mem_cons.1 ((h z).1 (by simp [hz])) with e | e
      · have := ha2.1 z hz; omega
      · exact e
    · rcases List.mem_cons.1 ((h z).2 (by simp [hz])) with e | e
      · have := hb2.1 z hz; omega
      · exact e
/-- What is sorted rises once its doubles are struck. -/
theorem compact_up (zs : List Int) (hs : zs.Pairwise (· ≤ ·)) : ∀ m, m ≤ zs.length → (Lib.compactUpTo zs.toArray m).Pairwise (· < ·) ∧ (∀ x ∈ Lib.compactUpTo zs.toArray m, ∀ k (h : k < zs.length), m ≤ k + 1 → x ≤ zs[k]) ∧ ∀ x, x ∈ Lib.compactUpTo zs.toArray m ↔ x ∈ zs.take m
  | 0, _ => by simp [Lib.compactUpTo]
  | m + 1, hm => by
    obtain ⟨h1, h2, h3⟩ := compact_up zs hs m (by omega)
    have hml : m < zs.length := by omega
    have hle : ∀ i j (hi : i < zs.length) (hj : j < zs.length), i ≤ j → zs[i] ≤ zs[j] := fun i j hi hj hij => by
      rcases Nat.lt_or_eq_of_le hij with h | rfl
      · exact List.pairwise_iff_getElem.1 hs i j hi hj h
      · exact Int.le_refl _
    have eg : ∀ j (hj : j < zs.length), zs.toArray[j]! = zs[j] := fun j hj => by simp [hj]
    rw [Lib.compactUpTo_succ, List.take_succ_eq_append_getElem hml]
    by_cases hk : Lib.keeps zs.toArray m = true
    · rw [if_pos hk, eg m hml]
      have hlt : ∀ x ∈ Lib.compactUpTo zs.toArray m, x < zs[m] := fun x hx => by
        have hm0 : m ≠ 0 := fun e => by subst e; simp [Lib.compactUpTo] at hx
        have hne : zs[m] ≠ zs[m - 1] := by
          unfold Lib.keeps at hk
          simp only [decide_eq_true_eq] at hk
          rcases hk with hk | hk
          · exact absurd hk hm0
          · rw [eg m hml, eg (m - 1) (by omega)] at hk; exact hk
        have a1 := h2 x hx (m - 1) (by omega) (by omega)
        have a2 := hle (m - 1) m (by omega) hml (by omega)
        omega
      refine ⟨?_, fun x hx k hkl hmk => ?_, fun x => ?_⟩
      · rw [List.pairwise_append]
        exact ⟨h1, by simp, fun a ha b hb => by rw [List.mem_singleton.1 hb]; exact hlt a ha⟩
      · rcases List.mem_append.1 hx with hx | hx
        · exact Int.le_trans (Int.le_of_lt (hlt x hx)) (hle m k hml hkl (by omega))
        · rw [List.mem_singleton.1 hx]; exact hle m k hml hkl (by omega)
      · rw [List.mem_append, List.mem_append, h3]
    · rw [if_neg hk, List.append_nil]
      have hm0 : m ≠ 0 ∧ zs[m] = zs[m - 1] := by
        unfold Lib.keeps at hk
        simp only [decide_eq_true_eq, not_or, Classical.not_not] at hk
        refine ⟨hk.1, ?_⟩
        have := hk.2
        rwa [eg m hml, eg (m - 1) (by omega)] at this
      refine ⟨h1, fun x hx k hkl hmk => h2 x hx k hkl (by omega), fun x => ?_⟩
      rw [List.mem_append, h3]
      constructor
      · exact .inl
      · rintro (h | h)
        · exact h
        · rw [List.mem_singleton.1 h, hm0.2]
          have : m - 1 < (zs.take m).length := by simp; omega
          have e := List.getElem_mem this
          rwa [List.getElem_take] at e
/-- What Sort and Compact make of a list. -/
def srt (zs : List Int) : List Int := Lib.compact (zs.mergeSort fun x y => decide (x ≤ y))
theorem srt_up (zs : List Int) : (srt zs).Pairwise (· < ·) ∧ ∀ x, x ∈ srt zs ↔ x ∈ zs := by
  have hs : (zs.mergeSort fun x y => decide (x ≤ y)).Pairwise (· ≤ ·) := by
    have := List.pairwise_mergeSort (le := fun (x y : Int) => decide (x ≤ y)) (fun a b c h1 h2 => by simp only [decide_eq_true_eq] at *; omega) (fun a b => by simp only [Bool.or_eq_true, decide_eq_true_eq]; omega) zs
    exact this.imp (fun h => by simpa using h)
  obtain ⟨h1, -, h3⟩ := compact_up _ hs _ (Nat.le_refl _)
  refine ⟨h1, fun x => ?_⟩
  show x ∈ Lib.compactUpTo _ _ ↔ _
  rw [h3, List.take_length, List.mem_mergeSort]

set_option maxHeartbeats 4000000 in
theorem l3Met_sort (f : FsD) (hld : Lead f.nodes) (hs : f.nodes.length ≤ 1048576) (hs2 : ∀ n ∈ f.nodes, n.list.length ≤ 1048576) (d : Nat) : ∀ (M : List Int) (a : Int) (v mv : Value) (w : World), f.nodes.length - M.length = d → FsA w v f → RdI w mv M → Nums f.nodes.length M → M.Pairwise (· < ·) → 0 ≤ a → a < f.nodes.length →
    Calls Try.prog 35 #[v, .int .i64 a, mv] w fun e w' => ∃ v' M', e = .returned v' ∧ RdI w' v' M' ∧ Met f.nodes M a M' ∧ Below w.heap.size w w' ∧ M'.Pairwise (· < ·) := by
  induction d using Nat.strongRecOn with
  | _ d ih =>
  intro M a v mv w hd hR hM hn hst h0 h1
  have HST := Lib.hid hst
  have HIH := Lib.hid ih
  have HLD := Lib.hid hld
  have HS2 := Lib.hid hs2
  have HR := Lib.hid hR
  obtain ⟨nv, rfl, hN⟩ := hR
  obtain ⟨o, c, rfl, hm, hH⟩ := hN
  have HH := Lib.hid hH
  have HM := Lib.hid hM
  have HNM := Lib.hid hn
  obtain ⟨om, cm, rfl, -, -, -, -⟩ := id hM
  have hml := hn.len
  have hbw : Below w.heap.size w (w.alloc (.cells #[.slice o f.nodes.length c, .int .i64 f.room] 31)) := (Below.refl _ _).alloc (Nat.le_refl _) _
  have hk0 := heap_alloc_new w (.cells #[.slice o f.nodes.length c, .int .i64 f.room] 31)
  have HB := Lib.hid hbw
  have HK := Lib.hid hk0
  clear ih hld hs2 hH hM hn hbw hk0 hst
  unfold maxLen at hm
  by_cases hh : hasI M a = true
  · have HA := Lib.hid hh
    go_enter Try.func35, Try.ntmps35
    go_wp2_with fail
    refine (l1Has_any M a _ _ (HM.out.below HB.out) (by omega)).mono ?_
    rintro e w1 ⟨rfl, rfl⟩
    rw [HA.out]
    go_wp2
    go_ret
    refine ⟨_, M, rfl, HM.out.below HB.out, ⟨fun x hx => hx, hasI_iff.1 HA.out, fun x hx hn => absurd hx hn, HNM.out, Nat.le_refl _⟩, HB.out, HST.out⟩
  · have HA : Hid (hasI M a = false) := Lib.hid (by simpa using hh)
    have HAN : Hid (a ∉ M) := Lib.hid (fun h => hh (hasI_iff.2 h))
    obtain ⟨m, rfl⟩ : ∃ m : Nat, a = m := ⟨a.toNat, by omega⟩
    have hml2 : m < f.nodes.length := by omega
    obtain ⟨g, off, lv, rfl, hg, hcc, he, -⟩ := HH.out m hml2
    have HC6 := Lib.hid hcc.c6
    obtain ⟨q, hqq⟩ : ∃ q, q = f.nodes[m] := ⟨_, rfl⟩
    have HQ := Lib.hid hqq
    rw [← hqq] at he
    have HE0 := Lib.hid he
    obtain ⟨oe, ce, rfl, -, hE⟩ := id he
    have HE := Lib.hid hE
    have hql : q.list.length ≤ 1048576 := HS2.out q (by rw [HQ.out]; exact List.getElem_mem hml2)
    have HKD : Hid (∀ x, x ∈ kids f.nodes (m : Int) ↔ ∃ i, ∃ h : i < q.list.length, x = q.list[i].node) := Lib.hid (by
      intro x
      have e1 : f.nodes.getD (m : Int).toNat ⟨0, 0, 0, 0, 0, [], []⟩ = q := by rw [HQ.out]; simp [List.getD, hml2]
      unfold kids
      rw [e1, List.mem_map]
      constructor
      · rintro ⟨e, he, rfl⟩
        obtain ⟨i, hi, rfl⟩ := List.getElem_of_mem he
        exact ⟨i, hi, rfl⟩
      · rintro ⟨i, hi, rfl⟩
        exact ⟨_, List.getElem_mem hi, rfl⟩)
    have HLQ : Hid (∀ i (h : i < q.list.length), 0 ≤ q.list[i].node ∧ q.list[i].node < f.nodes.length) := Lib.hid (fun i hi => HLD.out q (by rw [HQ.out]; exact List.getElem_mem hml2) _ (List.getElem_mem hi))
    clear hh hqq he hE hcc
    go_enter Try.func35, Try.ntmps35
    go_wp2_with fail
    refine (l1Has_any M _ _ _ (HM.out.below HB.out) (by omega)).mono ?_
    rintro e w1 ⟨rfl, rfl⟩
    rw [HA.out]
    go_wp2_with fail
    refine (l1Put_sort M _ _ _ (HM.out.below HB.out) HAN.out (by omega)).mono ?_
    rintro e w2 ⟨v2, kk, rfl, hL2, hb2, hq1, hq2⟩
    have HSP := Lib.hid (put_sorted HST.out hq1 hq2)
    clear hq1 hq2
    have HB2 := Lib.hid (HB.out.trans (hb2.mono HB.out.size))
    have HK2 := Lib.hid ((hb2.block w.heap.size (lt_of_heap HK.out)).trans HK.out)
    have s0 := (cell_blk HK2.out 0).trans rfl
    have d6 := (HB2.out.cell (p := ⟨g, off + m * 7 + 6, none⟩) hg).trans HC6.out
    have HP : Hid (Nums f.nodes.length (M.take kk ++ (m : Int) :: M.drop kk)) := Lib.hid (put_nums HNM.out HAN.out h0 h1)
    have hlen : (M.take kk ++ (m : Int) :: M.drop kk).length = M.length + 1 := by
      have := congrArg List.length (List.take_append_drop kk M)
      simp only [List.length_append, List.length_cons] at this ⊢
      omega
    have hmax := HP.out.len
    have HL2 := Lib.hid hL2.read
    obtain ⟨o2, c2, rfl, -, -, -, -⟩ := hL2.read
    obtain ⟨M0, hM0⟩ : ∃ M0, M0 = M.take kk ++ (m : Int) :: M.drop kk := ⟨_, rfl⟩
    have HM0 : Hid (∀ x, x ∈ M0 ↔ x = (m : Int) ∨ x ∈ M) := Lib.hid (fun x => by rw [hM0]; exact put_mem)
    rw [← hM0] at HP hlen hmax HL2 HSP ⊢
    clear hb2 hL2 hM0
    go_wp2
    go_loopw [2, 23] (fun t i wr => ∃ (j : Nat) (M1 : List Int), j ≤ q.list.length ∧ i = .int .i64 j ∧ RdI wr t M1 ∧ MetI f.nodes M0 (m : Int) q.list j M1 ∧ M1.Pairwise (· < ·) ∧ Below w.heap.size w wr ∧ wr.heap[w.heap.size]? = some (.cells #[.slice (some ⟨g, off, none⟩) f.nodes.length c, .int .i64 f.room] 31)) (fun _ i _ => q.list.length - (intOf i).toNat)
    case atStart => exact ⟨0, M0, Nat.zero_le _, rfl, (by first | exact HL2.out | (rw [← hlen]; exact HL2.out)), ⟨fun x hx => hx, fun x hx hn => absurd hx hn, fun i hi h => absurd h (Nat.not_lt_zero _), HP.out, Nat.le_refl _⟩, HSP.out, HB2.out, HK2.out⟩
    case round =>
      obtain ⟨j, M1, hj, rfl, hR1, hI, hS1, hBr, hbr⟩ := hrel
      have HS1 := Lib.hid hS1
      clear hS1
      have HI := Lib.hid hI
      have HBr := Lib.hid hBr
      have Hbr := Lib.hid hbr
      have HR1 := Lib.hid hR1
      obtain ⟨o3, c3, rfl, -, -, -, -⟩ := hR1
      have hlen1 := hI.len
      clear hI
      by_cases hlt : j < q.list.length
      · obtain ⟨g2, f2, rfl, q2, x2, y2, _⟩ := HE.out j hlt
        have a1 := (hBr.cell (p := ⟨g2, f2 + j * 2, none⟩) q2).trans x2
        have a2 := (hBr.cell (p := ⟨g2, f2 + j * 2 + 1, none⟩) q2).trans y2
        obtain ⟨l1, l2⟩ := HLQ.out j hlt
        have HKJ : Hid (q.list[j].node ∈ kids f.nodes (m : Int)) := Lib.hid ((HKD.out _).2 ⟨j, hlt, rfl⟩)
        obtain ⟨y, hyy⟩ : ∃ y, y = bs q.list[j].name := ⟨_, rfl⟩
        rw [← hyy] at a1
        obtain ⟨r, hr⟩ : ∃ r, r = q.list[j].node := ⟨_, rfl⟩
        have HRR := Lib.hid hr
        rw [← hr] at a2 l1 l2 HKJ
        have HW3 : Hid (Below w.heap.size w (wr.alloc (.cells #[.string y, .int .i64 r] 67))) := Lib.hid (hBr.alloc hBr.size _)
        have HW4 : Hid (Below wr.heap.size wr (wr.alloc (.cells #[.string y, .int .i64 r] 67))) := Lib.hid ((Below.refl _ _).alloc (Nat.le_refl _) _)
        have hb3 : (wr.alloc (.cells #[.string y, .int .i64 r] 67)).heap[w.heap.size]? = some (.cells #[.slice (some ⟨g, off, none⟩) f.nodes.length c, .int .i64 f.room] 31) := (Below.heap_alloc _ _ _ (lt_of_heap hbr)).trans hbr
        have t0 := (cell_blk hb3 0).trans rfl
        have t1 := (cell_blk hb3 1).trans rfl
        have b0 := (cell_blk hbr 0).trans rfl
        have b1 := (cell_blk hbr 1).trans rfl
        have HB3 := Lib.hid hb3
        have hmax1 := HI.out.nums.len
        clear x2 y2 hyy hr hBr hbr hb3
        go_wp2_with fail
        refine (HIH.out (f.nodes.length - M1.length) (by omega) M1 _ _ _ _ rfl (HR.out.below HW3.out) (HR1.out.below HW4.out) HI.out.nums HS1.out l1 l2).mono ?_
        rintro e w5 ⟨v5, M2, rfl, hR5, hM5, hb5, hS5⟩
        have HS5 := Lib.hid hS5
        have HR5 := Lib.hid hR5
        have HI5 := Lib.hid (MetI.next HI.out hlt (by rw [← HRR.out]; exact HKJ.out) (by rw [← HRR.out]; exact hM5))
        have HB5 := Lib.hid (HW3.out.trans (hb5.mono HW3.out.size))
        have HK5 := Lib.hid ((hb5.block w.heap.size (lt_of_heap HB3.out)).trans HB3.out)
        obtain ⟨o5, c5, rfl, -, -, -, -⟩ := hR5
        clear hM5 hb5 hS5
        go_wp2
        go_roundw
        case rel => exact ⟨j + 1, M2, hlt, by go_num, HR5.out, HI5.out, HS5.out, HB5.out, HK5.out⟩
        case measure => simp [intOf]; omega
      · go_wp2
        go_ret
        refine ⟨_, M1, rfl, HR1.out, ⟨fun x hx => HI.out.sub x ((HM0.out x).2 (.inr hx)), HI.out.sub _ ((HM0.out _).2 (.inl rfl)), fun x hx hn => ?_, HI.out.nums, by omega⟩, HBr.out, HS1.out⟩
        by_cases h3 : x ∈ M0
        · rcases (HM0.out x).1 h3 with rfl | h4
          · refine ⟨.refl, fun cc hcc => ?_⟩
            obtain ⟨i, hi, rfl⟩ := (HKD.out cc).1 hcc
            exact HI.out.done i hi (by omega)
          · exact absurd h4 hn
        · exact HI.out.new x hx h3

end Go.Proofs.Ytbmbbioanlcioaa
