
/-
  The model's l3Met: the nodes that come from one, entry by entry.
  Conditions: every entry leads to a node; at most 2^20 nodes, and entries of one.
-/
import Derived.Test.YtbmbbioanlcioaaFsX
import Derived.Test.YtbmbbioanlcioaaIntC
namespace Go.Proofs.Ytbmbbioanlcioaa
open Go.ChangeShapes Go.WideShapes Go.ChangeAt Go.RowKit Go.Joins
set_option linter.unusedVariables false

def kids (ns : List Nod) (x : Int) : List Int := (ns.getD x.toNat ⟨0, 0, 0, 0, 0, [], []⟩).list.map fun e => e.node
inductive Reach (ns : List Nod) (a : Int) : Int → Prop
  | refl : Reach ns a a
  | step {b c : Int} : Reach ns a b → c ∈ kids ns b → Reach ns a c
theorem Reach.from_kid {ns : List Nod} {a b c : Int} (h : b ∈ kids ns a) (hr : Reach ns b c) : Reach ns a c := by
  induction hr with
  | refl => exact .step .refl h
  | step _ hk ih => exact .step ih hk

/-- Numbers of nodes, each once. -/
def Nums (n : Nat) (M : List Int) : Prop := M.Nodup ∧ ∀ x ∈ M, 0 ≤ x ∧ x < n
theorem Nums.len {n : Nat} : ∀ {M : List Int}, Nums n M → M.length ≤ n := by
  induction n with
  | zero => intro M h; cases M with
    | nil => simp
    | cons a r => have := h.2 a (by simp); omega
  | succ n ih =>
    intro M h
    by_cases hm : (n : Int) ∈ M
    · have h1 : Nums n (M.erase n) := ⟨h.1.erase _, fun x hx => by
        rw [h.1.mem_erase_iff] at hx
        have := h.2 x hx.2
        have := hx.1
        omega⟩
      have h2 := ih h1
      rw [List.length_erase_of_mem hm] at h2
      omega
    · have h1 : Nums n M := ⟨h.1, fun x hx => by
        have := h.2 x hx
        have : x ≠ n := fun e => hm (e ▸ hx)
        omega⟩
      have := ih h1
      omega

/-- M' is M with all that comes from a. -/
structure Met (ns : List Nod) (M : List Int) (a : Int) (M' : List Int) : Prop where
  sub : ∀ x ∈ M, x ∈ M'
  has : a ∈ M'
  new : ∀ x ∈ M', x ∉ M → Reach ns a x ∧ ∀ c ∈ kids ns x, c ∈ M'
  nums : Nums ns.length M'
  len : M.length ≤ M'.length

/-- Behind j entries of the node a. -/
structure MetI (ns : List Nod) (M0 : List Int) (a : Int) (es : List Ent) (j : Nat) (M1 : List Int) : Prop where
  sub : ∀ x ∈ M0, x ∈ M1
  new : ∀ x ∈ M1, x ∉ M0 → Reach ns a x ∧ ∀ c ∈ kids ns x, c ∈ M1
  done : ∀ i (h : i < es.length), i < j → es[i].node ∈ M1
  nums : Nums ns.length M1
  len : M0.length ≤ M1.length
theorem MetI.next {ns : List Nod} {M0 M1 M2 : List Int} {a : Int} {es : List Ent} {j : Nat} (h : MetI ns M0 a es j M1) (hj : j < es.length) (hk : es[j].node ∈ kids ns a) (hm : Met ns M1 es[j].node M2) : MetI ns M0 a es (j + 1) M2 := by
  refine ⟨fun x hx => hm.sub x (h.sub x hx), fun x hx hn => ?_, fun i hi hij => ?_, hm.nums, Nat.le_trans h.len hm.len⟩
  · by_cases h1 : x ∈ M1
    · obtain ⟨r, k⟩ := h.new x h1 hn
      exact ⟨r, fun c hc => hm.sub c (k c hc)⟩
    · obtain ⟨r, k⟩ := hm.new x hx h1
      exact ⟨Reach.from_kid hk r, k⟩
  · rcases Nat.lt_succ_iff_lt_or_eq.1 hij with h1 | rfl
    · exact hm.sub _ (h.done i hi h1)
    · exact hm.has

theorem put_mem {M : List Int} {k : Nat} {a x : Int} : x ∈ M.take k ++ a :: M.drop k ↔ x = a ∨ x ∈ M := by
  have h : x ∈ M ↔ x ∈ M.take k ∨ x ∈ M.drop k := by
    conv => lhs; rw [← List.take_append_drop k M]
    rw [List.mem_append]
  rw [List.mem_append, List.mem_cons, h]
  constructor
  · rintro (h | h | h)
    · exact .inr (.inl h)
    · exact .inl h
    · exact .inr (.inr h)
  · rintro (h | h | h)
    · exact .inr (.inl h)
    · exact .inl h
    · exact .inr (.inr h)
theorem put_nums {n : Nat} {M : List Int} {k : Nat} {a : Int} (h : Nums n M) (ha : a ∉ M) (h0 : 0 ≤ a) (h1 : a < n) : Nums n (M.take k ++ a :: M.drop k) := by
  refine ⟨?_, fun x hx => ?_⟩
  · have hp : (M.take k ++ a :: M.drop k).Perm (a :: M) := by
      have := List.perm_middle (a := a) (l₁ := M.take k) (l₂ := M.drop k)
      rw [List.take_append_drop] at this
      exact this
    rw [hp.nodup_iff]
    exact List.nodup_cons.2 ⟨ha, h.1⟩
  · rcases put_mem.1 hx with rfl | hx
    · exact ⟨h0, h1⟩
    · exact h.2 x hx
theorem hasI_iff {M : List Int} {a : Int} : hasI M a = true ↔ a ∈ M := by
  unfold hasI
  rw [List.any_eq_true]
  constructor
  · rintro ⟨x, hx, e⟩
    have : x = a := by simpa using e
    exact this ▸ hx
  · exact fun h => ⟨a, h, by simp⟩

/-- Every entry leads to a node. -/
def Lead (ns : List Nod) : Prop := ∀ n ∈ ns, ∀ e ∈ n.list, 0 ≤ e.node ∧ e.node < ns.length

set_option maxHeartbeats 4000000 in
theorem l3Met_any (f : FsD) (hld : Lead f.nodes) (hs : f.nodes.length ≤ 1048576) (hs2 : ∀ n ∈ f.nodes, n.list.length ≤ 1048576) (d : Nat) : ∀ (M : List Int) (a : Int) (v mv : Value) (w : World), f.nodes.length - M.length = d → FsA w v f → RdI w mv M → Nums f.nodes.length M → 0 ≤ a → a < f.nodes.length →
    Calls Try.prog 35 #[v, .int .i64 a, mv] w fun e w' => ∃ v' M', e = .returned v' ∧ RdI w' v' M' ∧ Met f.nodes M a M' ∧ Below w.heap.size w w' := by
  induction d using Nat.strongRecOn with
  | _ d ih =>
  intro M a v mv w hd hR hM hn h0 h1
  have HIH := Lib.hid ih
  have HLD := Lib.hid hld
  have HS2 := Lib.hid hs2
  have HR := Lib.hid hR
  obtain ⟨nv, rfl, hN⟩ := hR
  obtain ⟨o, c, rfl, hm, hH⟩ := hN
  have HH := Lib.hid hH
  have HM := Lib.hid hM
  have HNM := Lib.hid hn
  obtain ⟨om, cm, rfl, -, -, -, -⟩ := id hM
  have hml := hn.len
  have hbw : Below w.heap.size w (w.alloc (.cells #[.slice o f.nodes.length c, .int .i64 f.room] 31)) := (Below.refl _ _).alloc (Nat.le_refl _) _
  have hk0 := heap_alloc_new w (.cells #[.slice o f.nodes.length c, .int .i64 f.room] 31)
  have HB := Lib.hid hbw
  have HK := Lib.hid hk0
  clear ih hld hs2 hH hM hn hbw hk0
  unfold maxLen at hm
  by_cases hh : hasI M a = true
  · have HA := Lib.hid hh
    go_enter Try.func35, Try.ntmps35
    go_wp2_with fail
    refine (l1Has_any M a _ _ (HM.out.below HB.out) (by omega)).mono ?_
    rintro e w1 ⟨rfl, rfl⟩
    rw [HA.out]
    go_wp2
    go_ret
    refine ⟨_, M, rfl, HM.out.below HB.out, ⟨fun x hx => hx, hasI_iff.1 HA.out, fun x hx hn => absurd hx hn, HNM.out, Nat.le_refl _⟩, HB.out⟩
  · have HA : Hid (hasI M a = false) := Lib.hid (by simpa using hh)
    have HAN : Hid (a ∉ M) := Lib.hid (fun h => hh (hasI_iff.2 h))
    obtain ⟨m, rfl⟩ : ∃ m : Nat, a = m := ⟨a.toNat, by omega⟩
    have hml2 : m < f.nodes.length := by omega
    obtain ⟨g, off, lv, rfl, hg, hcc, he, -⟩ := HH.out m hml2
    have HC6 := Lib.hid hcc.c6
    obtain ⟨q, hqq⟩ : ∃ q, q = f.nodes[m] := ⟨_, rfl⟩
    have HQ := Lib.hid hqq
    rw [← hqq] at he
    have HE0 := Lib.hid he
    obtain ⟨oe, ce, rfl, -, hE⟩ := id he
    have HE := Lib.hid hE
    have hql : q.list.length ≤ 1048576 := HS2.out q (by rw [HQ.out]; exact List.getElem_mem hml2)
    have HKD : Hid (∀ x, x ∈ kids f.nodes (m : Int) ↔ ∃ i, ∃ h : i < q.list.length, x = q.list[i].node) := Lib.hid (by
      intro x
      have e1 : f.nodes.getD (m : Int).toNat ⟨0, 0, 0, 0, 0, [], []⟩ = q := by rw [HQ.out]; simp [List.getD, hml2]
      unfold kids
      rw [e1, List.mem_map]
      constructor
      · rintro ⟨e, he, rfl⟩
        obtain ⟨i, hi, rfl⟩ := List.getElem_of_mem he
        exact ⟨i, hi, rfl⟩
      · rintro ⟨i, hi, rfl⟩
        exact ⟨_, List.getElem_mem hi, rfl⟩)
    have HLQ : Hid (∀ i (h : i < q.list.length), 0 ≤ q.list[i].node ∧ q.list[i].node < f.nodes.length) := Lib.hid (fun i hi => HLD.out q (by rw [HQ.out]; exact List.getElem_mem hml2) _ (List.getElem_mem hi))
    clear hh hqq he hE hcc
    go_enter Try.func35, Try.ntmps35
    go_wp2_with fail
    refine (l1Has_any M _ _ _ (HM.out.below HB.out) (by omega)).mono ?_
    rintro e w1 ⟨rfl, rfl⟩
    rw [HA.out]
    go_wp2_with fail
    refine (l1Put_any M _ _ _ (HM.out.below HB.out) HAN.out (by omega)).mono ?_
    rintro e w2 ⟨v2, kk, rfl, hL2, hb2⟩
    have HB2 := Lib.hid (HB.out.trans (hb2.mono HB.out.size))
    have HK2 := Lib.hid ((hb2.block w.heap.size (lt_of_heap HK.out)).trans HK.out)
    have s0 := (cell_blk HK2.out 0).trans rfl
    have d6 := (HB2.out.cell (p := ⟨g, off + m * 7 + 6, none⟩) hg).trans HC6.out
    have HP : Hid (Nums f.nodes.length (M.take kk ++ (m : Int) :: M.drop kk)) := Lib.hid (put_nums HNM.out HAN.out h0 h1)
    have hlen : (M.take kk ++ (m : Int) :: M.drop kk).length = M.length + 1 := by
      have := congrArg List.length (List.take_append_drop kk M)
      simp only [List.length_append, List.length_cons] at this ⊢
      omega
    have hmax := HP.out.len
    have HL2 := Lib.hid hL2.read
    obtain ⟨o2, c2, rfl, -, -, -, -⟩ := hL2.read
    obtain ⟨M0, hM0⟩ : ∃ M0, M0 = M.take kk ++ (m : Int) :: M.drop kk := ⟨_, rfl⟩
    have HM0 : Hid (∀ x, x ∈ M0 ↔ x = (m : Int) ∨ x ∈ M) := Lib.hid (fun x => by rw [hM0]; exact put_mem)
    rw [← hM0] at HP hlen hmax HL2 ⊢
    clear hb2 hL2 hM0
    go_wp2
    go_loopw [2, 23] (fun t i wr => ∃ (j : Nat) (M1 : List Int), j ≤ q.list.length ∧ i = .int .i64 j ∧ RdI wr t M1 ∧ MetI f.nodes M0 (m : Int) q.list j M1 ∧ Below w.heap.size w wr ∧ wr.heap[w.heap.size]? = some (.cells #[.slice (some ⟨g, off, none⟩) f.nodes.length c, .int .i64 f.room] 31)) (fun _ i _ => q.list.length - (intOf i).toNat)
    case atStart => exact ⟨0, M0, Nat.zero_le _, rfl, (by first | exact HL2.out | (rw [← hlen]; exact HL2.out)), ⟨fun x hx => hx, fun x hx hn => absurd hx hn, fun i hi h => absurd h (Nat.not_lt_zero _), HP.out, Nat.le_refl _⟩, HB2.out, HK2.out⟩
    case round =>
      obtain ⟨j, M1, hj, rfl, hR1, hI, hBr, hbr⟩ := hrel
      have HI := Lib.hid hI
      have HBr := Lib.hid hBr
      have Hbr := Lib.hid hbr
      have HR1 := Lib.hid hR1
      obtain ⟨o3, c3, rfl, -, -, -, -⟩ := hR1
      have hlen1 := hI.len
      clear hI
      by_cases hlt : j < q.list.length
      · obtain ⟨g2, f2, rfl, q2, x2, y2, _⟩ := HE.out j hlt
        have a1 := (hBr.cell (p := ⟨g2, f2 + j * 2, none⟩) q2).trans x2
        have a2 := (hBr.cell (p := ⟨g2, f2 + j * 2 + 1, none⟩) q2).trans y2
        obtain ⟨l1, l2⟩ := HLQ.out j hlt
        have HKJ : Hid (q.list[j].node ∈ kids f.nodes (m : Int)) := Lib.hid ((HKD.out _).2 ⟨j, hlt, rfl⟩)
        obtain ⟨y, hyy⟩ : ∃ y, y = bs q.list[j].name := ⟨_, rfl⟩
        rw [← hyy] at a1
        obtain ⟨r, hr⟩ : ∃ r, r = q.list[j].node := ⟨_, rfl⟩
        have HRR := Lib.hid hr
        rw [← hr] at a2 l1 l2 HKJ
        have HW3 : Hid (Below w.heap.size w (wr.alloc (.cells #[.string y, .int .i64 r] 67))) := Lib.hid (hBr.alloc hBr.size _)
        have HW4 : Hid (Below wr.heap.size wr (wr.alloc (.cells #[.string y, .int .i64 r] 67))) := Lib.hid ((Below.refl _ _).alloc (Nat.le_refl _) _)
        have hb3 : (wr.alloc (.cells #[.string y, .int .i64 r] 67)).heap[w.heap.size]? = some (.cells #[.slice (some ⟨g, off, none⟩) f.nodes.length c, .int .i64 f.room] 31) := (Below.heap_alloc _ _ _ (lt_of_heap hbr)).trans hbr
        have t0 := (cell_blk hb3 0).trans rfl
        have t1 := (cell_blk hb3 1).trans rfl
        have b0 := (cell_blk hbr 0).trans rfl
        have b1 := (cell_blk hbr 1).trans rfl
        have HB3 := Lib.hid hb3
        have hmax1 := HI.out.nums.len
        clear x2 y2 hyy hr hBr hbr hb3
        go_wp2_with fail
        refine (HIH.out (f.nodes.length - M1.length) (by omega) M1 _ _ _ _ rfl (HR.out.below HW3.out) (HR1.out.below HW4.out) HI.out.nums l1 l2).mono ?_
        rintro e w5 ⟨v5, M2, rfl, hR5, hM5, hb5⟩
        have HR5 := Lib.hid hR5
        have HI5 := Lib.hid (MetI.next HI.out hlt (by rw [← HRR.out]; exact HKJ.out) (by rw [← HRR.out]; exact hM5))
        have HB5 := Lib.hid (HW3.out.trans (hb5.mono HW3.out.size))
        have HK5 := Lib.hid ((hb5.block w.heap.size (lt_of_heap HB3.out)).trans HB3.out)
        obtain ⟨o5, c5, rfl, -, -, -, -⟩ := hR5
        clear hM5 hb5
        go_wp2
        go_roundw
        case rel => exact ⟨j + 1, M2, hlt, by go_num, HR5.out, HI5.out, HB5.out, HK5.out⟩
        case measure => simp [intOf]; omega
      · go_wp2
        go_ret
        refine ⟨_, M1, rfl, HR1.out, ⟨fun x hx => HI.out.sub x ((HM0.out x).2 (.inr hx)), HI.out.sub _ ((HM0.out _).2 (.inl rfl)), fun x hx hn => ?_, HI.out.nums, by omega⟩, HBr.out⟩
        by_cases h3 : x ∈ M0
        · rcases (HM0.out x).1 h3 with rfl | h4
          · refine ⟨.refl, fun cc hcc => ?_⟩
            obtain ⟨i, hi, rfl⟩ := (HKD.out cc).1 hcc
            exact HI.out.done i hi (by omega)
          · exact absurd h4 hn
        · exact HI.out.new x hx h3

/-- Behind the first call: what comes from a. -/
theorem Met.all {ns : List Nod} {a : Int} {M : List Int} (h : Met ns [] a M) (x : Int) : x ∈ M ↔ Reach ns a x := by
  constructor
  · exact fun hx => (h.new x hx (by simp)).1
  · intro hr
    induction hr with
    | refl => exact h.has
    | step _ hk ih => exact (h.new _ ih (by simp)).2 _ hk
end Go.Proofs.Ytbmbbioanlcioaa
