
/-
  The ways below a node as data: their texts, and how many they can be in a good file system.
  Conditions: as each states.
-/
import Derived.Test.YtbmbbioanlcioaaDeepM
namespace Go.Proofs.Ytbmbbioanlcioaa
open Go.ChangeShapes Go.WideShapes Go.ChangeAt Go.RowKit Go.Joins
set_option linter.unusedVariables false
set_option linter.unusedSimpArgs false

/-- A way's text. -/
def wayB (ps : List (List UInt8)) : List UInt8 := if ps = [] then [46] else (slashed ps).drop 1
theorem wayB_nil : wayB [] = [46] := rfl
theorem slashed_drop {ps : List (List UInt8)} (h : ps ≠ []) : slashed ps = 47 :: (slashed ps).drop 1 := by
  cases ps with
  | nil => exact absurd rfl h
  | cons p r => simp [slashed]
theorem wayB_dot {ps : List (List UInt8)} (hp : ∀ p ∈ ps, p ≠ [46]) (h : ps ≠ []) : wayB ps ≠ [46] := by
  cases ps with
  | nil => exact absurd rfl h
  | cons p r =>
    unfold wayB
    rw [if_neg h]
    have e : (slashed (p :: r)).drop 1 = p ++ slashed r := by simp [slashed]
    rw [e]
    intro h2
    cases r with
    | nil => exact hp p (by simp) (by simpa [slashed] using h2)
    | cons q r =>
      have e2 : slashed (q :: r) = 47 :: (q ++ slashed r) := by simp [slashed]
      rw [e2] at h2
      cases p with
      | nil => simp at h2
      | cons c p => simp at h2
/-- The next way is the way, a slash and the name; below '.' the name alone. -/
theorem wayB_snoc {ps : List (List UInt8)} (hp : ∀ p ∈ ps, p ≠ [46]) (n : List UInt8) : (wayB ps ≠ [46] → wayB (ps ++ [n]) = wayB ps ++ [47] ++ n) ∧ (wayB ps = [46] → wayB (ps ++ [n]) = n) := by
  by_cases h : ps = []
  · subst h
    exact ⟨fun h => absurd rfl h, fun _ => by simp [wayB, slashed]⟩
  · refine ⟨fun _ => ?_, fun h2 => absurd h2 (wayB_dot hp h)⟩
    unfold wayB
    rw [if_neg (by simp), if_neg h, slashed_snoc, slashed_drop h]
    simp
theorem slashed_size (m : Nat) : ∀ (ps : List (List UInt8)), (∀ p ∈ ps, p.length ≤ m) → (slashed ps).length ≤ ps.length * (m + 1)
  | [], _ => by simp [slashed]
  | p :: r, h => by
    have h1 := slashed_size m r (fun q hq => h q (by simp [hq]))
    have h2 := h p (by simp)
    have e : slashed (p :: r) = 47 :: p ++ slashed r := by simp [slashed]
    rw [e, List.length_cons, List.cons_append, List.length_cons, List.length_append, Nat.succ_mul]
    omega
theorem wayB_size {ps : List (List UInt8)} (h : ∀ p ∈ ps, p.length ≤ 8) : (wayB ps).length ≤ ps.length * 9 + 1 := by
  have := slashed_size 8 ps h
  unfold wayB
  split
  · simp
  · simp only [List.length_drop]; omega

/-- The ways below a node, each with the names ahead of it. -/
def wyF (ns : List Nod) (post : Bool) : Nat → Nat → List (List UInt8) → List (List UInt8)
  | 0, _, ps => [wayB ps]
  | k + 1, i, ps => if post then ((lsAt ns i).flatMap fun e => wyF ns post k e.node.toNat (ps ++ [e.name])) ++ [wayB ps] else wayB ps :: (lsAt ns i).flatMap fun e => wyF ns post k e.node.toNat (ps ++ [e.name])
def wyS (ns : List Nod) (post : Bool) (k : Nat) (ps : List (List UInt8)) (es : List Ent) : List (List UInt8) := es.flatMap fun e => wyF ns post k e.node.toNat (ps ++ [e.name])
theorem wyS_take {ns : List Nod} {post : Bool} {k : Nat} {ps : List (List UInt8)} {es : List Ent} {j : Nat} (h : j < es.length) : wyS ns post k ps (es.take (j + 1)) = wyS ns post k ps (es.take j) ++ wyF ns post k es[j].node.toNat (ps ++ [es[j].name]) := by
  unfold wyS; rw [List.take_succ_eq_append_getElem h, List.flatMap_append]; simp
theorem wyF_val (ns : List Nod) (post : Bool) (k k2 i : Nat) (ps : List (List UInt8)) (h : (k = 0 ∧ lsAt ns i = []) ∨ k = k2 + 1) : wyF ns post k i ps = if post then wyS ns post k2 ps (lsAt ns i) ++ [wayB ps] else wayB ps :: wyS ns post k2 ps (lsAt ns i) := by
  rcases h with ⟨rfl, h⟩ | rfl
  · rw [h]; cases post <;> rfl
  · rfl
theorem wyF_some (ns : List Nod) (post : Bool) (k i : Nat) (ps : List (List UInt8)) : wyF ns post k i ps ≠ [] := by
  cases k with
  | zero => simp [wyF]
  | succ k => cases post <;> simp [wyF]

/-! ### How many -/
/-- The nodes below, as often as there are ways. -/
def blF (ns : List Nod) : Nat → Nat → List Nat
  | 0, i => [i]
  | k + 1, i => i :: (lsAt ns i).flatMap fun e => blF ns k e.node.toNat
def wkids (ns : List Nod) (c : Nat) : List Nat := (lsAt ns c).map fun e => e.node.toNat
def wnxt (ns : List Nod) (l : List Nat) : List Nat := l.flatMap (wkids ns)
theorem sum_flat {α β : Type} (f : α → List β) (g : β → Nat) : ∀ l : List α, ((l.flatMap f).map g).sum = (l.map fun a => ((f a).map g).sum).sum
  | [] => rfl
  | a :: r => by simp [sum_flat f g r]
theorem len_flat {α β : Type} (f : α → List β) : ∀ l : List α, (l.flatMap f).length = (l.map fun a => (f a).length).sum
  | [] => rfl
  | a :: r => by simp [len_flat f r]
theorem bl_succ (ns : List Nod) (k i : Nat) : (blF ns (k + 1) i).length = 1 + ((wkids ns i).map fun c => (blF ns k c).length).sum := by
  show (i :: (lsAt ns i).flatMap fun e => blF ns k e.node.toNat).length = _
  rw [List.length_cons, len_flat, wkids, List.map_map, Nat.add_comm]
  rfl
theorem wy_len (ns : List Nod) (post : Bool) : ∀ (k i : Nat) (ps : List (List UInt8)), (wyF ns post k i ps).length = (blF ns k i).length
  | 0, _, _ => rfl
  | k + 1, i, ps => by
    rw [bl_succ, wkids, List.map_map]
    have e : ((lsAt ns i).flatMap fun e => wyF ns post k e.node.toNat (ps ++ [e.name])).length = ((lsAt ns i).map ((fun c => (blF ns k c).length) ∘ fun e => e.node.toNat)).sum := by
      rw [len_flat]
      congr 1
      exact List.map_congr_left fun e _ => wy_len ns post k _ _
    cases post
    · show (wayB ps :: _).length = _
      rw [List.length_cons, e]; omega
    · show (_ ++ [wayB ps]).length = _
      rw [List.length_append, e]; simp only [List.length_cons, List.length_nil]; omega
/-- All entries. -/
def allE (ns : List Nod) : Nat := tot (fun n => n.list.length) ns
/-- A list of nodes in which no directory stands twice. -/
def Lvl (ns : List Nod) (l : List Nat) : Prop := ∀ c ∈ l, c < ns.length ∧ (lsAt ns c ≠ [] → l.count c ≤ 1)
theorem sum_filter (g : Nat → Nat) (m : Nat) : ∀ l : List Nat, (l.map g).sum = ((l.filter (· != m)).map g).sum + l.count m * g m
  | [] => by simp
  | a :: r => by
    have ih := sum_filter g m r
    by_cases h : a = m
    · subst h
      simp only [List.map_cons, List.sum_cons, List.count_cons_self, Nat.succ_mul, List.filter_cons, bne_self_eq_false, ih]
      simp
      omega
    · have h2 : (a != m) = true := by simp [h]
      simp only [List.map_cons, List.sum_cons, List.filter_cons, h2, if_true, List.count_cons_of_ne h, ih]
      omega
theorem sum_lvl (g : Nat → Nat) : ∀ (n : Nat) (l : List Nat), (∀ c ∈ l, c < n ∧ (g c ≠ 0 → l.count c ≤ 1)) → (l.map g).sum ≤ ((List.range n).map g).sum
  | 0, l, h => by
    cases l with
    | nil => simp
    | cons a r => exact absurd (h a (by simp)).1 (by omega)
  | n + 1, l, h => by
    rw [sum_filter g n l, List.range_succ, List.map_append, List.sum_append]
    have h1 := sum_lvl g n (l.filter (· != n)) (fun c hc => by
      have hc2 := List.mem_filter.1 hc
      have h3 := h c hc2.1
      have h4 : c ≠ n := by simpa using hc2.2
      refine ⟨by omega, fun hg => ?_⟩
      rw [List.count_filter (by simp [h4])]
      exact h3.2 hg)
    have h2 : l.count n * g n ≤ g n := by
      by_cases hg : g n = 0
      · rw [hg]; simp
      · by_cases hm : n ∈ l
        · have := (h n hm).2 hg
          calc l.count n * g n ≤ 1 * g n := Nat.mul_le_mul_right _ this
            _ = g n := Nat.one_mul _
        · rw [List.count_eq_zero.2 hm]; simp
    simp only [List.map_cons, List.map_nil, List.sum_cons, List.sum_nil]
    omega
theorem range_sum (ns : List Nod) : ((List.range ns.length).map fun c => (lsAt ns c).length).sum = allE ns := by
  unfold allE tot
  congr 1
  apply List.ext_getElem
  · simp
  · intro i h1 h2
    have hi : i < ns.length := by simpa using h1
    simp [lsAt_is hi]
theorem allE_le (ns : List Nod) : allE ns ≤ szNs ns := by
  unfold allE szNs
  exact tot_le (g' := szN) (fun n => by unfold szN; omega) ns
theorem nxt_len {ns : List Nod} {l : List Nat} (h : Lvl ns l) : (wnxt ns l).length ≤ allE ns := by
  unfold wnxt
  rw [len_flat, ← range_sum]
  have h1 := sum_lvl (fun c => (lsAt ns c).length) ns.length l (fun c hc => ⟨(h c hc).1, fun hg => (h c hc).2 (fun e => hg (by simp [e]))⟩)
  refine Nat.le_trans (Nat.le_of_eq ?_) h1
  congr 1
  exact List.map_congr_left fun c _ => by simp [wkids]
theorem sum_one (h : Nat → Nat) (q : Nat) (hq : h q ≤ 1) (h0 : ∀ p, p ≠ q → h p = 0) : ∀ l : List Nat, (l.map h).sum ≤ l.count q
  | [] => by simp
  | a :: r => by
    have ih := sum_one h q hq h0 r
    by_cases e : a = q
    · subst e
      simp only [List.map_cons, List.sum_cons, List.count_cons_self]; omega
    · rw [List.map_cons, List.sum_cons, h0 a e, List.count_cons_of_ne e]; omega
theorem wkids_count (ns : List Nod) (p : Nat) (c : Nat) (hpos : ∀ e ∈ lsAt ns p, 0 ≤ e.node) : (wkids ns p).count c = linksE (c : Int) (lsAt ns p) := by
  unfold wkids linksE tot
  revert hpos
  generalize lsAt ns p = es
  intro hpos
  induction es with
  | nil => rfl
  | cons e r ih =>
    have h1 := ih (fun x hx => hpos x (by simp [hx]))
    have h2 := hpos e (by simp)
    rw [List.map_cons, List.map_cons, List.sum_cons, ← h1]
    by_cases hc : e.node = (c : Int)
    · have : e.node.toNat = c := by omega
      rw [this, List.count_cons_self]
      unfold one
      rw [if_pos hc]; omega
    · have : e.node.toNat ≠ c := by omega
      rw [List.count_cons_of_ne this]
      unfold one
      rw [if_neg hc]; omega
theorem kind_dir {f : FsD} (h : goodF f = true) {c : Nat} (hc : c < f.nodes.length) (hl : lsAt f.nodes c ≠ []) : kindAt f.nodes (c : Int) = 2 := by
  have hn := (goodF_GoodF h).2.2.2.2.1 _ (List.getElem_mem hc)
  rw [lsAt_is hc] at hl
  have h7 := (nodOkI_dir (nodOk_iff.1 hn).1 hl).1
  unfold kindAt
  rw [show ((c : Int)).toNat = c by simp, getD_at hc]; exact h7
theorem lsAt_out {ns : List Nod} {p : Nat} (h : ¬ p < ns.length) : lsAt ns p = [] := by
  unfold lsAt; simp [List.getD, List.getElem?_eq_none (Nat.le_of_not_lt h)]
theorem lvl_next {f : FsD} (h : goodF f = true) {l : List Nat} (hl : Lvl f.nodes l) : Lvl f.nodes (wnxt f.nodes l) := by
  intro c hc
  obtain ⟨p, hp, hk⟩ := List.mem_flatMap.1 hc
  obtain ⟨e, he, hec⟩ := List.mem_map.1 hk
  have hpl := (hl p hp).1
  obtain ⟨a1, a2, a3⟩ := ent_facts h hpl he
  have hcn : e.node = (c : Int) := by omega
  have hcl : c < f.nodes.length := by omega
  refine ⟨hcl, fun hls => ?_⟩
  have hkd := kind_dir h hcl hls
  have hpos : ∀ q, ∀ e ∈ lsAt f.nodes q, 0 ≤ e.node := fun q e he => by
    by_cases hq : q < f.nodes.length
    · have := ent_facts h hq he; omega
    · rw [lsAt_out hq] at he; cases he
  have hz : ∀ q, q ≠ p → (wkids f.nodes q).count c = 0 := fun q hq => by
    rw [wkids_count _ _ _ (hpos q)]
    by_cases h0 : 0 < linksE (c : Int) (lsAt f.nodes q)
    · obtain ⟨e2, he2, hn2⟩ := hasE_mem.1 (hasE_iff.2 h0)
      have hql : q < f.nodes.length := by
        by_cases hq : q < f.nodes.length
        · exact hq
        · rw [lsAt_out hq] at he2; cases he2
      have b3 := (ent_facts h hql he2).2.2 (by rw [hn2]; exact hkd)
      have c3 := a3 (by rw [hcn]; exact hkd)
      rw [hn2] at b3
      rw [hcn] at c3
      rw [b3] at c3
      omega
    · omega
  have h1 : (wkids f.nodes p).count c ≤ 1 := by
    rw [wkids_count _ _ _ (hpos p)]
    have hlk : links (c : Int) f.nodes = 1 := ((goodF_GoodF h).2.2.2.2.2 c hcl).2.1 (by omega) hkd
    have h2 := tot_take (fun n : Nod => linksE (c : Int) n.list) hpl
    have h3 := tot_pre (fun n : Nod => linksE (c : Int) n.list) f.nodes (p + 1)
    have h4 : tot (fun n : Nod => linksE (c : Int) n.list) f.nodes = 1 := hlk
    rw [lsAt_is hpl]
    omega
  have hlp : lsAt f.nodes p ≠ [] := fun e0 => by rw [e0] at he; cases he
  have := (hl p hp).2 hlp
  unfold wnxt
  rw [List.count_flatMap]
  exact Nat.le_trans (sum_one (List.count c ∘ wkids f.nodes) p h1 hz l) this
theorem bl_sum {f : FsD} (h : goodF f = true) : ∀ (k : Nat) (l : List Nat), Lvl f.nodes l → (l.map fun c => (blF f.nodes k c).length).sum ≤ l.length + k * allE f.nodes
  | 0, l, hl => by
    have : ∀ l : List Nat, (l.map fun c => (blF f.nodes 0 c).length).sum = l.length := fun l => by
      induction l with
      | nil => rfl
      | cons a r ih => rw [List.map_cons, List.sum_cons, ih, List.length_cons]; simp [blF]; omega
    rw [this]; omega
  | k + 1, l, hl => by
    have e : ∀ l : List Nat, (l.map fun c => (blF f.nodes (k + 1) c).length).sum = l.length + ((wnxt f.nodes l).map fun c => (blF f.nodes k c).length).sum := fun l => by
      induction l with
      | nil => rfl
      | cons a r ih =>
        rw [List.map_cons, List.sum_cons, ih, bl_succ, List.length_cons]
        have e2 : wnxt f.nodes (a :: r) = wkids f.nodes a ++ wnxt f.nodes r := by simp [wnxt]
        rw [e2, List.map_append, List.sum_append]
        omega
    have h1 := bl_sum h k (wnxt f.nodes l) (lvl_next h hl)
    have h2 := nxt_len hl
    rw [e, Nat.succ_mul]
    omega
theorem wy_small {f : FsD} (h : goodF f = true) (hs : szF f ≤ 1048576) {i k : Nat} (hi : i < f.nodes.length) (hk : k ≤ 41) (post : Bool) (ps : List (List UInt8)) : (wyF f.nodes post k i ps).length ≤ 50000000 := by
  rw [wy_len]
  have h1 := bl_sum h k [i] (fun c hc => by
    have : c = i := by simpa using hc
    subst this
    exact ⟨hi, fun _ => by simp⟩)
  have h2 := allE_le f.nodes
  have h3 : szNs f.nodes ≤ 1048576 := by unfold szF at hs; omega
  have h4 : k * allE f.nodes ≤ 41 * 1048576 := Nat.mul_le_mul hk (by omega)
  simp only [List.map_cons, List.map_nil, List.sum_cons, List.sum_nil, List.length_cons, List.length_nil] at h1
  omega
/-- An entry's name in a good file system. -/
theorem name_facts {f : FsD} (h : goodF f = true) {i : Nat} {e : Ent} (he : e ∈ lsAt f.nodes i) : e.name ≠ [46] ∧ e.name.length ≤ 8 := by
  have hi : i < f.nodes.length := by
    by_cases hq : i < f.nodes.length
    · exact hq
    · rw [lsAt_out hq] at he; cases he
  rw [lsAt_is hi] at he
  have hn := (goodF_GoodF h).2.2.2.2.1 _ (List.getElem_mem hi)
  have h1 := nodOkI_dir (nodOk_iff.1 hn).1 (fun x => by rw [x] at he; cases he)
  obtain ⟨k, hk, rfl⟩ := List.getElem_of_mem he
  have h2 := h1.2
  unfold entsOkI at h2
  rw [List.all_eq_true] at h2
  have h3 := h2 k (List.mem_range.2 hk)
  unfold entOkI at h3
  simp only [Bool.and_eq_true] at h3
  have e1 : (f.nodes[i].list).getD k ⟨[], 0⟩ = (f.nodes[i].list)[k] := by simp [List.getD, hk]
  have h4 := h3.1.1
  rw [e1] at h4
  unfold nameB partB at h4
  simp at h4
  exact ⟨h4.2.1, h4.1.1.2⟩
end Go.Proofs.Ytbmbbioanlcioaa
