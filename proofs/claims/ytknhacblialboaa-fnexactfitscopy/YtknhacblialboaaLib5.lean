/-
  Joined: WayM AppS AppG HelpC MarkC WayA DeepA AppK DeepB Shelf WayB WayC BelI.
  Conditions: as each states.
-/
import Derived.Maps.AppendAt
import Derived.Laws.Rows
import Derived.RegionTactic
import Derived.Deep.RegionLaw
import Derived.Laws.OwnMore
import Derived.Deep.QuietTactic
import Derived.BigQuiet
import Derived.Laws.BytesString
import Derived.Laws.IdiomStrings
import Derived.Lib.QuietBelow
import Derived.Deep.RegionHeld3
import Derived.Shelf.Strings.Builder1
import Derived.Shelf.Strings.Builder2
import Derived.Shelf.Strings.OnBuilder
import Derived.Shelf.Sort.Plain
import Derived.Ground.Names2Prog
import Derived.Shelf.Slices.CompactI
import Derived.Deep.AppendLies
import Derived.Test.YtknhacblialboaaProg
import Derived.Test.YtknhacblialboaaLib1
import Derived.Test.YtknhacblialboaaLib2
import Derived.Test.YtknhacblialboaaLib4

/-
  The ways below a node as data: their texts, and how many they can be in a good file system.
  Conditions: as each states.
-/
namespace Go.Proofs.Ytknhacblialboaa
open Go.ChangeShapes Go.WideShapes Go.ChangeAt Go.RowKit Go.Joins
set_option linter.unusedVariables false
set_option linter.unusedSimpArgs false

/-- A way's text. -/
def wayB (ps : List (List UInt8)) : List UInt8 := if ps = [] then [46] else (slashed ps).drop 1
theorem wayB_nil : wayB [] = [46] := rfl
theorem slashed_drop {ps : List (List UInt8)} (h : ps ≠ []) : slashed ps = 47 :: (slashed ps).drop 1 := by
  cases ps with
  | nil => exact absurd rfl h
  | cons p r => simp [slashed]
theorem wayB_dot {ps : List (List UInt8)} (hp : ∀ p ∈ ps, p ≠ [46]) (h : ps ≠ []) : wayB ps ≠ [46] := by
  cases ps with
  | nil => exact absurd rfl h
  | cons p r =>
    unfold wayB
    rw [if_neg h]
    have e : (slashed (p :: r)).drop 1 = p ++ slashed r := by simp [slashed]
    rw [e]
    intro h2
    cases r with
    | nil => exact hp p (by simp) (by simpa [slashed] using h2)
    | cons q r =>
      have e2 : slashed (q :: r) = 47 :: (q ++ slashed r) := by simp [slashed]
      rw [e2] at h2
      cases p with
      | nil => simp at h2
      | cons c p => simp at h2
/-- The next way is the way, a slash and the name; below '.' the name alone. -/
theorem wayB_snoc {ps : List (List UInt8)} (hp : ∀ p ∈ ps, p ≠ [46]) (n : List UInt8) : (wayB ps ≠ [46] → wayB (ps ++ [n]) = wayB ps ++ [47] ++ n) ∧ (wayB ps = [46] → wayB (ps ++ [n]) = n) := by
  by_cases h : ps = []
  · subst h
    exact ⟨fun h => absurd rfl h, fun _ => by simp [wayB, slashed]⟩
  · refine ⟨fun _ => ?_, fun h2 => absurd h2 (wayB_dot hp h)⟩
    unfold wayB
    rw [if_neg (by simp), if_neg h, slashed_snoc, slashed_drop h]
    simp
theorem slashed_size (m : Nat) : ∀ (ps : List (List UInt8)), (∀ p ∈ ps, p.length ≤ m) → (slashed ps).length ≤ ps.length * (m + 1)
  | [], _ => by simp [slashed]
  | p :: r, h => by
    have h1 := slashed_size m r (fun q hq => h q (by simp [hq]))
    have h2 := h p (by simp)
    have e : slashed (p :: r) = 47 :: p ++ slashed r := by simp [slashed]
    rw [e, List.length_cons, List.cons_append, List.length_cons, List.length_append, Nat.succ_mul]
    omega
theorem wayB_size {ps : List (List UInt8)} (h : ∀ p ∈ ps, p.length ≤ 8) : (wayB ps).length ≤ ps.length * 9 + 1 := by
  have := slashed_size 8 ps h
  unfold wayB
  split
  · simp
  · simp only [List.length_drop]; omega

/-- The ways below a node, each with the names ahead of it. -/
def wyF (ns : List Nod) (post : Bool) : Nat → Nat → List (List UInt8) → List (List UInt8)
  | 0, _, ps => [wayB ps]
  | k + 1, i, ps => if post then ((lsAt ns i).flatMap fun e => wyF ns post k e.node.toNat (ps ++ [e.name])) ++ [wayB ps] else wayB ps :: (lsAt ns i).flatMap fun e => wyF ns post k e.node.toNat (ps ++ [e.name])
def wyS (ns : List Nod) (post : Bool) (k : Nat) (ps : List (List UInt8)) (es : List Ent) : List (List UInt8) := es.flatMap fun e => wyF ns post k e.node.toNat (ps ++ [e.name])
theorem wyS_take {ns : List Nod} {post : Bool} {k : Nat} {ps : List (List UInt8)} {es : List Ent} {j : Nat} (h : j < es.length) : wyS ns post k ps (es.take (j + 1)) = wyS ns post k ps (es.take j) ++ wyF ns post k es[j].node.toNat (ps ++ [es[j].name]) := by
  unfold wyS; rw [List.take_succ_eq_append_getElem h, List.flatMap_append]; simp
theorem wyF_val (ns : List Nod) (post : Bool) (k k2 i : Nat) (ps : List (List UInt8)) (h : (k = 0 ∧ lsAt ns i = []) ∨ k = k2 + 1) : wyF ns post k i ps = if post then wyS ns post k2 ps (lsAt ns i) ++ [wayB ps] else wayB ps :: wyS ns post k2 ps (lsAt ns i) := by
  rcases h with ⟨rfl, h⟩ | rfl
  · rw [h]; cases post <;> rfl
  · rfl
theorem wyF_some (ns : List Nod) (post : Bool) (k i : Nat) (ps : List (List UInt8)) : wyF ns post k i ps ≠ [] := by
  cases k with
  | zero => simp [wyF]
  | succ k => cases post <;> simp [wyF]

/-! ### How many -/
/-- The nodes below, as often as there are ways. -/
def blF (ns : List Nod) : Nat → Nat → List Nat
  | 0, i => [i]
  | k + 1, i => i :: (lsAt ns i).flatMap fun e => blF ns k e.node.toNat
def wkids (ns : List Nod) (c : Nat) : List Nat := (lsAt ns c).map fun e => e.node.toNat
def wnxt (ns : List Nod) (l : List Nat) : List Nat := l.flatMap (wkids ns)
theorem sum_flat {α β : Type} (f : α → List β) (g : β → Nat) : ∀ l : List α, ((l.flatMap f).map g).sum = (l.map fun a => ((f a).map g).sum).sum
  | [] => rfl
  | a :: r => by simp [sum_flat f g r]
theorem len_flat {α β : Type} (f : α → List β) : ∀ l : List α, (l.flatMap f).length = (l.map fun a => (f a).length).sum
  | [] => rfl
  | a :: r => by simp [len_flat f r]
theorem bl_succ (ns : List Nod) (k i : Nat) : (blF ns (k + 1) i).length = 1 + ((wkids ns i).map fun c => (blF ns k c).length).sum := by
  show (i :: (lsAt ns i).flatMap fun e => blF ns k e.node.toNat).length = _
  rw [List.length_cons, len_flat, wkids, List.map_map, Nat.add_comm]
  rfl
theorem wy_len (ns : List Nod) (post : Bool) : ∀ (k i : Nat) (ps : List (List UInt8)), (wyF ns post k i ps).length = (blF ns k i).length
  | 0, _, _ => rfl
  | k + 1, i, ps => by
    rw [bl_succ, wkids, List.map_map]
    have e : ((lsAt ns i).flatMap fun e => wyF ns post k e.node.toNat (ps ++ [e.name])).length = ((lsAt ns i).map ((fun c => (blF ns k c).length) ∘ fun e => e.node.toNat)).sum := by
      rw [len_flat]
      congr 1
      exact List.map_congr_left fun e _ => wy_len ns post k _ _
    cases post
    · show (wayB ps :: _).length = _
      rw [List.length_cons, e]; omega
    · show (_ ++ [wayB ps]).length = _
      rw [List.length_append, e]; simp only [List.length_cons, List.length_nil]; omega
/-- All entries. -/
def allE (ns : List Nod) : Nat := tot (fun n => n.list.length) ns
/-- A list of nodes in which no directory stands twice. -/
def Lvl (ns : List Nod) (l : List Nat) : Prop := ∀ c ∈ l, c < ns.length ∧ (lsAt ns c ≠ [] → l.count c ≤ 1)
theorem sum_filter (g : Nat → Nat) (m : Nat) : ∀ l : List Nat, (l.map g).sum = ((l.filter (· != m)).map g).sum + l.count m * g m
  | [] => by simp
  | a :: r => by
    have ih := sum_filter g m r
    by_cases h : a = m
    · subst h
      simp only [List.map_cons, List.sum_cons, List.count_cons_self, Nat.succ_mul, List.filter_cons, bne_self_eq_false, ih]
      simp
      omega
    · have h2 : (a != m) = true := by simp [h]
      simp only [List.map_cons, List.sum_cons, List.filter_cons, h2, if_true, List.count_cons_of_ne h, ih]
      omega
theorem sum_lvl (g : Nat → Nat) : ∀ (n : Nat) (l : List Nat), (∀ c ∈ l, c < n ∧ (g c ≠ 0 → l.count c ≤ 1)) → (l.map g).sum ≤ ((List.range n).map g).sum
  | 0, l, h => by
    cases l with
    | nil => simp
    | cons a r => exact absurd (h a (by simp)).1 (by omega)
  | n + 1, l, h => by
    rw [sum_filter g n l, List.range_succ, List.map_append, List.sum_append]
    have h1 := sum_lvl g n (l.filter (· != n)) (fun c hc => by
      have hc2 := List.mem_filter.1 hc
      have h3 := h c hc2.1
      have h4 : c ≠ n := by simpa using hc2.2
      refine ⟨by omega, fun hg => ?_⟩
      rw [List.count_filter (by simp [h4])]
      exact h3.2 hg)
    have h2 : l.count n * g n ≤ g n := by
      by_cases hg : g n = 0
      · rw [hg]; simp
      · by_cases hm : n ∈ l
        · have := (h n hm).2 hg
          calc l.count n * g n ≤ 1 * g n := Nat.mul_le_mul_right _ this
            _ = g n := Nat.one_mul _
        · rw [List.count_eq_zero.2 hm]; simp
    simp only [List.map_cons, List.map_nil, List.sum_cons, List.sum_nil]
    omega
theorem range_sum (ns : List Nod) : ((List.range ns.length).map fun c => (lsAt ns c).length).sum = allE ns := by
  unfold allE tot
  congr 1
  apply List.ext_getElem
  · simp
  · intro i h1 h2
    have hi : i < ns.length := by simpa using h1
    simp [lsAt_is hi]
theorem allE_le (ns : List Nod) : allE ns ≤ szNs ns := by
  unfold allE szNs
  exact tot_le (g' := szN) (fun n => by unfold szN; omega) ns
theorem nxt_len {ns : List Nod} {l : List Nat} (h : Lvl ns l) : (wnxt ns l).length ≤ allE ns := by
  unfold wnxt
  rw [len_flat, ← range_sum]
  have h1 := sum_lvl (fun c => (lsAt ns c).length) ns.length l (fun c hc => ⟨(h c hc).1, fun hg => (h c hc).2 (fun e => hg (by simp [e]))⟩)
  refine Nat.le_trans (Nat.le_of_eq ?_) h1
  congr 1
  exact List.map_congr_left fun c _ => by simp [wkids]
theorem sum_one (h : Nat → Nat) (q : Nat) (hq : h q ≤ 1) (h0 : ∀ p, p ≠ q → h p = 0) : ∀ l : List Nat, (l.map h).sum ≤ l.count q
  | [] => by simp
  | a :: r => by
    have ih := sum_one h q hq h0 r
    by_cases e : a = q
    · subst e
      simp only [List.map_cons, List.sum_cons, List.count_cons_self]; omega
    · rw [List.map_cons, List.sum_cons, h0 a e, List.count_cons_of_ne e]; omega
theorem wkids_count (ns : List Nod) (p : Nat) (c : Nat) (hpos : ∀ e ∈ lsAt ns p, 0 ≤ e.node) : (wkids ns p).count c = linksE (c : Int) (lsAt ns p) := by
  unfold wkids linksE tot
  revert hpos
  generalize lsAt ns p = es
  intro hpos
  induction es with
  | nil => rfl
  | cons e r ih =>
    have h1 := ih (fun x hx => hpos x (by simp [hx]))
    have h2 := hpos e (by simp)
    rw [List.map_cons, List.map_cons, List.sum_cons, ← h1]
    by_cases hc : e.node = (c : Int)
    · have : e.node.toNat = c := by omega
      rw [this, List.count_cons_self]
      unfold one
      rw [if_pos hc]; omega
    · have : e.node.toNat ≠ c := by omega
      rw [List.count_cons_of_ne this]
      unfold one
      rw [if_neg hc]; omega
theorem kind_dir {f : FsD} (h : goodF f = true) {c : Nat} (hc : c < f.nodes.length) (hl : lsAt f.nodes c ≠ []) : kindAt f.nodes (c : Int) = 2 := by
  have hn := (goodF_GoodF h).2.2.2.2.1 _ (List.getElem_mem hc)
  rw [lsAt_is hc] at hl
  have h7 := (nodOkI_dir (nodOk_iff.1 hn).1 hl).1
  unfold kindAt
  rw [show ((c : Int)).toNat = c by simp, getD_at hc]; exact h7
theorem lsAt_out {ns : List Nod} {p : Nat} (h : ¬ p < ns.length) : lsAt ns p = [] := by
  unfold lsAt; simp [List.getD, List.getElem?_eq_none (Nat.le_of_not_lt h)]
theorem lvl_next {f : FsD} (h : goodF f = true) {l : List Nat} (hl : Lvl f.nodes l) : Lvl f.nodes (wnxt f.nodes l) := by
  intro c hc
  obtain ⟨p, hp, hk⟩ := List.mem_flatMap.1 hc
  obtain ⟨e, he, hec⟩ := List.mem_map.1 hk
  have hpl := (hl p hp).1
  obtain ⟨a1, a2, a3⟩ := ent_facts h hpl he
  have hcn : e.node = (c : Int) := by omega
  have hcl : c < f.nodes.length := by omega
  refine ⟨hcl, fun hls => ?_⟩
  have hkd := kind_dir h hcl hls
  have hpos : ∀ q, ∀ e ∈ lsAt f.nodes q, 0 ≤ e.node := fun q e he => by
    by_cases hq : q < f.nodes.length
    · have := ent_facts h hq he; omega
    · rw [lsAt_out hq] at he; cases he
  have hz : ∀ q, q ≠ p → (wkids f.nodes q).count c = 0 := fun q hq => by
    rw [wkids_count _ _ _ (hpos q)]
    by_cases h0 : 0 < linksE (c : Int) (lsAt f.nodes q)
    · obtain ⟨e2, he2, hn2⟩ := hasE_mem.1 (hasE_iff.2 h0)
      have hql : q < f.nodes.length := by
        by_cases hq : q < f.nodes.length
        · exact hq
        · rw [lsAt_out hq] at he2; cases he2
      have b3 := (ent_facts h hql he2).2.2 (by rw [hn2]; exact hkd)
      have c3 := a3 (by rw [hcn]; exact hkd)
      rw [hn2] at b3
      rw [hcn] at c3
      rw [b3] at c3
      omega
    · omega
  have h1 : (wkids f.nodes p).count c ≤ 1 := by
    rw [wkids_count _ _ _ (hpos p)]
    have hlk : links (c : Int) f.nodes = 1 := ((goodF_GoodF h).2.2.2.2.2 c hcl).2.1 (by omega) hkd
    have h2 := tot_take (fun n : Nod => linksE (c : Int) n.list) hpl
    have h3 := tot_pre (fun n : Nod => linksE (c : Int) n.list) f.nodes (p + 1)
    have h4 : tot (fun n : Nod => linksE (c : Int) n.list) f.nodes = 1 := hlk
    rw [lsAt_is hpl]
    omega
  have hlp : lsAt f.nodes p ≠ [] := fun e0 => by rw [e0] at he; cases he
  have := (hl p hp).2 hlp
  unfold wnxt
  rw [List.count_flatMap]
  exact Nat.le_trans (sum_one (List.count c ∘ wkids f.nodes) p h1 hz l) this
theorem bl_sum {f : FsD} (h : goodF f = true) : ∀ (k : Nat) (l : List Nat), Lvl f.nodes l → (l.map fun c => (blF f.nodes k c).length).sum ≤ l.length + k * allE f.nodes
  | 0, l, hl => by
    have : ∀ l : List Nat, (l.map fun c => (blF f.nodes 0 c).length).sum = l.length := fun l => by
      induction l with
      | nil => rfl
      | cons a r ih => rw [List.map_cons, List.sum_cons, ih, List.length_cons]; simp [blF]; omega
    rw [this]; omega
  | k + 1, l, hl => by
    have e : ∀ l : List Nat, (l.map fun c => (blF f.nodes (k + 1) c).length).sum = l.length + ((wnxt f.nodes l).map fun c => (blF f.nodes k c).length).sum := fun l => by
      induction l with
      | nil => rfl
      | cons a r ih =>
        rw [List.map_cons, List.sum_cons, ih, bl_succ, List.length_cons]
        have e2 : wnxt f.nodes (a :: r) = wkids f.nodes a ++ wnxt f.nodes r := by simp [wnxt]
        rw [e2, List.map_append, List.sum_append]
        omega
    have h1 := bl_sum h k (wnxt f.nodes l) (lvl_next h hl)
    have h2 := nxt_len hl
    rw [e, Nat.succ_mul]
    omega
theorem wy_small {f : FsD} (h : goodF f = true) (hs : szF f ≤ 1048576) {i k : Nat} (hi : i < f.nodes.length) (hk : k ≤ 41) (post : Bool) (ps : List (List UInt8)) : (wyF f.nodes post k i ps).length ≤ 50000000 := by
  rw [wy_len]
  have h1 := bl_sum h k [i] (fun c hc => by
    have : c = i := by simpa using hc
    subst this
    exact ⟨hi, fun _ => by simp⟩)
  have h2 := allE_le f.nodes
  have h3 : szNs f.nodes ≤ 1048576 := by unfold szF at hs; omega
  have h4 : k * allE f.nodes ≤ 41 * 1048576 := Nat.mul_le_mul hk (by omega)
  simp only [List.map_cons, List.map_nil, List.sum_cons, List.sum_nil, List.length_cons, List.length_nil] at h1
  omega
/-- An entry's name in a good file system. -/
theorem name_facts {f : FsD} (h : goodF f = true) {i : Nat} {e : Ent} (he : e ∈ lsAt f.nodes i) : e.name ≠ [46] ∧ e.name.length ≤ 8 := by
  have hi : i < f.nodes.length := by
    by_cases hq : i < f.nodes.length
    · exact hq
    · rw [lsAt_out hq] at he; cases he
  rw [lsAt_is hi] at he
  have hn := (goodF_GoodF h).2.2.2.2.1 _ (List.getElem_mem hi)
  have h1 := nodOkI_dir (nodOk_iff.1 hn).1 (fun x => by rw [x] at he; cases he)
  obtain ⟨k, hk, rfl⟩ := List.getElem_of_mem he
  have h2 := h1.2
  unfold entsOkI at h2
  rw [List.all_eq_true] at h2
  have h3 := h2 k (List.mem_range.2 hk)
  unfold entOkI at h3
  simp only [Bool.and_eq_true] at h3
  have e1 : (f.nodes[i].list).getD k ⟨[], 0⟩ = (f.nodes[i].list)[k] := by simp [List.getD, hk]
  have h4 := h3.1.1
  rw [e1] at h4
  unfold nameB partB at h4
  simp at h4
  exact ⟨h4.2.1, h4.1.1.2⟩
end Go.Proofs.Ytknhacblialboaa


/-
  append onto a list of the call's own, as one step of a region that draws its order: the new value written out, also where nothing is appended. No function of the program is named.
  Conditions: as it states.
-/
namespace Go.Proofs.Ytknhacblialboaa
open Go.ChangeShapes Go.WideShapes Go.ChangeAt Go.RowKit Go.Joins
set_option linter.unusedVariables false

theorem owns_form {w : World} {base : Nat} {e : TypeId} {size : Nat} {v : Value} {n : Nat} {xs : List Value} (h : w.ownsRow base e size v n xs) : ∃ oo cap, v = .slice oo n cap ∧ (∀ a, oo = some a → ∃ g, a = ⟨g, 0, none⟩ ∧ base ≤ g ∧ g < w.heap.size) := by
  rcases h.2 with ⟨rfl, h0⟩ | ⟨g, cap, cur, hv, hb, hg, _⟩
  · subst h0; exact ⟨none, 0, rfl, fun a e => by cases e⟩
  · exact ⟨some ⟨g, 0, none⟩, cap, hv, fun a e => by cases e; exact ⟨g, rfl, hb, (Array.getElem?_eq_some_iff.1 hg).1⟩⟩

theorem step_append_any {P : Program} (w : World) {ops : Array Oper} {o : Oper} {a : Act} {K : Act → World → Prop} {Q : Exit → Act → World → Prop} {E : Prop} (hgd : o.guard = none) (s x : Operand) (t : TypeId)
    (ho : o.op = .call { callee := .builtin .append, args := #[s, x], argTypes := #[t, t] })
    (base : Nat) (e : TypeId) (i : TypeInfo) (z : Value) (size bytes : Nat) (ht : P.underlying t = some (.slice e)) (hi : P.info? e = some i) (hz : i.zero = some z)
    (hsize : i.size = size) (hby : i.bytes = bytes) (hzs : z.cells.size = size) (hsz : 0 < size)
    (v : Value) (n : Nat) (xs : List Value) (hs : a.eval s = v) (hown : w.ownsRow base e size v n xs)
    (ad : Addr) (m c : Nat) (news : List Value) (hx : a.eval x = .slice (some ad) m c) (hl : news.length = m * size) (hnews : ∀ j u, news[j]? = some u → w.cell? (ad.add j) = some u) (h1 : ∀ u ∈ news, u.oneCell' = true)
    (h63 : n + m ≤ maxLen) (hbytes : (n + m) * bytes ≤ 140737488355328) (hbase : base ≤ w.heap.size)
    (h : ∀ oo cap w', w'.ownsRow base e size (.slice oo (n + m) cap) (n + m) (xs ++ news) → w.grownBy w' v.ownBlock → (∀ a, oo = some a → ∃ g, a = ⟨g, 0, none⟩ ∧ base ≤ g ∧ g < w'.heap.size) → K (a.put o.dst (.slice oo (n + m) cap)) w') :
    if Region.wanted o (yielded ops a.tmps) = true then Oper.wp P o a w K Q else E := by
  have hw : Region.wanted o (yielded ops a.tmps) = true := by simp [Region.wanted, hgd]
  rw [if_pos hw]
  obtain ⟨v', w', hr, h2, h3, _, h5⟩ := run_append_own_at (P := P) w base t o.type e i z size bytes ht hi hz hsize hby hzs hsz v n xs hown ad m c news hl hnews h1 h63 hbytes hbase
  obtain ⟨oo, cap, rfl, hf⟩ := owns_form h2
  unfold Oper.wp execOp
  simp only [ho, resolve, invoke, builtin, Sem.run_bind, Sem.run_pure, Result.andThen_ok, List.map_toArray, List.map_cons, List.map_nil, hs, hx, hr]
  exact h oo cap w' h2 h3 hf
end Go.Proofs.Ytknhacblialboaa


/-
  append onto a list of the call's own of what any slice holds, also of nothing. No function of the program is named.
  Conditions: as it states.
-/
namespace Go.Proofs.Ytknhacblialboaa
open Go.ChangeShapes Go.WideShapes Go.ChangeAt Go.RowKit Go.Joins
set_option linter.unusedVariables false

theorem run_append_no {P : Program} (w : World) (base : Nat) (t ty e : TypeId) (i : TypeInfo) (size : Nat) (ht : P.underlying t = some (.slice e)) (hi : P.info? e = some i)
    (v : Value) (n c : Nat) (xs : List Value) (hown : w.ownsRow base e size v n xs) :
    (Builtin.append_ #[t, t] ty #[v, .slice none 0 c]).run P w = .ok v w := by
  rcases hown.2 with ⟨rfl, rfl⟩ | ⟨g, cap, cur, rfl, _, _, hnc, _⟩
  · simp [Builtin.append_, run_underlying ht, sizeOf, typeInfo, hi, Builtin.lenOf, Builtin.firstCells]
  · simp [Builtin.append_, run_underlying ht, sizeOf, typeInfo, hi, Builtin.lenOf, Builtin.firstCells, hnc, storeCells]
/-- What a slice holds, cell by cell; of nothing, any slice. -/
def SrcC (w : World) (o : Option Addr) (m : Nat) (news : List Value) : Prop := m ≠ 0 → ∃ g off, o = some ⟨g, off, none⟩ ∧ ∀ j u, news[j]? = some u → w.cell? ⟨g, off + j, none⟩ = some u
theorem add_plainG (g off i : Nat) : (⟨g, off, none⟩ : Addr).add i = ⟨g, off + i, none⟩ := by
  unfold Addr.add; split
  · rename_i h; subst h; rfl
  · rfl
theorem run_append_src {P : Program} (w : World) (base : Nat) (t ty e : TypeId) (i : TypeInfo) (z : Value) (size bytes : Nat) (ht : P.underlying t = some (.slice e)) (hi : P.info? e = some i) (hz : i.zero = some z)
    (hsize : i.size = size) (hby : i.bytes = bytes) (hzs : z.cells.size = size) (hsz : 0 < size)
    (v : Value) (n : Nat) (xs : List Value) (hown : w.ownsRow base e size v n xs)
    (o : Option Addr) (m c : Nat) (news : List Value) (hl : news.length = m * size) (hnews : SrcC w o m news) (h1 : ∀ u ∈ news, u.oneCell' = true)
    (h63 : n + m ≤ maxLen) (hbytes : (n + m) * bytes ≤ 140737488355328) (hbase : base ≤ w.heap.size) :
    ∃ v' w', (Builtin.append_ #[t, t] ty #[v, .slice o m c]).run P w = .ok v' w' ∧ w'.ownsRow base e size v' (n + m) (xs ++ news) ∧ w.grownBy w' v.ownBlock ∧ (v' = .slice none 0 0 ↔ v = .slice none 0 0 ∧ m = 0) := by
  by_cases hm : m = 0
  · subst hm
    have hn : news = [] := List.eq_nil_of_length_eq_zero (by rw [hl]; simp)
    subst hn
    cases o with
    | none => exact ⟨v, w, run_append_no w base t ty e i size ht hi v n c xs hown, by simpa using hown, World.grownBy.refl _ _, by simp⟩
    | some ad => exact run_append_own (P := P) w base t ty e i z size bytes ht hi hz hsize hby hzs hsz v n xs hown ad 0 c [] (by simp) (fun j u h => by simp at h) h1 h63 hbytes hbase
  · obtain ⟨g, off, rfl, hc⟩ := hnews hm
    exact run_append_own (P := P) w base t ty e i z size bytes ht hi hz hsize hby hzs hsz v n xs hown ⟨g, off, none⟩ m c news hl (fun j u h => by rw [add_plainG]; exact hc j u h) h1 h63 hbytes hbase
theorem wpList_append_src {P : Program} (w : World) {ops : Array Oper} {rest : List Oper} {o : Oper} {a : Act} {Q : Exit → Act → World → Prop} (hgd : o.guard = none) (s x : Operand) (t : TypeId)
    (ho : o.op = .call { callee := .builtin .append, args := #[s, x], argTypes := #[t, t] })
    (base : Nat) (e : TypeId) (i : TypeInfo) (z : Value) (size bytes : Nat) (ht : P.underlying t = some (.slice e)) (hi : P.info? e = some i) (hz : i.zero = some z)
    (hsize : i.size = size) (hby : i.bytes = bytes) (hzs : z.cells.size = size) (hsz : 0 < size)
    (v : Value) (n : Nat) (xs : List Value) (hs : a.eval s = v) (hown : w.ownsRow base e size v n xs)
    (oo : Option Addr) (m c : Nat) (news : List Value) (hx : a.eval x = .slice oo m c) (hl : news.length = m * size) (hnews : SrcC w oo m news) (h1 : ∀ u ∈ news, u.oneCell' = true)
    (h63 : n + m ≤ maxLen) (hbytes : (n + m) * bytes ≤ 140737488355328) (hbase : base ≤ w.heap.size)
    (h : ∀ v' w', w'.ownsRow base e size v' (n + m) (xs ++ news) → w.grownBy w' v.ownBlock → (v' = .slice none 0 0 ↔ v = .slice none 0 0 ∧ m = 0) → wpList P ops Q rest (a.put o.dst v') w') : wpList P ops Q (o :: rest) a w := by
  refine wpList_plain hgd fun K hK => ?_
  obtain ⟨v', w', hr, h2, h3, h4⟩ := run_append_src (P := P) w base t o.type e i z size bytes ht hi hz hsize hby hzs hsz v n xs hown oo m c news hl hnews h1 h63 hbytes hbase
  unfold Oper.wp execOp
  simp only [ho, resolve, invoke, builtin, Sem.run_bind, Sem.run_pure, Result.andThen_ok, List.map_toArray, List.map_cons, List.map_nil, hs, hx, hr]
  exact hK _ _ (h v' w' h2 h3 h4)
/-- The same as one step of a region that draws its order. -/
theorem step_append_src {P : Program} (w : World) {ops : Array Oper} {o : Oper} {a : Act} {K : Act → World → Prop} {Q : Exit → Act → World → Prop} {E : Prop} (hgd : o.guard = none) (s x : Operand) (t : TypeId)
    (ho : o.op = .call { callee := .builtin .append, args := #[s, x], argTypes := #[t, t] })
    (base : Nat) (e : TypeId) (i : TypeInfo) (z : Value) (size bytes : Nat) (ht : P.underlying t = some (.slice e)) (hi : P.info? e = some i) (hz : i.zero = some z)
    (hsize : i.size = size) (hby : i.bytes = bytes) (hzs : z.cells.size = size) (hsz : 0 < size)
    (v : Value) (n : Nat) (xs : List Value) (hs : a.eval s = v) (hown : w.ownsRow base e size v n xs)
    (oo : Option Addr) (m c : Nat) (news : List Value) (hx : a.eval x = .slice oo m c) (hl : news.length = m * size) (hnews : SrcC w oo m news) (h1 : ∀ u ∈ news, u.oneCell' = true)
    (h63 : n + m ≤ maxLen) (hbytes : (n + m) * bytes ≤ 140737488355328) (hbase : base ≤ w.heap.size)
    (h : ∀ v' w', w'.ownsRow base e size v' (n + m) (xs ++ news) → w.grownBy w' v.ownBlock → K (a.put o.dst v') w') :
    if Region.wanted o (yielded ops a.tmps) = true then Oper.wp P o a w K Q else E := by
  have hw : Region.wanted o (yielded ops a.tmps) = true := by simp [Region.wanted, hgd]
  rw [if_pos hw]
  obtain ⟨v', w', hr, h2, h3, h4⟩ := run_append_src (P := P) w base t o.type e i z size bytes ht hi hz hsize hby hzs hsz v n xs hown oo m c news hl hnews h1 h63 hbytes hbase
  unfold Oper.wp execOp
  simp only [ho, resolve, invoke, builtin, Sem.run_bind, Sem.run_pure, Result.andThen_ok, List.map_toArray, List.map_cons, List.map_nil, hs, hx, hr]
  exact h v' w' h2 h3
end Go.Proofs.Ytknhacblialboaa


/-
  Contracts of the laws' own helpers on lists of texts: szStringS, toStringS, eqStringS.
  Conditions: lists of at most 2^20 texts for toStringS; lengths are lengths.
-/
namespace Go.Proofs.Ytknhacblialboaa
open Go.ChangeShapes Go.WideShapes Go.ChangeAt Go.RowKit Go.Joins
set_option linter.unusedVariables false

/-- The value reads as a list of texts, wherever it lies. -/
def RdA (w : World) (v : Value) (ps : List (List UInt8)) : Prop :=
  ∃ o c, v = .slice o ps.length c ∧ ps.length ≤ maxLen ∧ ∀ i (h : i < ps.length), ∃ ad : Addr, o = some ad ∧ ad.block < w.heap.size ∧ w.cell? (ad.add i) = some (.string (bs ps[i])) ∧ ps[i].length ≤ maxLen
theorem block_add (a : Addr) (i : Nat) : (a.add i).block = a.block := by unfold Addr.add; split <;> rfl
theorem RdA.below {w w' : World} {v : Value} {ps : List (List UInt8)} (h : RdA w v ps) (hb : Below w.heap.size w w') : RdA w' v ps := by
  obtain ⟨o, c, rfl, hm, hH⟩ := h
  refine ⟨o, c, rfl, hm, fun i hi => ?_⟩
  obtain ⟨ad, e, hg, hc, hl⟩ := hH i hi
  exact ⟨ad, e, Nat.lt_of_lt_of_le hg hb.size, (hb.cell (p := ad.add i) (by rw [block_add]; exact hg)).trans hc, hl⟩

def lens (ps : List (List UInt8)) : Nat := (ps.map List.length).sum
theorem lens_take {ps : List (List UInt8)} {k : Nat} (h : k < ps.length) : lens (ps.take (k + 1)) = lens (ps.take k) + ps[k].length := by
  unfold lens; rw [List.take_succ_eq_append_getElem h]; simp only [List.map_append, List.sum_append, List.map_cons, List.map_nil, List.sum_cons, List.sum_nil, Nat.add_zero]
theorem lens_pre (ps : List (List UInt8)) (k : Nat) : lens (ps.take k) ≤ lens ps := by
  conv => rhs; rw [← List.take_append_drop k ps]
  unfold lens; rw [List.map_append, List.sum_append]; omega

/-- What szStringS gives. -/
def szR (ps : List (List UInt8)) (left : Int) : Int := if (ps.length : Int) + lens ps ≤ left then left - ps.length - lens ps else -1

def zs (n : Nat) : List Value := List.replicate n (.string ⟨#[]⟩)
theorem set_step {ps : List (List UInt8)} {k : Nat} (h : k < ps.length) : (strs (ps.take k) ++ zs (ps.length - k)).set k (.string (bs ps[k])) = strs (ps.take (k + 1)) ++ zs (ps.length - (k + 1)) := by
  have hl : (strs (ps.take k)).length = k := by simp [strs]; omega
  rw [List.set_append_right _ _ (by omega), hl, Nat.sub_self, List.take_succ_eq_append_getElem h]
  obtain ⟨m, hm⟩ : ∃ m, ps.length - k = m + 1 := ⟨ps.length - k - 1, by omega⟩
  have hm2 : ps.length - (k + 1) = m := by omega
  rw [hm, hm2]
  simp only [strs, zs, List.replicate_succ, List.set_cons_zero, List.map_append, List.map_cons, List.map_nil, List.append_assoc, List.cons_append, List.nil_append]
theorem old_at {ps : List (List UInt8)} {k : Nat} (h : k < ps.length) : (strs (ps.take k) ++ zs (ps.length - k))[k]? = some (.string ⟨#[]⟩) := by
  have hl : (strs (ps.take k)).length = k := by simp [strs]; omega
  obtain ⟨m, hm⟩ : ∃ m, ps.length - k = m + 1 := ⟨ps.length - k - 1, by omega⟩
  rw [List.getElem?_append_right (Nat.le_of_eq hl), hl, Nat.sub_self, hm]
  rfl

def eqB (a b : List (List UInt8)) : Bool := decide (a = b)

set_option maxHeartbeats 1000000 in
theorem eqStringS_same (ps : List (List UInt8)) (u v : Value) (w : World) (hU : Rd w u ps) (hV : Rd w v ps) : Calls Try.prog 35 #[u, v] w fun e w' => e = .returned (.bool true) ∧ Below w.heap.size w w' := by
  obtain ⟨o1, c1, rfl, hl1, hm1, hH1⟩ := hU
  obtain ⟨o2, c2, rfl, hl2, hm2, hH2⟩ := hV
  have HH1 := Lib.hid hH1
  have HH2 := Lib.hid hH2
  clear hH1 hH2
  unfold maxLen at hm1 hm2
  go_enter Try.func35, Try.ntmps35
  go_wp2
  go_loopw [5] (fun i wr => ∃ k m : Nat, k ≤ ps.length ∧ i = .int .i64 k ∧ wr = w.drewN m) (fun i _ => ps.length - (intOf i).toNat)
  case atStart => exact ⟨0, 0, Nat.zero_le _, rfl, rfl⟩
  case round =>
    obtain ⟨k, m, hk, rfl, rfl⟩ := hrel
    by_cases hlt : k < ps.length
    · obtain ⟨g1, f1, rfl, _, hc1⟩ := HH1.out k hlt
      obtain ⟨g2, f2, rfl, _, hc2⟩ := HH2.out k hlt
      obtain ⟨x, hx⟩ : ∃ x, x = bs ps[k] := ⟨_, rfl⟩
      rw [← hx] at hc1 hc2
      clear hx
      go_wp2
      go_quiet (fail)
      go_wp2
      go_roundw
      case rel => exact ⟨k + 1, _, hlt, by go_num, rfl⟩
      case measure => simp [intOf]; omega
    · go_wp2
      go_ret
      exact ⟨rfl, ⟨rfl, rfl, rfl, Nat.le_refl _, fun _ _ => rfl⟩⟩
end Go.Proofs.Ytknhacblialboaa


/-
  Contracts of the laws' own helpers markText, markStringS, heldStringS.
  Conditions: marks from 1 to 100000000.
-/
namespace Go.Proofs.Ytknhacblialboaa
open Go.ChangeShapes Go.WideShapes Go.ChangeAt Go.RowKit Go.Joins
set_option linter.unusedVariables false

/-- The text whose bytes are these numbers. -/
def strOf (l : List Int) : ByteArray := ⟨(l.map fun n => UInt8.ofNat n.toNat).toArray⟩
theorem strOf_fold : ∀ (l : List Int) (r : ByteArray), l.foldl (fun r n => r.push (UInt8.ofNat n.toNat)) r = r ++ strOf l
  | [], r => by apply ByteArray.ext; simp [strOf]
  | n :: l, r => by
    rw [List.foldl_cons, strOf_fold l]
    apply ByteArray.ext
    simp [strOf, ByteArray.push]
theorem load_new {P : Program} (w : World) (l : List Int) (t : TypeId) :
    (loadCells ⟨w.heap.size, 0, none⟩ l.length).run P (w.alloc (.cells (l.map (Value.int .u8)).toArray t)) = .ok (l.map (Value.int .u8)).toArray (w.alloc (.cells (l.map (Value.int .u8)).toArray t)) := by
  have h := run_loadCells_list (P := P) (w.alloc (.cells (l.map (Value.int .u8)).toArray t)) ⟨w.heap.size, 0, none⟩ (l.map (Value.int .u8)) (fun j v hj => by
    have e : (⟨w.heap.size, 0, none⟩ : Addr).add j = ⟨w.heap.size, j, none⟩ := by
      unfold Addr.add
      split <;> simp_all
    rw [e, World.cell?_alloc_mark]
    simpa using hj)
  simpa using h
/-- string(b) of a new slice of bytes. -/
theorem str_new (w : World) (l : List Int) (cap : Nat) :
    (convert 105 9 (.slice (some ⟨w.heap.size, 0, none⟩) l.length cap)).run Try.prog (w.alloc (.cells (l.map (Value.int .u8)).toArray 5)) = .ok (.string (strOf l)) (w.alloc (.cells (l.map (Value.int .u8)).toArray 5)) := by
  rw [run_convert_bytes_string _ 105 9 5 _ _ _ Try.underlying105 Try.underlying5 Try.underlying9, run_bytesToString _ _ _ _ l (load_new w l 5), strOf_fold]
  congr 2
theorem str_new1 (w : World) (a : Int) : (convert 105 9 (.slice (some ⟨w.heap.size, 0, none⟩) 1 1)).run Try.prog (w.alloc (.cells #[.int .u8 a] 5)) = .ok (.string (strOf [a])) (w.alloc (.cells #[.int .u8 a] 5)) := str_new w [a] 1

/-- The digits of a number ahead of a text, at most so many. -/
def digsF : Nat → Nat → List UInt8 → List UInt8
  | 0, _, acc => acc
  | f + 1, k, acc => if k = 0 then acc else digsF f (k / 10) (UInt8.ofNat (48 + k % 10) :: acc)
def digs (k : Nat) (acc : List UInt8) : List UInt8 := digsF k k acc
theorem digsF_zero (f : Nat) (acc : List UInt8) : digsF f 0 acc = acc := by cases f <;> simp [digsF]
theorem digsF_step {f k : Nat} (h : k ≠ 0) (acc : List UInt8) : digsF (f + 1) k acc = digsF f (k / 10) (UInt8.ofNat (48 + k % 10) :: acc) := by simp [digsF, h]
def mt (k : Nat) : ByteArray := bs (109 :: digs k [])
theorem str_dig (k : Nat) : strOf [48 + (k : Int) % 10] = bs [UInt8.ofNat (48 + k % 10)] := by
  unfold strOf bs
  have : (48 + (k : Int) % 10).toNat = 48 + k % 10 := by omega
  simp only [List.map_cons, List.map_nil, this]

set_option maxHeartbeats 1000000 in
theorem markText_any (k : Nat) (w : World) (h0 : 1 ≤ k) (h1 : k ≤ 100000000) : Calls Try.prog 50 #[.int .i64 k] w fun e w' => e = .returned (.string (mt k)) ∧ Below w.heap.size w w' := by
  have hs := str_new1
  have hk0 : ¬ (k : Int) ≤ 0 := by omega
  go_enter Try.func50, Try.ntmps50
  go_wp2
  go_loopw [0, 3] (fun j t wr => ∃ (i : Nat) (acc : List UInt8), i ≤ 100000000 ∧ j = .int .i64 i ∧ t = .string (bs acc) ∧ acc.length + i ≤ 200000000 ∧ (∃ f, i ≤ f ∧ digsF f i acc = digs k []) ∧ Below w.heap.size w wr) (fun j _ _ => (intOf j).toNat)
  case atStart => exact ⟨k, [], h1, rfl, rfl, by simp; omega, ⟨k, Nat.le_refl _, rfl⟩, Below.refl _ _⟩
  case round =>
    obtain ⟨i, acc, hi, rfl, rfl, hal, ⟨f, hf, hd⟩, hB⟩ := hrel
    have HD := Lib.hid hd
    clear hd
    by_cases hp : 0 < i
    · obtain ⟨f, rfl⟩ : ∃ g, f = g + 1 := ⟨f - 1, by omega⟩
      have hz : (bs acc).size ≤ 200000000 := by rw [bs_size]; omega
      have HX : Hid (strOf [48 + (i : Int) % 10] ++ bs acc = bs (UInt8.ofNat (48 + i % 10) :: acc)) := Lib.hid (by rw [str_dig, bs_app]; rfl)
      have hz1 : (strOf [48 + (i : Int) % 10]).size = 1 := rfl
      have hp' : 0 < (i : Int) := by omega
      have hr1 : (i : Int) % 10 ≤ 9 := by omega
      have hr0 : 0 ≤ (i : Int) % 10 := by omega
      have hzz : ¬ 9223372036854775807 < (strOf [48 + (i : Int) % 10]).size + (bs acc).size := by omega
      clear hz1
      go_wp2
      go_roundw
      case rel => exact ⟨i / 10, UInt8.ofNat (48 + i % 10) :: acc, by omega, by go_num, by rw [HX.out], by simp; omega, ⟨f, by omega, by rw [← HD.out, digsF_step (k := i) (by omega)]⟩, hB.alloc hB.size _⟩
      case measure => simp [intOf]; omega
    · obtain rfl : i = 0 := by omega
      have HE : Hid (acc = digs k []) := Lib.hid (by rw [← HD.out, digsF_zero])
      have hz : (bs acc).size ≤ 200000000 := by rw [bs_size]; omega
      go_wp2
      go_ret
      refine ⟨ret_str ?_, hB⟩
      unfold mt
      rw [← HE.out]
      exact bs_app [109] acc

theorem mark_set {ps : List (List UInt8)} {k m : Nat} (h : k < ps.length) : ((List.range k).map (fun j => Value.string (mt (m + j))) ++ strs (ps.drop k)).set k (.string (mt (m + k))) = (List.range (k + 1)).map (fun j => Value.string (mt (m + j))) ++ strs (ps.drop (k + 1)) := by
  have hl : ((List.range k).map (fun j => Value.string (mt (m + j)))).length = k := by simp
  rw [List.set_append_right _ _ (Nat.le_of_eq hl), hl, Nat.sub_self, List.drop_eq_getElem_cons h, List.range_succ]
  simp only [strs, List.map_cons, List.set_cons_zero, List.map_append, List.map_nil, List.append_assoc, List.cons_append, List.nil_append]
theorem mark_old {ps : List (List UInt8)} {k m : Nat} (h : k < ps.length) : ((List.range k).map (fun j => Value.string (mt (m + j))) ++ strs (ps.drop k))[k]? = some (.string (bs ps[k])) := by
  have hl : ((List.range k).map (fun j => Value.string (mt (m + j)))).length = k := by simp
  rw [List.getElem?_append_right (Nat.le_of_eq hl), hl, Nat.sub_self, List.drop_eq_getElem_cons h]
  rfl

/-- A row of marks, from m on. -/
def marks (m n : Nat) : List (List UInt8) := (List.range n).map fun j => 109 :: digs (m + j) []
theorem strs_marks (m n : Nat) : strs (marks m n) = (List.range n).map (fun j => Value.string (mt (m + j))) := by
  unfold strs marks mt; rw [List.map_map]; rfl
theorem marks_len (m n : Nat) : (marks m n).length = n := by simp [marks]
theorem marks_at (m n k : Nat) (h : k < (marks m n).length) : (marks m n)[k] = 109 :: digs (m + k) [] := by simp [marks]

/-- markStringS writes marks into a row of the call's own. -/
theorem markStringS_some (ps : List (List UInt8)) (g cap B m : Nat) (w : World) (hL : w.ownsRow B 9 1 (.slice (some ⟨g, 0, none⟩) ps.length cap) ps.length (strs ps)) (hm : 1 ≤ m) (hB0 : B ≤ w.heap.size) (hl : m + ps.length ≤ 90000000) :
    Calls Try.prog 38 #[.slice (some ⟨g, 0, none⟩) ps.length cap, .int .i64 m] w fun e w' => e = .returned (.int .i64 (m + ps.length)) ∧ Lst w' B (.slice (some ⟨g, 0, none⟩) ps.length cap) (marks m ps.length) ∧ Below B w w' := by
  have hgB : B ≤ g ∧ g < w.heap.size := hL.lt g rfl
  have hcap : ps.length ≤ cap := by
    rcases hL.2 with ⟨e, _⟩ | ⟨g', cap', cur, e, _, _, hn, _⟩
    · cases e
    · simp only [Value.slice.injEq, Option.some.injEq, Addr.mk.injEq, and_true, true_and] at e
      omega
  go_enter Try.func38, Try.ntmps38
  go_wp2
  go_loopw [1, 5] (fun t i wr => ∃ k : Nat, k ≤ ps.length ∧ i = .int .i64 k ∧ t = .int .i64 ((m + k : Nat) : Int) ∧ wr.ownsRow B 9 1 (.slice (some ⟨g, 0, none⟩) ps.length cap) ps.length ((List.range k).map (fun j => Value.string (mt (m + j))) ++ strs (ps.drop k)) ∧ Below B w wr) (fun _ i _ => ps.length - (intOf i).toNat)
  case atStart => exact ⟨0, Nat.zero_le _, rfl, rfl, by simpa using hL, Below.refl _ _⟩
  case round =>
    obtain ⟨k, hk, rfl, rfl, hown, hB⟩ := hrel
    by_cases hlt : k < ps.length
    · go_wp2_with fail
      refine (markText_any (m + k) _ (by omega) (by omega)).mono ?_
      rintro e w1 ⟨rfl, hb1⟩
      have hown1 : w1.ownsRow B 9 1 (.slice (some ⟨g, 0, none⟩) ps.length cap) ps.length ((List.range k).map (fun j => Value.string (mt (m + j))) ++ strs (ps.drop k)) := by
        refine hown.kept (row := none) ⟨hb1.os, hb1.tape, hb1.output, hb1.size, fun i hi _ => hb1.block i hi⟩ (.inr (by simp [Value.ownBlock]))
      have hold := (hown1.cellAt k (by omega)).trans (mark_old hlt)
      have hfz := hown1.frozenAt k
      obtain ⟨hs1, hs2⟩ := hown1.stored k (.string (mt (m + k)))
      rw [mark_set hlt] at hs1
      have hb2 : Below B w (w1.setCell ⟨g, k, none⟩ (.string (mt (m + k)))) := (hB.trans (hb1.mono (Nat.le_trans hB0 hB.size))).setCell (p := ⟨g, k, none⟩) hgB.1 _
      have HS1 := Lib.hid hs1
      have HB2 := Lib.hid hb2
      clear hs1 hs2 hb2 hown1 hown hb1
      go_wp2
      go_roundw
      case rel => exact ⟨k + 1, hlt, by go_num, by go_num, HS1.out, HB2.out⟩
      case measure => simp [intOf]; omega
    · obtain rfl : k = ps.length := by omega
      have HL : Hid (Lst wr B (.slice (some ⟨g, 0, none⟩) ps.length cap) (marks m ps.length)) := Lib.hid (by
        unfold Lst
        rw [strs_marks, marks_len]
        simpa [strs] using hown)
      clear hown
      go_wp2
      go_ret
      exact ⟨ret_int (by simp), HL.out, hB⟩

theorem below_drewN {w w1 : World} {B : Nat} (h : Below B w w1) (n : Nat) : Below B w (w1.drewN n) := ⟨h.os, h.tape, h.output, h.size, h.block⟩

/-- heldStringS finds the marks. -/
theorem heldStringS_some (n m : Nat) (v : Value) (w : World) (hR : Rd w v (marks m n)) (hm : 1 ≤ m) (hl : m + n ≤ 90000000) :
    Calls Try.prog 39 #[v, .int .i64 m] w fun e w' => e = .returned (.int .i64 (m + n)) ∧ Below w.heap.size w w' := by
  obtain ⟨o, c, rfl, hlc, hcm, hH⟩ := hR
  have hH' := fun i (hi : i < n) => hH i (by rw [marks_len]; exact hi)
  rw [marks_len] at hlc ⊢
  have HH : Hid (∀ i, i < n → ∃ g off, o = some ⟨g, off, none⟩ ∧ g < w.heap.size ∧ w.cell? ⟨g, off + i, none⟩ = some (.string (mt (m + i)))) := Lib.hid (fun i hi => by
    obtain ⟨g, off, e, hg, hc⟩ := hH' i hi
    refine ⟨g, off, e, hg, ?_⟩
    rw [hc, marks_at]; rfl)
  clear hH hH'
  unfold maxLen at hcm
  go_enter Try.func39, Try.ntmps39
  go_wp2
  go_loopw [1, 5] (fun t i wr => ∃ k : Nat, k ≤ n ∧ i = .int .i64 k ∧ t = .int .i64 ((m + k : Nat) : Int) ∧ Below w.heap.size w wr) (fun _ i _ => n - (intOf i).toNat)
  case atStart => exact ⟨0, Nat.zero_le _, rfl, rfl, Below.refl _ _⟩
  case round =>
    obtain ⟨k, hk, rfl, rfl, hB⟩ := hrel
    by_cases hlt : k < n
    · obtain ⟨g, off, rfl, hg, hc⟩ := HH.out k hlt
      have hcell : wr.cell? ⟨g, off + k, none⟩ = some (.string (mt (m + k))) := (hB.cell (p := ⟨g, off + k, none⟩) hg).trans hc
      clear hc
      have hin : Below wr.heap.size wr wr := Below.refl _ _
      go_wp2
      have z0 := fun d os => cell_regrown (w := wr) hcell d os
      refine wp_region_quiet_below (by kernel_rfl) (by kernel_rfl) ?_
      repeat (first | go_big_quiet_step ((go_at_call 50; exact Calls.regrown_of (markText_any (m + k) _ (by omega) (by omega)))) | quiet_step ((go_at_call 50; exact Calls.regrown_of (markText_any (m + k) _ (by omega) (by omega)))))
      refine wpQuiet_nil ?_
      intro w5 hwq
      have hb5 : Below wr.heap.size wr w5 := by
        obtain ⟨pp, rfl⟩ := hwq
        exact below_regrown _ _ _
      clear hwq z0
      go_wp2
      go_roundw
      case rel => exact ⟨k + 1, hlt, by go_num, by go_num, hB.trans (hb5.mono hB.size)⟩
      case measure => simp [intOf]; omega
    · obtain rfl : k = n := by omega
      go_wp2
      go_ret
      exact ⟨ret_int (by simp), hB⟩

set_option maxHeartbeats 400000 in
theorem markStringS_any (ps : List (List UInt8)) (v : Value) (B m : Nat) (w : World) (hL : Lst w B v ps) (hm : 1 ≤ m) (hB0 : B ≤ w.heap.size) (hl : m + ps.length ≤ 90000000) :
    Calls Try.prog 38 #[v, .int .i64 m] w fun e w' => e = .returned (.int .i64 (m + ps.length)) ∧ Lst w' B v (marks m ps.length) ∧ Below B w w' := by
  rcases hL.2 with ⟨rfl, h0⟩ | ⟨g, cap, cur, rfl, rest⟩
  · obtain rfl : ps = [] := List.eq_nil_of_length_eq_zero h0
    clear hL h0
    go_enter Try.func38, Try.ntmps38
    go_wp2
    go_rounds 1
    go_ret
    exact ⟨ret_int (by simp), Lst.nil _ _, Below.refl _ _⟩
  · exact markStringS_some ps g cap B m w hL hm hB0 hl
theorem lst_below {w w' : World} {B : Nat} {v : Value} {ps : List (List UInt8)} (h : Lst w B v ps) (hb : Below w.heap.size w w') : Lst w' B v ps := by
  refine World.ownsRow.kept h (row := none) ⟨hb.os, hb.tape, hb.output, hb.size, fun i hi _ => hb.block i hi⟩ ?_
  rcases h.2 with ⟨rfl, _⟩ | ⟨g, cap, cur, rfl, _⟩
  · exact .inl rfl
  · exact .inr (by simp [Value.ownBlock])
end Go.Proofs.Ytknhacblialboaa


/-
  The model's l7Walk.
  Conditions: a good file system of at most 2^20 values and letters together.
-/
namespace Go.Proofs.Ytknhacblialboaa
open Go.ChangeShapes Go.WideShapes Go.ChangeAt Go.RowKit Go.Joins
set_option linter.unusedVariables false
set_option linter.unusedSimpArgs false

theorem lst_joinW {w : World} {B : Nat} {v : Value} {ps qs : List (List UInt8)} (h : w.ownsRow B 9 1 v (ps.length + qs.length) (strs ps ++ strs qs)) : Lst w B v (ps ++ qs) := by
  unfold Lst
  rw [List.length_append]
  simpa [strs] using h
theorem strs_oneW (r : List (List UInt8)) : ∀ u ∈ strs r, u.oneCell' = true := by
  intro u hu
  simp only [strs, List.mem_map] at hu
  obtain ⟨p, _, rfl⟩ := hu
  rfl
theorem strs_len (r : List (List UInt8)) : (strs r).length = r.length * 1 := by simp [strs]
theorem rd_srcW {w : World} {v : Value} {ps : List (List UInt8)} (h : Rd w v ps) : ∃ o c, v = .slice o ps.length c ∧ SrcC w o ps.length (strs ps) := by
  obtain ⟨o, c, rfl, h1, h2, h3⟩ := h
  refine ⟨o, c, rfl, fun hm => ?_⟩
  have hp : 0 < ps.length := by omega
  obtain ⟨g, off, rfl, hg, -⟩ := h3 0 hp
  refine ⟨g, off, rfl, fun j u hj => ?_⟩
  simp only [strs, List.getElem?_map] at hj
  obtain ⟨p, hp1, rfl⟩ := Option.map_eq_some_iff.1 hj
  obtain ⟨hjl, rfl⟩ := List.getElem?_eq_some_iff.1 hp1
  obtain ⟨g2, off2, e, -, hc⟩ := h3 j hjl
  simp only [Option.some.injEq, Addr.mk.injEq, and_true] at e
  obtain ⟨rfl, rfl⟩ := e
  exact hc
theorem wyS_pre (ns : List Nod) (post : Bool) (k : Nat) (ps : List (List UInt8)) (es : List Ent) (j : Nat) : (wyS ns post k ps (es.take j)).length ≤ (wyS ns post k ps es).length := by
  conv => rhs; rw [← List.take_append_drop j es]
  unfold wyS
  rw [List.flatMap_append, List.length_append]; omega
theorem wyF_len (ns : List Nod) (post : Bool) (k k2 i : Nat) (ps : List (List UInt8)) (h : (k = 0 ∧ lsAt ns i = []) ∨ k = k2 + 1) : (wyF ns post k i ps).length = (wyS ns post k2 ps (lsAt ns i)).length + 1 := by
  rw [wyF_val ns post k k2 i ps h]; cases post <;> simp
theorem made_one (w : World) (x : ByteArray) : (w.alloc (.cells #[.string x] 9)).ownsRow w.heap.size 9 1 (.slice (some ⟨w.heap.size, 0, none⟩) 1 1) 1 [.string x] :=
  ⟨rfl, .inr ⟨w.heap.size, 1, #[.string x], rfl, Nat.le_refl _, heap_alloc_new w _, Nat.le_refl _, by unfold maxLen; omega, rfl, rfl⟩⟩

theorem src_oneW (w : World) (x : ByteArray) : SrcC (w.alloc (.cells #[.string x] 9)) (some ⟨w.heap.size, 0, none⟩) 1 [.string x] := fun _ => ⟨w.heap.size, 0, rfl, fun j u h => by
  have h2 := heap_alloc_new w (.cells #[.string x] 9)
  cases j with
  | zero =>
    simp at h; subst h
    simp only [World.cell?, h2]
    rfl
  | succ j => simp at h⟩
def WaySays (f : FsD) (post : Bool) (k : Nat) : Prop := ∀ (i : Nat) (v : Value) (ps : List (List UInt8)) (x : ByteArray) (w : World), FsA w v f → i < f.nodes.length → Down f.nodes k i → k ≤ 41 → ps.length + k ≤ 41 → (∀ p ∈ ps, p ≠ [46] ∧ p.length ≤ 8) → x = bs (wayB ps) →
  Calls Try.prog 54 #[v, .int .i64 (i : Int), .string x, .bool post] w fun e w' => ∃ v', e = .returned v' ∧ Lst w' w.heap.size v' (wyF f.nodes post k i ps) ∧ Below w.heap.size w w'
set_option maxRecDepth 100000 in
set_option maxHeartbeats 8000000 in
theorem l7WalkF_step (f : FsD) (hg : goodF f = true) (hs : szF f ≤ 1048576) (k : Nat) (ih : ∀ k2, k2 < k → WaySays f false k2) : WaySays f false k := by
  intro i v ps x w hR hi hD hk hkp hps hx
  have IH := Lib.hid ih
  have HR := Lib.hid hR
  have HPS := Lib.hid hps
  obtain ⟨i0, hi0, hz0, hz1, hz2⟩ := info_parts strInfo
  obtain ⟨nv, rfl, hN⟩ := hR
  obtain ⟨o, c, rfl, hm, hH⟩ := hN
  unfold maxLen at hm
  have hl : f.nodes.length ≤ 1048576 := (lists_small hs).1
  have hll : (lsAt f.nodes i).length ≤ 1048576 := by rw [lsAt_is hi]; exact ((lists_small hs).2 _ (List.getElem_mem hi)).1
  have hsm := wy_small hg hs hi hk false ps
  obtain ⟨g3, f3, lv3, rfl, hg3, hc3, he3, -⟩ := hH i hi
  rw [← lsAt_is hi] at he3
  have hb0 : Below w.heap.size w (w.alloc (.cells #[.slice (some ⟨g3, f3, none⟩) f.nodes.length c, .int .i64 f.room] 31)) := (Below.refl _ _).alloc (Nat.le_refl _) _
  have HB0 := Lib.hid hb0
  have HK0 := Lib.hid (heap_alloc_new w (.cells #[.slice (some ⟨g3, f3, none⟩) f.nodes.length c, .int .i64 f.room] 31))
  have c6 := (hc3.below hb0 hg3).c6
  obtain ⟨o5, c5, rfl, -, hH5⟩ := he3
  have HH5 := Lib.hid hH5
  obtain ⟨k2, hk2, hk3, hv3, hk4⟩ : ∃ k2, k ≤ k2 + 1 ∧ k2 ≤ k ∧ ((k = 0 ∧ lsAt f.nodes i = []) ∨ k = k2 + 1) ∧ ∀ e ∈ lsAt f.nodes i, k = k2 + 1 ∧ (0 ≤ e.node ∧ e.node < f.nodes.length) ∧ Down f.nodes k2 e.node.toNat ∧ e.name ≠ [46] ∧ e.name.length ≤ 8 := by
    cases k with
    | zero => exact ⟨0, by omega, by omega, .inl ⟨rfl, hD⟩, fun e he => by rw [show lsAt f.nodes i = [] from hD] at he; cases he⟩
    | succ k => exact ⟨k, by omega, by omega, .inr rfl, fun e he => ⟨rfl, (hD e he).1, (hD e he).2, name_facts hg he⟩⟩
  rw [wyF_len _ _ _ _ _ _ hv3] at hsm
  have hval := wyF_val f.nodes false k k2 i ps hv3
  obtain ⟨es, hes⟩ : ∃ es, es = lsAt f.nodes i := ⟨_, rfl⟩
  rw [← hes] at HH5 c6 hll hsm hval hk4
  have HV := Lib.hid hval
  have HK4 := Lib.hid hk4
  have HX := Lib.hid hx
  have HSM := Lib.hid hsm
  have hxs : x.size ≤ 500 := by
    have := wayB_size (fun p hp => (hps p hp).2)
    rw [hx, bs_size]
    omega
  have hb0s : w.heap.size < (w.alloc (.cells #[.slice (some ⟨g3, f3, none⟩) f.nodes.length c, .int .i64 f.room] 31)).heap.size := lt_of_heap HK0.out
  clear hH hb0 hD hk4 hc3 hH5 hes ih hv3 hval hx hps
  go_enter Try.func54, Try.ntmps54
  go_wp2
  go_loopw [9, 20] (fun t5 i9 wr => ∃ j : Nat, j ≤ es.length ∧ i9 = .int .i64 j ∧ Lst wr (w.heap.size + 1) t5 (wyS f.nodes false k2 ps (es.take j)) ∧ Below w.heap.size w wr ∧ wr.heap[w.heap.size]? = some (.cells #[.slice (some ⟨g3, f3, none⟩) f.nodes.length c, .int .i64 f.room] 31)) (fun _ i9 _ => es.length - (intOf i9).toNat)
  case atStart => exact ⟨0, Nat.zero_le _, rfl, Lst.nil _ _, HB0.out, HK0.out⟩
  case round =>
    obtain ⟨j, hj, rfl, hL, hB, hX⟩ := hrel
    have HL := Lib.hid hL
    have HB := Lib.hid hB
    have HX2 := Lib.hid hX
    have hsx := lt_of_heap hX
    have hsz := hB.size
    have hpr := wyS_pre f.nodes false k2 ps es j
    obtain ⟨WL, hWL⟩ : ∃ WL, WL = wyS f.nodes false k2 ps (es.take j) := ⟨_, rfl⟩
    rw [← hWL] at hpr HL
    obtain ⟨oo5, cap5, rfl, hoo5⟩ := owns_form HL.out
    by_cases hlt : j < es.length
    · obtain ⟨g9, f9, rfl, q9, y1, y2, -⟩ := HH5.out j hlt
      obtain ⟨he1, ⟨he2, he3⟩, he4, he5, he6⟩ := HK4.out _ (List.getElem_mem hlt)
      obtain ⟨cc, hcc⟩ : ∃ cc : Nat, es[j].node = cc := ⟨es[j].node.toNat, by omega⟩
      have HT := Lib.hid (wyS_take (ns := f.nodes) (post := false) (k := k2) (ps := ps) hlt)
      have HPN := wyS_pre f.nodes false k2 ps es (j + 1)
      rw [HT.out, ← hWL] at HPN
      rw [← hWL, hcc] at HT
      rw [hcc] at y2 he4 he3 HPN
      rw [show ((cc : Int)).toNat = cc by simp] at he4 HT HPN
      have a1 := (hB.cell (p := ⟨g9, f9 + j * 2, none⟩) q9).trans y1
      have a2 := (hB.cell (p := ⟨g9, f9 + j * 2 + 1, none⟩) q9).trans y2
      obtain ⟨nm, hnm⟩ : ∃ nm, nm = es[j].name := ⟨_, rfl⟩
      rw [← hnm] at a1 he5 he6 HT HPN
      obtain ⟨hsn1, hsn2⟩ := wayB_snoc (fun p hp => (HPS.out p hp).1) nm
      obtain ⟨y, hy⟩ : ∃ y, y = bs nm := ⟨_, rfl⟩
      rw [← hy] at a1
      have hys : y.size ≤ 8 := by rw [hy, bs_size]; exact he6
      have HPS2 : Hid (∀ p ∈ ps ++ [nm], p ≠ [46] ∧ p.length ≤ 8) := Lib.hid (fun p hp => by
        rcases List.mem_append.1 hp with h | h
        · exact HPS.out p h
        · rw [List.mem_singleton.1 h]; exact ⟨he5, he6⟩)
      have hBa := hB.alloc hB.size (.cells #[.string y, .int .i64 (cc : Int)] 93)
      have HBa := Lib.hid hBa
      have HXa := Lib.hid ((Below.heap_alloc wr (.cells #[.string y, .int .i64 (cc : Int)] 93) _ hsx).trans hX)
      have HLa := Lib.hid (Lst.alloc HL.out (.cells #[.string y, .int .i64 (cc : Int)] 93))
      have k0 : wr.cell? ⟨w.heap.size, 0, none⟩ = some (.slice (some ⟨g3, f3, none⟩) f.nodes.length c) := cell_blk hX 0
      have k1 : wr.cell? ⟨w.heap.size, 1, none⟩ = some (.int .i64 f.room) := cell_blk hX 1
      have HD4 := Lib.hid he4
      have hnx : ∃ d : Bool, (x.toList == [46]) = d ∧ (d = true → y = bs (wayB (ps ++ [nm]))) ∧ (d = false → x ++ ⟨#[47]⟩ ++ y = bs (wayB (ps ++ [nm]))) := by
        refine ⟨_, rfl, fun h => ?_, fun h => ?_⟩
        · rw [HX.out, ByteArray.toList_eq, bs_list] at h
          rw [hsn2 (by simpa using h), hy]
        · rw [HX.out, ByteArray.toList_eq, bs_list] at h
          rw [hsn1 (by simpa using h), hy, HX.out, show (⟨#[47]⟩ : ByteArray) = bs [47] from rfl, bs_app, bs_app]
      obtain ⟨d, hd, hd1, hd2⟩ := hnx
      have HD1 := Lib.hid hd1
      have HD2 := Lib.hid hd2
      clear hB hX y1 y2 hcc hBa he4 hL hd1 hd2 hsn1 hsn2 hy hnm hWL
      cases d
      · have HN := Lib.hid (HD2.out rfl)
        go_wp2_with fail
        refine (IH.out k2 (by omega) cc _ (ps ++ [nm]) _ _ (HR.out.below HBa.out) (by omega) HD4.out (by omega) (by simp; omega) HPS2.out HN.out).mono ?_
        rintro e w2 ⟨v2, rfl, hL2, hb2⟩
        have HB2 := Lib.hid (HBa.out.trans (hb2.mono HBa.out.size))
        have HX3 := Lib.hid ((hb2.block _ (lt_of_heap HXa.out)).trans HXa.out)
        have hL1 := lst_below HLa.out hb2
        obtain ⟨o2, c2, rfl, hsrc⟩ := rd_srcW hL2.read
        have HSR := Lib.hid hsrc
        have HL1 := Lib.hid hL1
        have HS2 : Hid (w.heap.size + 1 ≤ w2.heap.size) := Lib.hid (Nat.le_trans (lt_of_heap HXa.out) hb2.size)
        clear hL2 hb2 hL1 hsrc
        go_wp2_with (at_builtin; go_loud (refine wpList_append_src _ rfl _ _ 57 rfl (w.heap.size + 1) 9 i0 (.string ⟨#[]⟩) 1 16 Try.underlying57 hi0 hz0 hz1 hz2 rfl (by decide) _ _ _ rfl HL1.out o2 _ c2 _ rfl (strs_len _) HSR.out (strs_oneW _) (by unfold maxLen; simp at HPN; omega) (by simp at HPN; omega) HS2.out ?_))
        intro v3 w3 hown3 hgrow3 _
        have hL3 := lst_joinW hown3
        rw [← HT.out] at hL3
        have hx3 := (hgrow3.block w.heap.size (Nat.lt_of_succ_le HS2.out) (fun e => by have := (World.ownsRow.lt HL1.out _ e.symm).1; omega)).trans HX3.out
        have hb3 := HB2.out.grown hgrow3 HB2.out.size (fun b eb => by have := (World.ownsRow.lt HL1.out _ eb).1; omega)
        have HL3 := Lib.hid hL3
        have HX4 := Lib.hid hx3
        have HB3 := Lib.hid hb3
        clear hown3 hgrow3 hL3 hx3 hb3
        go_wp2
        go_roundw
        case rel => exact ⟨j + 1, hlt, by go_num, HL3.out, HB3.out, HX4.out⟩
        case measure => simp [intOf]; omega
      · have HN := Lib.hid (HD1.out rfl)
        go_wp2_with fail
        refine (IH.out k2 (by omega) cc _ (ps ++ [nm]) _ _ (HR.out.below HBa.out) (by omega) HD4.out (by omega) (by simp; omega) HPS2.out HN.out).mono ?_
        rintro e w2 ⟨v2, rfl, hL2, hb2⟩
        have HB2 := Lib.hid (HBa.out.trans (hb2.mono HBa.out.size))
        have HX3 := Lib.hid ((hb2.block _ (lt_of_heap HXa.out)).trans HXa.out)
        have hL1 := lst_below HLa.out hb2
        obtain ⟨o2, c2, rfl, hsrc⟩ := rd_srcW hL2.read
        have HSR := Lib.hid hsrc
        have HL1 := Lib.hid hL1
        have HS2 : Hid (w.heap.size + 1 ≤ w2.heap.size) := Lib.hid (Nat.le_trans (lt_of_heap HXa.out) hb2.size)
        clear hL2 hb2 hL1 hsrc
        go_wp2_with (at_builtin; go_loud (refine wpList_append_src _ rfl _ _ 57 rfl (w.heap.size + 1) 9 i0 (.string ⟨#[]⟩) 1 16 Try.underlying57 hi0 hz0 hz1 hz2 rfl (by decide) _ _ _ rfl HL1.out o2 _ c2 _ rfl (strs_len _) HSR.out (strs_oneW _) (by unfold maxLen; simp at HPN; omega) (by simp at HPN; omega) HS2.out ?_))
        intro v3 w3 hown3 hgrow3 _
        have hL3 := lst_joinW hown3
        rw [← HT.out] at hL3
        have hx3 := (hgrow3.block w.heap.size (Nat.lt_of_succ_le HS2.out) (fun e => by have := (World.ownsRow.lt HL1.out _ e.symm).1; omega)).trans HX3.out
        have hb3 := HB2.out.grown hgrow3 HB2.out.size (fun b eb => by have := (World.ownsRow.lt HL1.out _ eb).1; omega)
        have HL3 := Lib.hid hL3
        have HX4 := Lib.hid hx3
        have HB3 := Lib.hid hb3
        clear hown3 hgrow3 hL3 hx3 hb3
        go_wp2
        go_roundw
        case rel => exact ⟨j + 1, hlt, by go_num, HL3.out, HB3.out, HX4.out⟩
        case measure => simp [intOf]; omega
    · have HT : Hid (es.take j = es) := Lib.hid (List.take_of_length_le (by omega))
      rw [HT.out] at hWL
      have HWL := Lib.hid hWL
      clear hL hB hX hWL
      obtain ⟨o2, c2, e2, hsrc⟩ := rd_srcW (Lst.read (Lst.alloc HL.out (.cells #[.string x] 9)))
      simp only [Value.slice.injEq, true_and] at e2
      obtain ⟨rfl, rfl⟩ := e2
      have HSR := Lib.hid hsrc
      clear hsrc
      go_wp2_with (at_builtin; go_loud (refine wpList_append_src _ rfl _ _ 57 rfl wr.heap.size 9 i0 (.string ⟨#[]⟩) 1 16 Try.underlying57 hi0 hz0 hz1 hz2 rfl (by decide) _ _ _ rfl (made_one wr x) oo5 _ cap5 _ rfl (strs_len _) HSR.out (strs_oneW _) (by unfold maxLen; omega) (by omega) (by simp) ?_))
      intro v3 w3 hown3 hgrow3 _
      have hL3 := lst_joinW (ps := [wayB ps]) (qs := WL) (by rw [show strs [wayB ps] = [.string x] by rw [HX.out]; rfl]; exact hown3)
      have hb3 := (HB.out.alloc hsz (.cells #[.string x] 9)).grown hgrow3 (Nat.le_trans hsz (by simp)) (fun b eb => by simp [Value.ownBlock] at eb; omega)
      have HL3 := Lib.hid hL3
      have HB3 := Lib.hid hb3
      clear hown3 hgrow3 hL3 hb3
      go_wp2
      go_ret
      exact ⟨_, rfl, by rw [HV.out, ← HWL.out]; exact lst_mono HL3.out hsz, HB3.out⟩

set_option maxRecDepth 100000 in
set_option maxHeartbeats 8000000 in
theorem l7WalkT_step (f : FsD) (hg : goodF f = true) (hs : szF f ≤ 1048576) (k : Nat) (ih : ∀ k2, k2 < k → WaySays f true k2) : WaySays f true k := by
  intro i v ps x w hR hi hD hk hkp hps hx
  have IH := Lib.hid ih
  have HR := Lib.hid hR
  have HPS := Lib.hid hps
  obtain ⟨i0, hi0, hz0, hz1, hz2⟩ := info_parts strInfo
  obtain ⟨nv, rfl, hN⟩ := hR
  obtain ⟨o, c, rfl, hm, hH⟩ := hN
  unfold maxLen at hm
  have hl : f.nodes.length ≤ 1048576 := (lists_small hs).1
  have hll : (lsAt f.nodes i).length ≤ 1048576 := by rw [lsAt_is hi]; exact ((lists_small hs).2 _ (List.getElem_mem hi)).1
  have hsm := wy_small hg hs hi hk true ps
  obtain ⟨g3, f3, lv3, rfl, hg3, hc3, he3, -⟩ := hH i hi
  rw [← lsAt_is hi] at he3
  have hb0 : Below w.heap.size w (w.alloc (.cells #[.slice (some ⟨g3, f3, none⟩) f.nodes.length c, .int .i64 f.room] 31)) := (Below.refl _ _).alloc (Nat.le_refl _) _
  have HB0 := Lib.hid hb0
  have HK0 := Lib.hid (heap_alloc_new w (.cells #[.slice (some ⟨g3, f3, none⟩) f.nodes.length c, .int .i64 f.room] 31))
  have c6 := (hc3.below hb0 hg3).c6
  obtain ⟨o5, c5, rfl, -, hH5⟩ := he3
  have HH5 := Lib.hid hH5
  obtain ⟨k2, hk2, hk3, hv3, hk4⟩ : ∃ k2, k ≤ k2 + 1 ∧ k2 ≤ k ∧ ((k = 0 ∧ lsAt f.nodes i = []) ∨ k = k2 + 1) ∧ ∀ e ∈ lsAt f.nodes i, k = k2 + 1 ∧ (0 ≤ e.node ∧ e.node < f.nodes.length) ∧ Down f.nodes k2 e.node.toNat ∧ e.name ≠ [46] ∧ e.name.length ≤ 8 := by
    cases k with
    | zero => exact ⟨0, by omega, by omega, .inl ⟨rfl, hD⟩, fun e he => by rw [show lsAt f.nodes i = [] from hD] at he; cases he⟩
    | succ k => exact ⟨k, by omega, by omega, .inr rfl, fun e he => ⟨rfl, (hD e he).1, (hD e he).2, name_facts hg he⟩⟩
  rw [wyF_len _ _ _ _ _ _ hv3] at hsm
  have hval := wyF_val f.nodes true k k2 i ps hv3
  obtain ⟨es, hes⟩ : ∃ es, es = lsAt f.nodes i := ⟨_, rfl⟩
  rw [← hes] at HH5 c6 hll hsm hval hk4
  have HV := Lib.hid hval
  have HK4 := Lib.hid hk4
  have HX := Lib.hid hx
  have HSM := Lib.hid hsm
  have hxs : x.size ≤ 500 := by
    have := wayB_size (fun p hp => (hps p hp).2)
    rw [hx, bs_size]
    omega
  have hb0s : w.heap.size < (w.alloc (.cells #[.slice (some ⟨g3, f3, none⟩) f.nodes.length c, .int .i64 f.room] 31)).heap.size := lt_of_heap HK0.out
  clear hH hb0 hD hk4 hc3 hH5 hes ih hv3 hval hx hps
  go_enter Try.func54, Try.ntmps54
  go_wp2
  go_loopw [9, 20] (fun t5 i9 wr => ∃ j : Nat, j ≤ es.length ∧ i9 = .int .i64 j ∧ Lst wr (w.heap.size + 1) t5 (wyS f.nodes true k2 ps (es.take j)) ∧ Below w.heap.size w wr ∧ wr.heap[w.heap.size]? = some (.cells #[.slice (some ⟨g3, f3, none⟩) f.nodes.length c, .int .i64 f.room] 31)) (fun _ i9 _ => es.length - (intOf i9).toNat)
  case atStart => exact ⟨0, Nat.zero_le _, rfl, Lst.nil _ _, HB0.out, HK0.out⟩
  case round =>
    obtain ⟨j, hj, rfl, hL, hB, hX⟩ := hrel
    have HL := Lib.hid hL
    have HB := Lib.hid hB
    have HX2 := Lib.hid hX
    have hsx := lt_of_heap hX
    have hsz := hB.size
    have hpr := wyS_pre f.nodes true k2 ps es j
    obtain ⟨WL, hWL⟩ : ∃ WL, WL = wyS f.nodes true k2 ps (es.take j) := ⟨_, rfl⟩
    rw [← hWL] at hpr HL
    obtain ⟨oo5, cap5, rfl, hoo5⟩ := owns_form HL.out
    by_cases hlt : j < es.length
    · obtain ⟨g9, f9, rfl, q9, y1, y2, -⟩ := HH5.out j hlt
      obtain ⟨he1, ⟨he2, he3⟩, he4, he5, he6⟩ := HK4.out _ (List.getElem_mem hlt)
      obtain ⟨cc, hcc⟩ : ∃ cc : Nat, es[j].node = cc := ⟨es[j].node.toNat, by omega⟩
      have HT := Lib.hid (wyS_take (ns := f.nodes) (post := true) (k := k2) (ps := ps) hlt)
      have HPN := wyS_pre f.nodes true k2 ps es (j + 1)
      rw [HT.out, ← hWL] at HPN
      rw [← hWL, hcc] at HT
      rw [hcc] at y2 he4 he3 HPN
      rw [show ((cc : Int)).toNat = cc by simp] at he4 HT HPN
      have a1 := (hB.cell (p := ⟨g9, f9 + j * 2, none⟩) q9).trans y1
      have a2 := (hB.cell (p := ⟨g9, f9 + j * 2 + 1, none⟩) q9).trans y2
      obtain ⟨nm, hnm⟩ : ∃ nm, nm = es[j].name := ⟨_, rfl⟩
      rw [← hnm] at a1 he5 he6 HT HPN
      obtain ⟨hsn1, hsn2⟩ := wayB_snoc (fun p hp => (HPS.out p hp).1) nm
      obtain ⟨y, hy⟩ : ∃ y, y = bs nm := ⟨_, rfl⟩
      rw [← hy] at a1
      have hys : y.size ≤ 8 := by rw [hy, bs_size]; exact he6
      have HPS2 : Hid (∀ p ∈ ps ++ [nm], p ≠ [46] ∧ p.length ≤ 8) := Lib.hid (fun p hp => by
        rcases List.mem_append.1 hp with h | h
        · exact HPS.out p h
        · rw [List.mem_singleton.1 h]; exact ⟨he5, he6⟩)
      have hBa := hB.alloc hB.size (.cells #[.string y, .int .i64 (cc : Int)] 93)
      have HBa := Lib.hid hBa
      have HXa := Lib.hid ((Below.heap_alloc wr (.cells #[.string y, .int .i64 (cc : Int)] 93) _ hsx).trans hX)
      have HLa := Lib.hid (Lst.alloc HL.out (.cells #[.string y, .int .i64 (cc : Int)] 93))
      have k0 : wr.cell? ⟨w.heap.size, 0, none⟩ = some (.slice (some ⟨g3, f3, none⟩) f.nodes.length c) := cell_blk hX 0
      have k1 : wr.cell? ⟨w.heap.size, 1, none⟩ = some (.int .i64 f.room) := cell_blk hX 1
      have HD4 := Lib.hid he4
      have hnx : ∃ d : Bool, (x.toList == [46]) = d ∧ (d = true → y = bs (wayB (ps ++ [nm]))) ∧ (d = false → x ++ ⟨#[47]⟩ ++ y = bs (wayB (ps ++ [nm]))) := by
        refine ⟨_, rfl, fun h => ?_, fun h => ?_⟩
        · rw [HX.out, ByteArray.toList_eq, bs_list] at h
          rw [hsn2 (by simpa using h), hy]
        · rw [HX.out, ByteArray.toList_eq, bs_list] at h
          rw [hsn1 (by simpa using h), hy, HX.out, show (⟨#[47]⟩ : ByteArray) = bs [47] from rfl, bs_app, bs_app]
      obtain ⟨d, hd, hd1, hd2⟩ := hnx
      have HD1 := Lib.hid hd1
      have HD2 := Lib.hid hd2
      clear hB hX y1 y2 hcc hBa he4 hL hd1 hd2 hsn1 hsn2 hy hnm hWL
      cases d
      · have HN := Lib.hid (HD2.out rfl)
        go_wp2_with fail
        refine (IH.out k2 (by omega) cc _ (ps ++ [nm]) _ _ (HR.out.below HBa.out) (by omega) HD4.out (by omega) (by simp; omega) HPS2.out HN.out).mono ?_
        rintro e w2 ⟨v2, rfl, hL2, hb2⟩
        have HB2 := Lib.hid (HBa.out.trans (hb2.mono HBa.out.size))
        have HX3 := Lib.hid ((hb2.block _ (lt_of_heap HXa.out)).trans HXa.out)
        have hL1 := lst_below HLa.out hb2
        obtain ⟨o2, c2, rfl, hsrc⟩ := rd_srcW hL2.read
        have HSR := Lib.hid hsrc
        have HL1 := Lib.hid hL1
        have HS2 : Hid (w.heap.size + 1 ≤ w2.heap.size) := Lib.hid (Nat.le_trans (lt_of_heap HXa.out) hb2.size)
        clear hL2 hb2 hL1 hsrc
        go_wp2_with (at_builtin; go_loud (refine wpList_append_src _ rfl _ _ 57 rfl (w.heap.size + 1) 9 i0 (.string ⟨#[]⟩) 1 16 Try.underlying57 hi0 hz0 hz1 hz2 rfl (by decide) _ _ _ rfl HL1.out o2 _ c2 _ rfl (strs_len _) HSR.out (strs_oneW _) (by unfold maxLen; simp at HPN; omega) (by simp at HPN; omega) HS2.out ?_))
        intro v3 w3 hown3 hgrow3 _
        have hL3 := lst_joinW hown3
        rw [← HT.out] at hL3
        have hx3 := (hgrow3.block w.heap.size (Nat.lt_of_succ_le HS2.out) (fun e => by have := (World.ownsRow.lt HL1.out _ e.symm).1; omega)).trans HX3.out
        have hb3 := HB2.out.grown hgrow3 HB2.out.size (fun b eb => by have := (World.ownsRow.lt HL1.out _ eb).1; omega)
        have HL3 := Lib.hid hL3
        have HX4 := Lib.hid hx3
        have HB3 := Lib.hid hb3
        clear hown3 hgrow3 hL3 hx3 hb3
        go_wp2
        go_roundw
        case rel => exact ⟨j + 1, hlt, by go_num, HL3.out, HB3.out, HX4.out⟩
        case measure => simp [intOf]; omega
      · have HN := Lib.hid (HD1.out rfl)
        go_wp2_with fail
        refine (IH.out k2 (by omega) cc _ (ps ++ [nm]) _ _ (HR.out.below HBa.out) (by omega) HD4.out (by omega) (by simp; omega) HPS2.out HN.out).mono ?_
        rintro e w2 ⟨v2, rfl, hL2, hb2⟩
        have HB2 := Lib.hid (HBa.out.trans (hb2.mono HBa.out.size))
        have HX3 := Lib.hid ((hb2.block _ (lt_of_heap HXa.out)).trans HXa.out)
        have hL1 := lst_below HLa.out hb2
        obtain ⟨o2, c2, rfl, hsrc⟩ := rd_srcW hL2.read
        have HSR := Lib.hid hsrc
        have HL1 := Lib.hid hL1
        have HS2 : Hid (w.heap.size + 1 ≤ w2.heap.size) := Lib.hid (Nat.le_trans (lt_of_heap HXa.out) hb2.size)
        clear hL2 hb2 hL1 hsrc
        go_wp2_with (at_builtin; go_loud (refine wpList_append_src _ rfl _ _ 57 rfl (w.heap.size + 1) 9 i0 (.string ⟨#[]⟩) 1 16 Try.underlying57 hi0 hz0 hz1 hz2 rfl (by decide) _ _ _ rfl HL1.out o2 _ c2 _ rfl (strs_len _) HSR.out (strs_oneW _) (by unfold maxLen; simp at HPN; omega) (by simp at HPN; omega) HS2.out ?_))
        intro v3 w3 hown3 hgrow3 _
        have hL3 := lst_joinW hown3
        rw [← HT.out] at hL3
        have hx3 := (hgrow3.block w.heap.size (Nat.lt_of_succ_le HS2.out) (fun e => by have := (World.ownsRow.lt HL1.out _ e.symm).1; omega)).trans HX3.out
        have hb3 := HB2.out.grown hgrow3 HB2.out.size (fun b eb => by have := (World.ownsRow.lt HL1.out _ eb).1; omega)
        have HL3 := Lib.hid hL3
        have HX4 := Lib.hid hx3
        have HB3 := Lib.hid hb3
        clear hown3 hgrow3 hL3 hx3 hb3
        go_wp2
        go_roundw
        case rel => exact ⟨j + 1, hlt, by go_num, HL3.out, HB3.out, HX4.out⟩
        case measure => simp [intOf]; omega
    · have HT : Hid (es.take j = es) := Lib.hid (List.take_of_length_le (by omega))
      rw [HT.out] at hWL
      have HWL := Lib.hid hWL
      clear hL hB hX hWL
      go_wp2_with (at_builtin; go_loud (refine wpList_append_src _ rfl _ _ 57 rfl (w.heap.size + 1) 9 i0 (.string ⟨#[]⟩) 1 16 Try.underlying57 hi0 hz0 hz1 hz2 rfl (by decide) _ _ _ rfl (Lst.alloc HL.out (.cells #[.string x] 9)) _ 1 1 [.string x] rfl rfl (src_oneW wr x) (by simp [Value.oneCell']) (by unfold maxLen; omega) (by omega) (by simp; omega) ?_))
      intro v3 w3 hown3 hgrow3 _
      have hL3 := Lst.snoc HX.out hown3
      have hb3 := (HB.out.alloc hsz (.cells #[.string x] 9)).grown hgrow3 (Nat.le_trans hsz (by simp)) (fun b eb => by have := (World.ownsRow.lt HL.out _ eb).1; omega)
      have HL3 := Lib.hid hL3
      have HB3 := Lib.hid hb3
      clear hown3 hgrow3 hL3 hb3
      go_wp2
      go_ret
      exact ⟨_, rfl, by rw [HV.out, ← HWL.out]; exact lst_mono HL3.out (Nat.le_succ _), HB3.out⟩
theorem l7WalkF_any (f : FsD) (hg : goodF f = true) (hs : szF f ≤ 1048576) (k : Nat) : WaySays f false k := by
  induction k using Nat.strongRecOn with
  | ind k ih => exact l7WalkF_step f hg hs k ih
theorem l7WalkT_any (f : FsD) (hg : goodF f = true) (hs : szF f ≤ 1048576) (k : Nat) : WaySays f true k := by
  induction k using Nat.strongRecOn with
  | ind k ih => exact l7WalkT_step f hg hs k ih
end Go.Proofs.Ytknhacblialboaa


/-
  The model's l7Asked, l7Deep and DeepOf.
  Conditions: at most 2^20 values and letters together.
-/
namespace Go.Proofs.Ytknhacblialboaa
open Go.ChangeShapes Go.WideShapes Go.ChangeAt Go.RowKit Go.Joins
set_option linter.unusedVariables false
set_option linter.unusedSimpArgs false

end Go.Proofs.Ytknhacblialboaa


/-
  append onto a list of the call's own: the list that it was appended to reads as before. No function of the program is named.
  Conditions: as it states.
-/
namespace Go.Proofs.Ytknhacblialboaa
open Go.ChangeShapes Go.WideShapes Go.ChangeAt Go.RowKit Go.Joins
set_option linter.unusedVariables false

theorem run_append_keep {P : Program} (w : World) (base : Nat) (t ty e : TypeId) (i : TypeInfo) (z : Value) (size bytes : Nat) (ht : P.underlying t = some (.slice e)) (hi : P.info? e = some i) (hz : i.zero = some z)
    (hsize : i.size = size) (hby : i.bytes = bytes) (hzs : z.cells.size = size) (hsz : 0 < size)
    (v : Value) (n : Nat) (xs : List Value) (hown : w.ownsRow base e size v n xs)
    (a : Addr) (m c : Nat) (news : List Value) (hm0 : 0 < m) (hl : news.length = m * size) (hnews : ∀ j u, news[j]? = some u → w.cell? (a.add j) = some u) (h1 : ∀ u ∈ news, u.oneCell' = true)
    (h63 : n + m ≤ maxLen) (hbytes : (n + m) * bytes ≤ 140737488355328) (hbase : base ≤ w.heap.size) :
    ∃ v' w', (Builtin.append_ #[t, t] ty #[v, .slice (some a) m c]).run P w = .ok v' w' ∧ w'.ownsRow base e size v' (n + m) (xs ++ news) ∧ w.grownBy w' v.ownBlock ∧
      w'.ownsRow base e size v n xs ∧ ((∃ g cap, v = .slice (some ⟨g, 0, none⟩) n cap ∧ v' = .slice (some ⟨g, 0, none⟩) (n + m) cap) ∨ v'.ownBlock = some w.heap.size) := by
  subst hsize
  subst hby
  have hsmall : n + m ≤ 9223372036854775807 := by simp only [maxLen] at h63; omega
  have hlen : (xs ++ news).length = (n + m) * i.size := by rw [List.length_append, hown.1, hl, Nat.add_mul]
  have keep : ∀ o : Obj, (w.drew.alloc o).ownsRow base e i.size v n xs := fun o => by
    refine World.ownsRow.kept hown (row := none) ⟨rfl, rfl, rfl, by simp, fun k hk _ => Below.heap_alloc w.drew _ k hk⟩ ?_
    rcases hown.2 with ⟨rfl, _⟩ | ⟨g, cap, cur, rfl, _⟩
    · exact .inl rfl
    · exact .inr (by simp [Value.ownBlock])
  have grown : ∀ (old : Nat), old < n + m → ∀ (row : Option Nat),
      (w.drew.alloc (.cells (xs.toArray ++ news.toArray ++ Builtin.zeroCells z.cells (grownCap w (n + m) old e - (n + m))) e)).ownsRow base e i.size
        (.slice (some ⟨w.heap.size, 0, none⟩) (n + m) (grownCap w (n + m) old e)) (n + m) (xs ++ news) ∧
      w.grownBy (w.drew.alloc (.cells (xs.toArray ++ news.toArray ++ Builtin.zeroCells z.cells (grownCap w (n + m) old e - (n + m))) e)) row := by
    intro old ho row
    have hge := grownCap_ge w (n + m) old e
    have hcm : grownCap w (n + m) old e ≤ maxLen := grownCap_le_maxLen w (n + m) old e h63
    refine ⟨⟨hlen, .inr ⟨w.heap.size, _, _, rfl, hbase, heap_alloc_new w.drew _, hge, hcm, ?_, ?_⟩⟩, ⟨rfl, rfl, rfl, by simp, fun k hk _ => Below.heap_alloc w.drew _ k hk⟩⟩
    · simp only [Array.size_append, List.size_toArray, size_zeroCells, hzs, hown.1, hl, ← Nat.add_mul]
      congr 1
      omega
    · simp only [Array.toList_append, List.append_assoc]
      rw [← List.append_assoc, ← hlen]
      exact List.take_left
  rcases id hown.2 with ⟨rfl, rfl⟩ | ⟨g, cap, cur, rfl, hbg, hg, hnc, hcm, hcs, htake⟩
  · have hx : xs = [] := List.eq_nil_of_length_eq_zero (by simpa using hown.1)
    subst hx
    have hr := run_append_nil (P := P) w t ty e i z ht hi hz a m c news hl hnews (by omega) (by omega) (by have hb := hbytes; simp only [Nat.zero_add] at hb; omega)
    have hgr := grown 0 (by omega) (Value.ownBlock (.slice none 0 0))
    have hkp := keep (.cells (([] : List Value).toArray ++ news.toArray ++ Builtin.zeroCells z.cells (grownCap w (0 + m) 0 e - (0 + m))) e)
    simp only [Nat.zero_add, List.nil_append, Array.empty_append] at hgr hkp ⊢
    exact ⟨_, _, hr, hgr.1, hgr.2, hkp, .inr rfl⟩
  · by_cases hroom : n + m ≤ cap
    · have hfit : n * i.size + news.length ≤ cur.size := by rw [hl, hcs, ← Nat.add_mul]; exact Nat.mul_le_mul_right _ hroom
      have hr := run_append_room (P := P) w t ty e i ht hi g n cap cur hg a m c news hl hnews h1 hroom hfit
      have hsz2 : (cur.toList.take (n * i.size) ++ news ++ cur.toList.drop (n * i.size + news.length)).toArray.size = cap * i.size := by
        simp only [List.size_toArray, List.length_append, List.length_take, List.length_drop, Array.length_toList]
        omega
      refine ⟨_, _, hr, ⟨hlen, .inr ⟨g, cap, _, rfl, hbg, setRow_heap w g cur _ e _ hg, hroom, hcm, hsz2, ?_⟩⟩, ⟨rfl, rfl, rfl, by simp, fun k _ hk => setRow_other w g k _ (fun e => hk (by simp [Value.ownBlock, e]))⟩, ⟨hown.1, .inr ⟨g, cap, _, rfl, hbg, setRow_heap w g cur _ e _ hg, hnc, hcm, hsz2, ?_⟩⟩, .inl ⟨g, cap, rfl, rfl⟩⟩
      · rw [htake, ← hlen]
        exact List.take_left
      · rw [htake, List.append_assoc, ← hown.1]
        exact List.take_left
    · have holds : ∀ j u, xs[j]? = some u → w.cell? ((⟨g, 0, none⟩ : Addr).add j) = some u := hown.cells (g := g) rfl
      have hr := run_append_grow (P := P) w t ty e i z ht hi hz ⟨g, 0, none⟩ n cap xs hown.1 holds a m c news hl hnews (by omega) (by omega) (growslice_fits (by omega) hbytes)
      have hgr := grown cap (by omega) (Value.ownBlock (.slice (some ⟨g, 0, none⟩) n cap))
      exact ⟨_, _, hr, hgr.1, hgr.2, keep _, .inr rfl⟩
theorem wpList_append_keep {P : Program} (w : World) {ops : Array Oper} {rest : List Oper} {o : Oper} {a : Act} {Q : Exit → Act → World → Prop} (hgd : o.guard = none) (s x : Operand) (t : TypeId)
    (ho : o.op = .call { callee := .builtin .append, args := #[s, x], argTypes := #[t, t] })
    (base : Nat) (e : TypeId) (i : TypeInfo) (z : Value) (size bytes : Nat) (ht : P.underlying t = some (.slice e)) (hi : P.info? e = some i) (hz : i.zero = some z)
    (hsize : i.size = size) (hby : i.bytes = bytes) (hzs : z.cells.size = size) (hsz : 0 < size)
    (v : Value) (n : Nat) (xs : List Value) (hs : a.eval s = v) (hown : w.ownsRow base e size v n xs)
    (ad : Addr) (m c : Nat) (news : List Value) (hm0 : 0 < m) (hx : a.eval x = .slice (some ad) m c) (hl : news.length = m * size) (hnews : ∀ j u, news[j]? = some u → w.cell? (ad.add j) = some u) (h1 : ∀ u ∈ news, u.oneCell' = true)
    (h63 : n + m ≤ maxLen) (hbytes : (n + m) * bytes ≤ 140737488355328) (hbase : base ≤ w.heap.size)
    (h : ∀ v' w', w'.ownsRow base e size v' (n + m) (xs ++ news) → w.grownBy w' v.ownBlock → w'.ownsRow base e size v n xs → ((∃ g cap, v = .slice (some ⟨g, 0, none⟩) n cap ∧ v' = .slice (some ⟨g, 0, none⟩) (n + m) cap) ∨ v'.ownBlock = some w.heap.size) → wpList P ops Q rest (a.put o.dst v') w') : wpList P ops Q (o :: rest) a w := by
  refine wpList_plain hgd fun K hK => ?_
  obtain ⟨v', w', hr, h2, h3, h4, h5⟩ := run_append_keep (P := P) w base t o.type e i z size bytes ht hi hz hsize hby hzs hsz v n xs hown ad m c news hm0 hl hnews h1 h63 hbytes hbase
  unfold Oper.wp execOp
  simp only [ho, resolve, invoke, builtin, Sem.run_bind, Sem.run_pure, Result.andThen_ok, List.map_toArray, List.map_cons, List.map_nil, hs, hx, hr]
  exact hK _ _ (h v' w' h2 h3 h4 h5)
theorem step_append_keep {P : Program} (w : World) {ops : Array Oper} {o : Oper} {a : Act} {K : Act → World → Prop} {Q : Exit → Act → World → Prop} {E : Prop} (hgd : o.guard = none) (s x : Operand) (t : TypeId)
    (ho : o.op = .call { callee := .builtin .append, args := #[s, x], argTypes := #[t, t] })
    (base : Nat) (e : TypeId) (i : TypeInfo) (z : Value) (size bytes : Nat) (ht : P.underlying t = some (.slice e)) (hi : P.info? e = some i) (hz : i.zero = some z)
    (hsize : i.size = size) (hby : i.bytes = bytes) (hzs : z.cells.size = size) (hsz : 0 < size)
    (v : Value) (n : Nat) (xs : List Value) (hs : a.eval s = v) (hown : w.ownsRow base e size v n xs)
    (ad : Addr) (m c : Nat) (news : List Value) (hm0 : 0 < m) (hx : a.eval x = .slice (some ad) m c) (hl : news.length = m * size) (hnews : ∀ j u, news[j]? = some u → w.cell? (ad.add j) = some u) (h1 : ∀ u ∈ news, u.oneCell' = true)
    (h63 : n + m ≤ maxLen) (hbytes : (n + m) * bytes ≤ 140737488355328) (hbase : base ≤ w.heap.size)
    (h : ∀ v' w', w'.ownsRow base e size v' (n + m) (xs ++ news) → w.grownBy w' v.ownBlock → w'.ownsRow base e size v n xs → ((∃ g cap, v = .slice (some ⟨g, 0, none⟩) n cap ∧ v' = .slice (some ⟨g, 0, none⟩) (n + m) cap) ∨ v'.ownBlock = some w.heap.size) → K (a.put o.dst v') w') :
    if Region.wanted o (yielded ops a.tmps) = true then Oper.wp P o a w K Q else E := by
  have hw : Region.wanted o (yielded ops a.tmps) = true := by simp [Region.wanted, hgd]
  rw [if_pos hw]
  obtain ⟨v', w', hr, h2, h3, h4, h5⟩ := run_append_keep (P := P) w base t o.type e i z size bytes ht hi hz hsize hby hzs hsz v n xs hown ad m c news hm0 hl hnews h1 h63 hbytes hbase
  unfold Oper.wp execOp
  simp only [ho, resolve, invoke, builtin, Sem.run_bind, Sem.run_pure, Result.andThen_ok, List.map_toArray, List.map_cons, List.map_nil, hs, hx, hr]
  exact h v' w' h2 h3 h4 h5
end Go.Proofs.Ytknhacblialboaa


/-
  The program's walkPre with DeepOf's closure, and DeepOf.
  Conditions: at most 2^20 values and letters together.
-/
namespace Go.Proofs.Ytknhacblialboaa
open Go.ChangeShapes Go.WideShapes Go.ChangeAt Go.RowKit Go.Joins
set_option linter.unusedVariables false
set_option linter.unusedSimpArgs false

/-- Of what was there only block d, and one row, may have turned. -/
structure Eff (w w' : World) (d : Nat) (row : Option Nat) : Prop where
  os : w'.os = w.os
  tape : w'.tape = w.tape
  output : w'.output = w.output
  size : w.heap.size ≤ w'.heap.size
  block : ∀ k, k < w.heap.size → k ≠ d → some k ≠ row → w'.heap[k]? = w.heap[k]?
theorem Eff.refl (w : World) (d : Nat) (row : Option Nat) : Eff w w d row := ⟨rfl, rfl, rfl, Nat.le_refl _, fun _ _ _ _ => rfl⟩
theorem Eff.trans {a b c : World} {d : Nat} {row : Option Nat} (h : Eff a b d row) (k : Eff b c d row) : Eff a c d row :=
  ⟨k.os.trans h.os, k.tape.trans h.tape, k.output.trans h.output, Nat.le_trans h.size k.size, fun i hi h1 h2 => (k.block i (Nat.lt_of_lt_of_le hi h.size) h1 h2).trans (h.block i hi h1 h2)⟩
/-- Behind what has a row of its own made anew. -/
theorem Eff.fresh {a b c : World} {d : Nat} {row row2 : Option Nat} (h : Eff a b d row) (k : Eff b c d row2) (hr : ∀ g, row2 = some g → row = some g ∨ a.heap.size ≤ g) : Eff a c d row :=
  ⟨k.os.trans h.os, k.tape.trans h.tape, k.output.trans h.output, Nat.le_trans h.size k.size, fun i hi h1 h2 => (k.block i (Nat.lt_of_lt_of_le hi h.size) h1 (fun e => by
    rcases hr i e.symm with h3 | h3
    · exact h2 h3.symm
    · omega)).trans (h.block i hi h1 h2)⟩
theorem Eff.of_below {a b : World} (d : Nat) (row : Option Nat) (h : Below a.heap.size a b) : Eff a b d row := ⟨h.os, h.tape, h.output, h.size, fun i hi _ _ => h.block i hi⟩
theorem Eff.of_grown {a b : World} (d : Nat) {row : Option Nat} (h : a.grownBy b row) : Eff a b d row := ⟨h.os, h.tape, h.output, h.size, fun i hi _ h2 => h.block i hi h2⟩
theorem Eff.below {a b : World} {d B : Nat} {row : Option Nat} (h : Eff a b d row) (hd : B ≤ d) (hr : ∀ g, row = some g → B ≤ g) (hB : B ≤ a.heap.size) : Below B a b :=
  ⟨h.os, h.tape, h.output, h.size, fun i hi => h.block i (Nat.lt_of_lt_of_le hi hB) (by omega) (fun e => by have := hr i e.symm; omega)⟩
theorem own_cut {w : World} {B g n cap : Nat} {e : TypeId} {xs : List Value} {x : Value} (h : w.ownsRow B e 1 (.slice (some ⟨g, 0, none⟩) (n + 1) cap) (n + 1) (xs ++ [x])) : w.ownsRow B e 1 (.slice (some ⟨g, 0, none⟩) n cap) n xs := by
  obtain ⟨hl, hd⟩ := h
  rcases hd with ⟨e1, h0⟩ | ⟨g1, cap1, cur, e1, hB, hg, hn, hm, hs, ht⟩
  · cases e1
  · simp only [Value.slice.injEq, Option.some.injEq, Addr.mk.injEq, and_true, true_and] at e1
    obtain ⟨rfl, rfl⟩ := e1
    have hxl : xs.length = n := by simp at hl; omega
    refine ⟨by omega, .inr ⟨g, cap, cur, rfl, hB, hg, by omega, hm, hs, ?_⟩⟩
    have h2 : cur.toList.take (n * 1) = (cur.toList.take ((n + 1) * 1)).take n := by rw [List.take_take]; congr 1; omega
    rw [h2, ht, ← hxl]
    simp
theorem own_eff {w w' : World} {B d n : Nat} {row : Option Nat} {e : TypeId} {v : Value} {xs : List Value} (h : w.ownsRow B e 1 v n xs) (k : Eff w w' d row) (hd : v.ownBlock ≠ some d) (hr : v.ownBlock = none ∨ v.ownBlock ≠ row) : w'.ownsRow B e 1 v n xs := by
  obtain ⟨hl, hh⟩ := h
  rcases hh with h0 | ⟨g, cap, cur, rfl, hB, hg, r⟩
  · exact ⟨hl, .inl h0⟩
  · refine ⟨hl, .inr ⟨g, cap, cur, rfl, hB, (k.block g (Array.getElem?_eq_some_iff.1 hg).1 (fun e => hd (by rw [e]; rfl)) (fun e => ?_)).trans hg, r⟩⟩
    rcases hr with h1 | h1
    · simp [Value.ownBlock] at h1
    · exact h1 e
/-- Rows of texts are no boxes of numbers. -/
theorem row_ne_box {w : World} {B d n : Nat} {v : Value} {xs : List Value} {z : Value} (h : w.ownsRow B 9 1 v n xs) (hb : w.heap[d]? = some (.cells #[z] 3)) : v.ownBlock ≠ some d := by
  rcases h.2 with ⟨rfl, _⟩ | ⟨g, cap, cur, rfl, hB, hg, _⟩
  · simp [Value.ownBlock]
  · intro e
    simp [Value.ownBlock] at e
    subst e
    rw [hg] at hb
    simp at hb

theorem box_set {w : World} {N : Nat} {x : Value} {T : TypeId} (h : w.heap[N]? = some (.cells #[x] T (0, 0))) (a : Value) : (w.setCell ⟨N, 0, none⟩ a).heap[N]? = some (.cells #[a] T (0, 0)) :=
  heap_setCell_same w N 0 _ T a h
theorem eff_set {w w' : World} {d : Nat} {row : Option Nat} (h : Eff w w' d row) (a : Value) : Eff w (w'.setCell ⟨d, 0, none⟩ a) d row :=
  ⟨h.os, h.tape, h.output, by simpa using h.size, fun i hi h1 h2 => (Below.heap_setCell w' ⟨d, 0, none⟩ a i h1).trans (h.block i hi h1 h2)⟩
theorem int_box {a b : Nat} {T : TypeId} (h : a = b) : some (Obj.cells #[Value.int .i64 (a : Int)] T) = some (Obj.cells #[Value.int .i64 (b : Int)] T) := by rw [h]
theorem same_cases {v v' : Value} {n m S : Nat} (h : (∃ g cap, v = .slice (some ⟨g, 0, none⟩) n cap ∧ v' = .slice (some ⟨g, 0, none⟩) (n + m) cap) ∨ v'.ownBlock = some S) : v'.ownBlock = v.ownBlock ∨ v'.ownBlock = some S := by
  rcases h with ⟨g, cap, rfl, rfl⟩ | h
  · exact .inl rfl
  · exact .inr h
end Go.Proofs.Ytknhacblialboaa

/-
  Contracts of the Go library at this seat's translation, laid by the kit's own tool in plain words.
  Conditions: as each states.
-/
namespace Go.Proofs
open Go.Shelf
def Try.lays169_ren : Go.Shelf.Ren := ⟨fun | 169 => 86 | n => n, fun | 70 => 116 | 9 => 9 | 0 => 0 | 72 => 118 | 37 => 105 | 127 => 142 | 3 => 3 | 5 => 5 | n => n, fun | n => n⟩
theorem Try.lays169 : Go.Proofs.Lays.n169 Try.prog Try.lays169_ren := {
  mixed := by kernel_rfl
  f169 := Try.func86.trans (congrArg some (by kernel_rfl))
  t0 := Try.underlying0
  a0 := Try.isAgg0
  z0 := Try.sizeOf0
  v0 := Try.zeroValue0
  t3 := Try.underlying3
  a3 := Try.isAgg3
  z3 := Try.sizeOf3
  v3 := Try.zeroValue3
  t9 := Try.underlying9
  a9 := Try.isAgg9
  z9 := Try.sizeOf9
  v9 := Try.zeroValue9
  t37 := Try.underlying105
  a37 := Try.isAgg105
  z37 := Try.sizeOf105
  v37 := Try.zeroValue105
  t70 := Try.underlying116
  a70 := Try.isAgg116
  z70 := Try.sizeOf116
  v70 := Try.zeroValue116
  t72 := Try.underlying118
  a72 := Try.isAgg118
  z72 := Try.sizeOf118
  v72 := Try.zeroValue118
  t127 := Try.underlying142
  a127 := Try.isAgg142
  z127 := Try.sizeOf142
  v127 := Try.zeroValue142 }
theorem Try.Builder_Extra_169 : Builder.Extra Try.prog Try.lays169_ren := {
  sizeBuilder := by kernel_rfl
  liesBuilder := by kernel_rfl
  t5 := Try.underlying5
  a5 := Try.isAgg5
  z5 := Try.sizeOf5
  v5 := Try.zeroValue5
  infoByte := by kernel_rfl
  cellsByte := by kernel_rfl
  sizeByte := by kernel_rfl
  neB5 := by decide }
open Go.RowKit in
theorem Try.Builder_String (B b : Nat) (l : List UInt8) (w : World) (h : Lib.IsBuilder 118 5 B b (Lib.byteCells l) w) (h0 : l ≠ []) :
    Calls Try.prog 86 #[.pointer (some ⟨b, 0, none⟩)] w fun e w' => e = .returned (.string ⟨l.toArray⟩) ∧ Below B w w' := Any.Builder_String Try.lays169 Try.Builder_Extra_169 B b l w h h0
open Go.RowKit in
theorem Try.Builder_String_empty (B b : Nat) (w : World) (h : Lib.IsBuilder 118 5 B b [] w) (hBw : B ≤ w.heap.size) :
    Calls Try.prog 86 #[.pointer (some ⟨b, 0, none⟩)] w fun e w' => e = .returned (.string ⟨#[]⟩) ∧ Below B w w' := Any.Builder_String_empty Try.lays169 Try.Builder_Extra_169 B b w h hBw
open Go.RowKit in
theorem Try.Builder_String_any (B b : Nat) (l : List UInt8) (w : World) (h : Lib.IsBuilder 118 5 B b (Lib.byteCells l) w) (hBw : B ≤ w.heap.size) :
    Calls Try.prog 86 #[.pointer (some ⟨b, 0, none⟩)] w fun e w' => e = .returned (.string ⟨l.toArray⟩) ∧ Below B w w' := Any.Builder_String_any Try.lays169 Try.Builder_Extra_169 B b l w h hBw
def Try.lays241_ren : Go.Shelf.Ren := ⟨fun | 241 => 103 | 277 => 128 | n => n, fun | 70 => 116 | 3 => 3 | 0 => 0 | 72 => 118 | 37 => 105 | 5 => 5 | n => n, fun | n => n⟩
theorem Try.lays241 : Go.Proofs.Lays.n241 Try.prog Try.lays241_ren := {
  mixed := by kernel_rfl
  f241 := Try.func103.trans (congrArg some (by kernel_rfl))
  f277 := Try.func128.trans (congrArg some (by kernel_rfl))
  t0 := Try.underlying0
  a0 := Try.isAgg0
  z0 := Try.sizeOf0
  v0 := Try.zeroValue0
  t3 := Try.underlying3
  a3 := Try.isAgg3
  z3 := Try.sizeOf3
  v3 := Try.zeroValue3
  t37 := Try.underlying105
  a37 := Try.isAgg105
  z37 := Try.sizeOf105
  v37 := Try.zeroValue105
  t70 := Try.underlying116
  a70 := Try.isAgg116
  z70 := Try.sizeOf116
  v70 := Try.zeroValue116
  t72 := Try.underlying118
  a72 := Try.isAgg118
  z72 := Try.sizeOf118
  v72 := Try.zeroValue118 }
theorem Try.Builder_Extra_241 : Builder.Extra Try.prog Try.lays241_ren := {
  sizeBuilder := by kernel_rfl
  liesBuilder := by kernel_rfl
  t5 := Try.underlying5
  a5 := Try.isAgg5
  z5 := Try.sizeOf5
  v5 := Try.zeroValue5
  infoByte := by kernel_rfl
  cellsByte := by kernel_rfl
  sizeByte := by kernel_rfl
  neB5 := by decide }
open Go.RowKit in
theorem Try.Builder_grow_fresh (B b n : Nat) (w : World) (hB : B ≤ b) (hbk : w.heap[b]? = some (.cells #[.pointer (some ⟨b, 0, none⟩), .slice none 0 0] 118 (0, 0))) (hBw : B ≤ w.heap.size) (hn : n ≤ 281474976710656) :
    Calls Try.prog 103 #[.pointer (some ⟨b, 0, none⟩), .int .i64 n] w fun e w' => e = .returned (.tuple #[]) ∧ (Lib.BuilderAt 118 5 B b (.pointer (some ⟨b, 0, none⟩)) [] w' ∧ Below B w w') := Any.Builder_grow_fresh Try.lays241 Try.Builder_Extra_241 B b n w hB hbk hBw hn
def Try.lays165_ren : Go.Shelf.Ren := ⟨fun | 165 => 84 | 240 => 102 | 241 => 103 | 276 => 127 | 277 => 128 | n => n, fun | 70 => 116 | 3 => 3 | 0 => 0 | 4 => 4 | 9 => 9 | 20 => 20 | 72 => 118 | 37 => 105 | 164 => 172 | 5 => 5 | n => n, fun | n => n⟩
theorem Try.lays165 : Go.Proofs.Lays.n165 Try.prog Try.lays165_ren := {
  mixed := by kernel_rfl
  f165 := Try.func84.trans (congrArg some (by kernel_rfl))
  f240 := Try.func102.trans (congrArg some (by kernel_rfl))
  f241 := Try.func103.trans (congrArg some (by kernel_rfl))
  f276 := Try.func127.trans (congrArg some (by kernel_rfl))
  f277 := Try.func128.trans (congrArg some (by kernel_rfl))
  t0 := Try.underlying0
  a0 := Try.isAgg0
  z0 := Try.sizeOf0
  v0 := Try.zeroValue0
  t3 := Try.underlying3
  a3 := Try.isAgg3
  z3 := Try.sizeOf3
  v3 := Try.zeroValue3
  t4 := Try.underlying4
  a4 := Try.isAgg4
  z4 := Try.sizeOf4
  v4 := Try.zeroValue4
  t9 := Try.underlying9
  a9 := Try.isAgg9
  z9 := Try.sizeOf9
  v9 := Try.zeroValue9
  t20 := Try.underlying20
  a20 := Try.isAgg20
  z20 := Try.sizeOf20
  v20 := Try.zeroValue20
  t37 := Try.underlying105
  a37 := Try.isAgg105
  z37 := Try.sizeOf105
  v37 := Try.zeroValue105
  t70 := Try.underlying116
  a70 := Try.isAgg116
  z70 := Try.sizeOf116
  v70 := Try.zeroValue116
  t72 := Try.underlying118
  a72 := Try.isAgg118
  z72 := Try.sizeOf118
  v72 := Try.zeroValue118
  t164 := Try.underlying172
  a164 := Try.isAgg172
  z164 := Try.sizeOf172
  v164 := Try.zeroValue172 }
theorem Try.Builder_Extra_165 : Builder.Extra Try.prog Try.lays165_ren := {
  sizeBuilder := by kernel_rfl
  liesBuilder := by kernel_rfl
  t5 := Try.underlying5
  a5 := Try.isAgg5
  z5 := Try.sizeOf5
  v5 := Try.zeroValue5
  infoByte := by kernel_rfl
  cellsByte := by kernel_rfl
  sizeByte := by kernel_rfl
  neB5 := by decide }
open Go.RowKit in
theorem Try.Builder_Grow_fresh (B b n : Nat) (w : World) (hB : B ≤ b) (hbk : w.heap[b]? = some (.cells #[.pointer none, .slice none 0 0] 118 (0, 0))) (hBw : B ≤ w.heap.size) (hn : n ≤ 281474976710656) :
    Calls Try.prog 84 #[.pointer (some ⟨b, 0, none⟩), .int .i64 n] w fun e w' => e = .returned (.tuple #[]) ∧ (Lib.BuilderAt 118 5 B b (.pointer (some ⟨b, 0, none⟩)) [] w' ∧ Below B w w') := Any.Builder_Grow_fresh Try.lays165 Try.Builder_Extra_165 B b n w hB hbk hBw hn
def Try.lays156_ren : Go.Shelf.Ren := ⟨fun | 156 => 60 | 165 => 84 | 166 => 85 | 169 => 86 | 240 => 102 | 241 => 103 | 276 => 127 | 277 => 128 | n => n, fun | 31 => 57 | 9 => 9 | 3 => 3 | 4 => 4 | 0 => 0 | 20 => 20 | 72 => 118 | 76 => 122 | 70 => 116 | 37 => 105 | 75 => 121 | 127 => 142 | 164 => 172 | 5 => 5 | 80 => 124 | n => n, fun | n => n⟩
theorem Try.lays156 : Go.Proofs.Lays.n156 Try.prog Try.lays156_ren := {
  mixed := by kernel_rfl
  f156 := Try.func60.trans (congrArg some (by kernel_rfl))
  f165 := Try.func84.trans (congrArg some (by kernel_rfl))
  f166 := Try.func85.trans (congrArg some (by kernel_rfl))
  f169 := Try.func86.trans (congrArg some (by kernel_rfl))
  f240 := Try.func102.trans (congrArg some (by kernel_rfl))
  f241 := Try.func103.trans (congrArg some (by kernel_rfl))
  f276 := Try.func127.trans (congrArg some (by kernel_rfl))
  f277 := Try.func128.trans (congrArg some (by kernel_rfl))
  t0 := Try.underlying0
  a0 := Try.isAgg0
  z0 := Try.sizeOf0
  v0 := Try.zeroValue0
  t3 := Try.underlying3
  a3 := Try.isAgg3
  z3 := Try.sizeOf3
  v3 := Try.zeroValue3
  t4 := Try.underlying4
  a4 := Try.isAgg4
  z4 := Try.sizeOf4
  v4 := Try.zeroValue4
  t9 := Try.underlying9
  a9 := Try.isAgg9
  z9 := Try.sizeOf9
  v9 := Try.zeroValue9
  t20 := Try.underlying20
  a20 := Try.isAgg20
  z20 := Try.sizeOf20
  v20 := Try.zeroValue20
  t31 := Try.underlying57
  a31 := Try.isAgg57
  z31 := Try.sizeOf57
  v31 := Try.zeroValue57
  t37 := Try.underlying105
  a37 := Try.isAgg105
  z37 := Try.sizeOf105
  v37 := Try.zeroValue105
  t70 := Try.underlying116
  a70 := Try.isAgg116
  z70 := Try.sizeOf116
  v70 := Try.zeroValue116
  t72 := Try.underlying118
  a72 := Try.isAgg118
  z72 := Try.sizeOf118
  v72 := Try.zeroValue118
  t75 := Try.underlying121
  a75 := Try.isAgg121
  z75 := Try.sizeOf121
  v75 := Try.zeroValue121
  t76 := Try.underlying122
  a76 := Try.isAgg122
  z76 := Try.sizeOf122
  v76 := Try.zeroValue122
  t127 := Try.underlying142
  a127 := Try.isAgg142
  z127 := Try.sizeOf142
  v127 := Try.zeroValue142
  t164 := Try.underlying172
  a164 := Try.isAgg172
  z164 := Try.sizeOf172
  v164 := Try.zeroValue172 }
theorem Try.Builder_Extra_156 : Builder.Extra Try.prog Try.lays156_ren := {
  sizeBuilder := by kernel_rfl
  liesBuilder := by kernel_rfl
  t5 := Try.underlying5
  a5 := Try.isAgg5
  z5 := Try.sizeOf5
  v5 := Try.zeroValue5
  infoByte := by kernel_rfl
  cellsByte := by kernel_rfl
  sizeByte := by kernel_rfl
  neB5 := by decide }
open Go.RowKit in
theorem Try.strings_Join_none (a : Option Addr) (c : Nat) (sep : ByteArray) (w : World) :
    Calls Try.prog 60 #[.slice a 0 c, .string sep] w fun e w' => e = .returned (.string ⟨#[]⟩) ∧ w' = w := Any.strings_Join_none Try.lays156 Try.Builder_Extra_156 a c sep w
open Go.RowKit in
theorem Try.strings_Join (bk o c : Nat) (xs : List ByteArray) (sep : ByteArray) (w : World) (hcells : ∀ (j : Nat) x, xs[j]? = some x → w.cell? ⟨bk, o + j, none⟩ = some (.string x)) (hbk : bk < w.heap.size) (hN : xs.length ≤ 140737488355328) (hcap : xs.length ≤ c) (hlen : (Lib.join (xs.map (·.data.toList)) sep.data.toList).length ≤ 140737488355328) :
    Calls Try.prog 60 #[.slice (some ⟨bk, o, none⟩) xs.length c, .string sep] w fun e w' => e = .returned (.string ⟨(Lib.join (xs.map (·.data.toList)) sep.data.toList).toArray⟩) ∧ Below w.heap.size w w' := Any.strings_Join Try.lays156 Try.Builder_Extra_156 bk o c xs sep w hcells hbk hN hcap hlen
def Try.lays189_ren : Go.Shelf.Ren := ⟨fun | 189 => 65 | 125 => 89 | 257 => 88 | 128 => 114 | 129 => 115 | 294 => 105 | 295 => 106 | 296 => 107 | 297 => 108 | 298 => 109 | 299 => 110 | 216 => 111 | 300 => 112 | 301 => 113 | 328 => 129 | 329 => 130 | 330 => 131 | 331 => 132 | 332 => 133 | 215 => 92 | 343 => 137 | n => n, fun | 28 => 55 | 3 => 3 | 46 => 128 | 0 => 0 | 51 => 154 | 53 => 156 | 4 => 4 | 183 => 146 | 182 => 145 | 131 => 151 | 5 => 5 | 9 => 9 | 218 => 175 | 222 => 179 | 228 => 183 | 229 => 64 | n => n, fun | n => n⟩
theorem Try.lays189 : Go.Proofs.Lays.n189 Try.prog Try.lays189_ren := {
  mixed := by kernel_rfl
  f125 := Try.func89.trans (congrArg some (by kernel_rfl))
  f128 := Try.func114.trans (congrArg some (by kernel_rfl))
  f129 := Try.func115.trans (congrArg some (by kernel_rfl))
  f189 := Try.func65.trans (congrArg some (by kernel_rfl))
  f215 := Try.func92.trans (congrArg some (by kernel_rfl))
  f216 := Try.func111.trans (congrArg some (by kernel_rfl))
  f257 := Try.func88.trans (congrArg some (by kernel_rfl))
  f294 := Try.func105.trans (congrArg some (by kernel_rfl))
  f295 := Try.func106.trans (congrArg some (by kernel_rfl))
  f296 := Try.func107.trans (congrArg some (by kernel_rfl))
  f297 := Try.func108.trans (congrArg some (by kernel_rfl))
  f298 := Try.func109.trans (congrArg some (by kernel_rfl))
  f299 := Try.func110.trans (congrArg some (by kernel_rfl))
  f300 := Try.func112.trans (congrArg some (by kernel_rfl))
  f301 := Try.func113.trans (congrArg some (by kernel_rfl))
  f328 := Try.func129.trans (congrArg some (by kernel_rfl))
  f329 := Try.func130.trans (congrArg some (by kernel_rfl))
  f330 := Try.func131.trans (congrArg some (by kernel_rfl))
  f331 := Try.func132.trans (congrArg some (by kernel_rfl))
  f332 := Try.func133.trans (congrArg some (by kernel_rfl))
  f343 := Try.func137.trans (congrArg some (by kernel_rfl))
  t0 := Try.underlying0
  a0 := Try.isAgg0
  z0 := Try.sizeOf0
  v0 := Try.zeroValue0
  t3 := Try.underlying3
  a3 := Try.isAgg3
  z3 := Try.sizeOf3
  v3 := Try.zeroValue3
  t4 := Try.underlying4
  a4 := Try.isAgg4
  z4 := Try.sizeOf4
  v4 := Try.zeroValue4
  t5 := Try.underlying5
  a5 := Try.isAgg5
  z5 := Try.sizeOf5
  v5 := Try.zeroValue5
  t9 := Try.underlying9
  a9 := Try.isAgg9
  z9 := Try.sizeOf9
  v9 := Try.zeroValue9
  t28 := Try.underlying55
  a28 := Try.isAgg55
  z28 := Try.sizeOf55
  v28 := Try.zeroValue55
  t46 := Try.underlying128
  a46 := Try.isAgg128
  z46 := Try.sizeOf128
  v46 := Try.zeroValue128
  t51 := Try.underlying154
  a51 := Try.isAgg154
  z51 := Try.sizeOf154
  v51 := Try.zeroValue154
  t53 := Try.underlying156
  a53 := Try.isAgg156
  z53 := Try.sizeOf156
  v53 := Try.zeroValue156
  t131 := Try.underlying151
  a131 := Try.isAgg151
  z131 := Try.sizeOf151
  v131 := Try.zeroValue151
  t182 := Try.underlying145
  a182 := Try.isAgg145
  z182 := Try.sizeOf145
  v182 := Try.zeroValue145
  t183 := Try.underlying146
  a183 := Try.isAgg146
  z183 := Try.sizeOf146
  v183 := Try.zeroValue146
  t218 := Try.underlying175
  a218 := Try.isAgg175
  z218 := Try.sizeOf175
  v218 := Try.zeroValue175
  t222 := Try.underlying179
  a222 := Try.isAgg179
  z222 := Try.sizeOf179
  v222 := Try.zeroValue179
  t228 := Try.underlying183
  a228 := Try.isAgg183
  z228 := Try.sizeOf183
  v228 := Try.zeroValue183
  t229 := Try.underlying64
  a229 := Try.isAgg64
  z229 := Try.sizeOf64
  v229 := Try.zeroValue64 }
open Go.Sort Go.RowKit in
theorem Try.slices_Sort_int (blk off cap : Nat) (zs : List Int) (w : World) (hH : Holds (Value.int .i64) w blk off zs.toArray) (hblk : blk < w.heap.size) (hsz : zs.length < 4611686018427387904) :
    Calls Try.prog 65 #[.slice (some ⟨blk, off, none⟩) zs.length cap] w fun e w' =>
      e = .returned (.tuple #[]) ∧ ∃ n os, w' = grow (putRow (Value.int .i64) (Sort.ahead w n) blk off (zs.mergeSort fun x y => decide (x ≤ y)).toArray) os := Any.slices_Sort_int Try.lays189 blk off cap zs w hH hblk hsz
def Try.laysNm220_ren : Go.Shelf.Ren := ⟨fun | 20 => 66 | n => n, fun | 22 => 55 | 3 => 3 | 4 => 4 | 0 => 0 | n => n, fun | n => n⟩
theorem Try.laysNm220 : Go.Proofs.Lays2.n20 Try.prog Try.laysNm220_ren := {
  mixed := by kernel_rfl
  f20 := Try.func66.trans (congrArg some (by kernel_rfl))
  t0 := Try.underlying0
  a0 := Try.isAgg0
  z0 := Try.sizeOf0
  v0 := Try.zeroValue0
  t3 := Try.underlying3
  a3 := Try.isAgg3
  z3 := Try.sizeOf3
  v3 := Try.zeroValue3
  t4 := Try.underlying4
  a4 := Try.isAgg4
  z4 := Try.sizeOf4
  v4 := Try.zeroValue4
  t22 := Try.underlying55
  a22 := Try.isAgg55
  z22 := Try.sizeOf55
  v22 := Try.zeroValue55
  i3 := by kernel_rfl }
open Go.RowKit Go.Lib Go.Sort in
theorem Try.slices_Compact_int_arr (blk off cap : Nat) (d : Array Int) (w : World) (hH : Holds encI w blk off d) (hsz : d.size ≤ 9223372036854775807) (hcap : d.size ≤ cap) :
    Calls Try.prog 66 #[.slice (some ⟨blk, off, none⟩) d.size cap] w fun e w' => e = .returned (.slice (some ⟨blk, off, none⟩) (compactUpTo d d.size).length cap) ∧ ∃ q, w' = putRow encI (Sort.ahead w q) blk off (compactUpTo d d.size ++ List.replicate (d.size - (compactUpTo d d.size).length) 0).toArray := Any.slices_Compact_int_arr Try.laysNm220 blk off cap d w hH hsz hcap
open Go.RowKit Go.Lib Go.Sort in
theorem Try.slices_Compact_int (blk off cap : Nat) (zs : List Int) (w : World) (hH : Holds (Value.int .i64) w blk off zs.toArray) (hsz : zs.length ≤ 9223372036854775807) (hcap : zs.length ≤ cap) :
    Calls Try.prog 66 #[.slice (some ⟨blk, off, none⟩) zs.length cap] w fun e w' => e = .returned (.slice (some ⟨blk, off, none⟩) (Lib.compact zs).length cap) ∧ ∃ q, w' = putRow (Value.int .i64) (Sort.ahead w q) blk off (Lib.compact zs ++ List.replicate (zs.length - (Lib.compact zs).length) 0).toArray := Any.slices_Compact_int Try.laysNm220 blk off cap zs w hH hsz hcap
open Go.RowKit Go.Lib Go.Sort in
theorem Try.slices_Compact_int_empty (a : Option Addr) (cap : Nat) (w : World) :
    Calls Try.prog 66 #[.slice a 0 cap] w fun e w' => e = .returned (.slice a 0 cap) ∧ w' = w := Any.slices_Compact_int_empty Try.laysNm220 a cap w
end Go.Proofs


/-
  wayOf and the closure that keeps the ways.
  Conditions: at most 41 names of at most 8 bytes each.
-/
namespace Go.Proofs.Ytknhacblialboaa
open Go.ChangeShapes Go.WideShapes Go.ChangeAt Go.RowKit Go.Joins
set_option linter.unusedVariables false
set_option linter.unusedSimpArgs false

theorem map_dataW (ps : List (List UInt8)) : (ps.map bs).map (fun x => x.data.toList) = ps := by
  rw [List.map_map]
  conv => rhs; rw [← List.map_id ps]
  exact List.map_congr_left fun p _ => bs_list p
theorem wayB_join {ps : List (List UInt8)} (h : ps ≠ []) : Lib.join ps [47] = wayB ps := by
  unfold wayB
  rw [if_neg h, ← join_slashed ps h]; rfl
theorem join_rdW {ps : List (List UInt8)} {v : Value} {w : World} (h : Rd w v ps) (h0 : ps ≠ []) (hlen : (wayB ps).length ≤ 140737488355328) (hn : ps.length ≤ 140737488355328) :
    Calls Try.prog 60 #[v, .string ⟨#[47]⟩] w fun e w' => e = .returned (.string (bs (wayB ps))) ∧ Below w.heap.size w w' := by
  obtain ⟨o, c, rfl, hlc, hcm, hH⟩ := h
  have hp : 0 < ps.length := List.length_pos_iff.2 h0
  obtain ⟨g, off, rfl, hg, _⟩ := hH 0 hp
  have hlen' : (Lib.join ((ps.map bs).map (fun x => x.data.toList)) (ByteArray.mk #[47]).data.toList).length ≤ 140737488355328 := by rw [map_dataW]; exact (wayB_join h0) ▸ hlen
  have hx := Try.strings_Join g off c (ps.map bs) ⟨#[47]⟩ w (fun j x hx => by
    rw [List.getElem?_map] at hx
    obtain ⟨p, hp1, rfl⟩ := Option.map_eq_some_iff.1 hx
    obtain ⟨hj, rfl⟩ := List.getElem?_eq_some_iff.1 hp1
    obtain ⟨g', off', e, _, hc⟩ := hH j hj
    simp only [Option.some.injEq, Addr.mk.injEq, and_true] at e
    obtain ⟨rfl, rfl⟩ := e
    exact hc) hg (by simpa using hn) (by simpa using hlc) hlen'
  rw [List.length_map] at hx
  refine hx.mono fun e w' ⟨he, hb⟩ => ⟨?_, hb⟩
  rw [he, map_dataW]
  exact congrArg (fun l => Ending.returned (.string (bs l))) (wayB_join h0)
set_option maxHeartbeats 1000000 in
theorem wayOf_any (ps : List (List UInt8)) (v : Value) (w : World) (h : Rd w v ps) (hn : ps.length ≤ 41) (hp : ∀ p ∈ ps, p ≠ [46] ∧ p.length ≤ 8) : Calls Try.prog 34 #[v] w fun e w' => e = .returned (.string (bs (wayB ps))) ∧ Below w.heap.size w w' := by
  have HR := Lib.hid h
  have HZ := Lib.hid (wayB_size (fun p hq => (hp p hq).2))
  obtain ⟨o, c, rfl, hlc, hcm, hH⟩ := h
  have HP := Lib.hid hp
  clear hH hp
  by_cases h0 : ps = []
  · subst h0
    go_enter Try.func34, Try.ntmps34
    go_wp2
    go_ret
    exact ⟨rfl, Below.refl _ _⟩
  · have H0 := Lib.hid h0
    have hpos : 0 < ps.length := List.length_pos_iff.2 h0
    clear h0
    go_enter Try.func34, Try.ntmps34
    go_wp2_with fail
    refine (join_rdW HR.out H0.out (by have := HZ.out; omega) (by omega)).mono ?_
    rintro e w1 ⟨rfl, hb⟩
    have HB := Lib.hid hb
    clear hb
    go_wp2
    go_ret
    exact ⟨rfl, HB.out⟩

theorem row_ne_boxS {w : World} {B d n : Nat} {v : Value} {xs : List Value} {z : Value} (h : w.ownsRow B 9 1 v n xs) (hb : w.heap[d]? = some (.cells #[z] 57)) : v.ownBlock ≠ some d := by
  rcases h.2 with ⟨rfl, _⟩ | ⟨g, cap, cur, rfl, hB, hg, _⟩
  · simp [Value.ownBlock]
  · intro e
    simp [Value.ownBlock] at e
    subst e
    rw [hg] at hb
    simp at hb
/-- A list grew in place or stands anew. -/
def NewB (S : Nat) (v v' : Value) : Prop := v'.ownBlock = v.ownBlock ∨ ∃ g, v'.ownBlock = some g ∧ S ≤ g
end Go.Proofs.Ytknhacblialboaa


/-
  The program's walkPre and walkPost with the closure that keeps the ways.
  Conditions: a good file system of at most 2^20 values and letters together.
-/
namespace Go.Proofs.Ytknhacblialboaa
open Go.ChangeShapes Go.WideShapes Go.ChangeAt Go.RowKit Go.Joins
set_option linter.unusedVariables false
set_option linter.unusedSimpArgs false

/-- Of what was there only block d, and two rows, may have turned. -/
structure Eff2 (w w' : World) (d : Nat) (r1 r2 : Option Nat) : Prop where
  os : w'.os = w.os
  tape : w'.tape = w.tape
  output : w'.output = w.output
  size : w.heap.size ≤ w'.heap.size
  block : ∀ k, k < w.heap.size → k ≠ d → some k ≠ r1 → some k ≠ r2 → w'.heap[k]? = w.heap[k]?
theorem Eff2.refl (w : World) (d : Nat) (r1 r2 : Option Nat) : Eff2 w w d r1 r2 := ⟨rfl, rfl, rfl, Nat.le_refl _, fun _ _ _ _ _ => rfl⟩
theorem Eff2.fresh {a b c : World} {d : Nat} {r1 r2 s1 s2 : Option Nat} (h : Eff2 a b d r1 r2) (k : Eff2 b c d s1 s2) (h1 : ∀ g, s1 = some g → r1 = some g ∨ a.heap.size ≤ g) (h2 : ∀ g, s2 = some g → r2 = some g ∨ a.heap.size ≤ g) : Eff2 a c d r1 r2 :=
  ⟨k.os.trans h.os, k.tape.trans h.tape, k.output.trans h.output, Nat.le_trans h.size k.size, fun i hi e0 e1 e2 => (k.block i (Nat.lt_of_lt_of_le hi h.size) e0 (fun e => by
    rcases h1 i e.symm with h3 | h3
    · exact e1 h3.symm
    · omega) (fun e => by
    rcases h2 i e.symm with h3 | h3
    · exact e2 h3.symm
    · omega)).trans (h.block i hi e0 e1 e2)⟩
theorem Eff2.trans {a b c : World} {d : Nat} {r1 r2 : Option Nat} (h : Eff2 a b d r1 r2) (k : Eff2 b c d r1 r2) : Eff2 a c d r1 r2 := h.fresh k (fun g e => .inl e) (fun g e => .inl e)
theorem Eff2.of_below {a b : World} (d : Nat) (r1 r2 : Option Nat) (h : Below a.heap.size a b) : Eff2 a b d r1 r2 := ⟨h.os, h.tape, h.output, h.size, fun i hi _ _ _ => h.block i hi⟩
theorem Eff2.of_grown {a b : World} (d : Nat) {r1 : Option Nat} (r2 : Option Nat) (h : a.grownBy b r1) : Eff2 a b d r1 r2 := ⟨h.os, h.tape, h.output, h.size, fun i hi _ h2 _ => h.block i hi h2⟩
theorem Eff2.of_eff {a b : World} {d : Nat} (r1 : Option Nat) {r2 : Option Nat} (h : Eff a b d r2) : Eff2 a b d r1 r2 := ⟨h.os, h.tape, h.output, h.size, fun i hi h1 _ h2 => h.block i hi h1 h2⟩
theorem Eff2.below {a b : World} {d B : Nat} {r1 r2 : Option Nat} (h : Eff2 a b d r1 r2) (hd : B ≤ d) (h1 : ∀ g, r1 = some g → B ≤ g) (h2 : ∀ g, r2 = some g → B ≤ g) (hB : B ≤ a.heap.size) : Below B a b :=
  ⟨h.os, h.tape, h.output, h.size, fun i hi => h.block i (Nat.lt_of_lt_of_le hi hB) (by omega) (fun e => by have := h1 i e.symm; omega) (fun e => by have := h2 i e.symm; omega)⟩
theorem lst_eff2 {w w' : World} {B d : Nat} {r1 r2 : Option Nat} {v : Value} {xs : List (List UInt8)} (h : Lst w B v xs) (k : Eff2 w w' d r1 r2) (hd : v.ownBlock ≠ some d) (h1 : ∀ g, v.ownBlock = some g → some g ≠ r1) (h2 : ∀ g, v.ownBlock = some g → some g ≠ r2) : Lst w' B v xs := by
  obtain ⟨hl, hh⟩ := h
  rcases hh with h0 | ⟨g, cap, cur, rfl, hB, hg, r⟩
  · exact ⟨hl, .inl h0⟩
  · exact ⟨hl, .inr ⟨g, cap, cur, rfl, hB, (k.block g (Array.getElem?_eq_some_iff.1 hg).1 (fun e => hd (by rw [e]; rfl)) (h1 g rfl) (h2 g rfl)).trans hg, r⟩⟩
theorem lst_cut {w : World} {B g cap : Nat} {ps : List (List UInt8)} {p : List UInt8} (h : Lst w B (.slice (some ⟨g, 0, none⟩) (ps.length + 1) cap) (ps ++ [p])) : Lst w B (.slice (some ⟨g, 0, none⟩) ps.length cap) ps := by
  unfold Lst at h ⊢
  refine own_cut (x := .string (bs p)) ?_
  simpa [strs] using h
/-- The two lists share no block. -/
def Dis (nm v : Value) : Prop := ∀ g, nm.ownBlock = some g → v.ownBlock ≠ some g
theorem NewB.refl (S : Nat) (v : Value) : NewB S v v := .inl rfl
theorem NewB.trans {S T : Nat} {a b c : Value} (h : NewB S a b) (k : NewB T b c) (hST : S ≤ T) : NewB S a c := by
  rcases k with k | ⟨g, e, hg⟩
  · rcases h with h | ⟨g, e, hg⟩
    · exact .inl (k.trans h)
    · exact .inr ⟨g, k.trans e, hg⟩
  · exact .inr ⟨g, e, by omega⟩
theorem NewB.of {S : Nat} {v v' : Value} (h : NewB S v v') : ∀ g, v'.ownBlock = some g → v.ownBlock = some g ∨ S ≤ g := fun g e => by
  rcases h with h | ⟨g2, e2, hg⟩
  · exact .inl (h.symm.trans e)
  · rw [e] at e2; injection e2 with e2; exact .inr (by omega)
theorem lst_lt {w : World} {B : Nat} {v : Value} {xs : List (List UInt8)} (h : Lst w B v xs) : ∀ g, v.ownBlock = some g → B ≤ g ∧ g < w.heap.size := fun g e => World.ownsRow.lt h g e

end Go.Proofs.Ytknhacblialboaa


/-
  The laws' helpers on lists of numbers: eqIntS, markIntS, heldIntS.
  Conditions: as each states.
-/
namespace Go.Proofs.Ytknhacblialboaa
open Go.ChangeShapes Go.WideShapes Go.ChangeAt Go.RowKit Go.Joins
set_option linter.unusedVariables false

theorem rdI_at {w : World} {o : Option Addr} {c n : Nat} {l : List Int} (h : RdI w (.slice o n c) l) (k : Nat) (hk : k < l.length) : ∃ g off, o = some ⟨g, off, none⟩ ∧ g < w.heap.size ∧ w.cell? ⟨g, off + k, none⟩ = some (.int .i64 l[k]) := by
  obtain ⟨o2, c2, e, h1, h2, h0, h3⟩ := h
  simp only [Value.slice.injEq] at e
  obtain ⟨rfl, rfl, rfl⟩ := e
  cases o with
  | none => have := h0 rfl; omega
  | some a =>
    obtain ⟨g, off, rfl, hg, hc⟩ := h3 a rfl
    exact ⟨g, off, rfl, hg, hc k hk⟩
def marksI (m n : Nat) : List Int := (List.range n).map fun j => ((m + j : Nat) : Int)
theorem marksI_len (m n : Nat) : (marksI m n).length = n := by simp [marksI]
theorem marksI_at (m n k : Nat) (h : k < (marksI m n).length) : (marksI m n)[k] = ((m + k : Nat) : Int) := by simp [marksI]
theorem markI_old {m k : Nat} {ps : List Int} (h : k < ps.length) : ((List.range k).map (fun j => Value.int .i64 ((m + j : Nat) : Int)) ++ ints (ps.drop k))[k]? = some (.int .i64 ps[k]) := by
  rw [List.getElem?_append_right (by simp)]
  simp [ints, h]
theorem markI_set {m k : Nat} {ps : List Int} (h : k < ps.length) : ((List.range k).map (fun j => Value.int .i64 ((m + j : Nat) : Int)) ++ ints (ps.drop k)).set k (.int .i64 ((m + k : Nat) : Int)) = (List.range (k + 1)).map (fun j => Value.int .i64 ((m + j : Nat) : Int)) ++ ints (ps.drop (k + 1)) := by
  rw [List.set_append_right _ _ (by simp)]
  have e : ps.drop k = ps[k] :: ps.drop (k + 1) := List.drop_eq_getElem_cons h
  have e2 : ints (ps.drop k) = .int .i64 ps[k] :: ints (ps.drop (k + 1)) := by rw [e]; rfl
  rw [e2, List.range_succ, List.map_append, List.append_assoc]
  simp only [List.length_map, List.length_range, Nat.sub_self, List.set_cons_zero, List.map_cons, List.map_nil, List.cons_append, List.nil_append]
theorem lstI_below {w w' : World} {B : Nat} {v : Value} {ps : List Int} (h : LstI w B v ps) (hb : Below w.heap.size w w') : LstI w' B v ps := by
  refine World.ownsRow.kept h (row := none) ⟨hb.os, hb.tape, hb.output, hb.size, fun i hi _ => hb.block i hi⟩ ?_
  rcases h.2 with ⟨rfl, _⟩ | ⟨g, cap, cur, rfl, _⟩
  · exact .inl rfl
  · exact .inr (by simp [Value.ownBlock])
theorem lstI_mono {w : World} {A B : Nat} {v : Value} {ps : List Int} (h : LstI w B v ps) (hAB : A ≤ B) : LstI w A v ps := by
  rcases h with ⟨hl, hn | ⟨g, cap, cur, e, hB, rest⟩⟩
  · exact ⟨hl, .inl hn⟩
  · exact ⟨hl, .inr ⟨g, cap, cur, e, Nat.le_trans hAB hB, rest⟩⟩
theorem lstI_up {w w' : World} {R E : Nat} {v : Value} {ps : List Int} (h : LstI w R v ps) (hE : E ≤ R) (hs : w.heap.size ≤ w'.heap.size) (hu : ∀ i, E ≤ i → i < w.heap.size → w'.heap[i]? = w.heap[i]?) : LstI w' R v ps := by
  rcases h with ⟨hl, h0 | ⟨g, cap, cur, e, hB, hg, r⟩⟩
  · exact ⟨hl, .inl h0⟩
  · exact ⟨hl, .inr ⟨g, cap, cur, e, hB, (hu g (Nat.le_trans hE hB) (Array.getElem?_eq_some_iff.1 hg).1).trans hg, r⟩⟩
end Go.Proofs.Ytknhacblialboaa
