
/-
  Where the nodes of a file system are (in how many entries, in which directory, by which name), as plain data; the program's way to say that a file system is good says the same as the model's.
  Conditions: as each states.
-/
import Derived.Test.YtbmbbioanlcioaaFsG
namespace Go.Proofs.Ytbmbbioanlcioaa
open Go.ChangeShapes Go.WideShapes Go.ChangeAt Go.RowKit Go.Joins
set_option linter.unusedVariables false

structure Pl where
  links : Nat
  dir : Nat
  name : List UInt8
def pl0 : Pl := ⟨0, 0, []⟩
/-- One entry of the directory d more. -/
def putP (d : Nat) (P : Int → Pl) (e : Ent) : Int → Pl := fun i => if i = e.node then ⟨(P i).links + 1, d, e.name⟩ else P i
def putsP (d : Nat) (P : Int → Pl) (es : List Ent) : Int → Pl := es.foldl (putP d) P
/-- Behind the first k nodes. -/
def plc (ns : List Nod) : Nat → Int → Pl
  | 0 => fun _ => pl0
  | k + 1 => putsP k (plc ns k) (ns.getD k ⟨0, 0, 0, 0, 0, [], []⟩).list
def lastN (i : Int) (s : List UInt8) (es : List Ent) : List UInt8 := es.foldl (fun s e => if e.node = i then e.name else s) s

theorem putsP_take {d : Nat} {P : Int → Pl} {es : List Ent} {j : Nat} (h : j < es.length) : putsP d P (es.take (j + 1)) = putP d (putsP d P (es.take j)) es[j] := by
  unfold putsP
  rw [List.take_succ_eq_append_getElem h, List.foldl_append]
  rfl
theorem linksE_cons (i : Int) (e : Ent) (es : List Ent) : linksE i (e :: es) = one i e + linksE i es := by simp [linksE, tot]
theorem puts_links (d : Nat) (i : Int) : ∀ (es : List Ent) (P : Int → Pl), (putsP d P es i).links = (P i).links + linksE i es
  | [], P => by simp [putsP, linksE, tot]
  | e :: es, P => by
    have h := puts_links d i es (putP d P e)
    have h1 : putsP d P (e :: es) = putsP d (putP d P e) es := rfl
    rw [h1, h, linksE_cons]
    unfold putP one
    by_cases he : i = e.node
    · rw [if_pos he, if_pos he.symm]; simp; omega
    · rw [if_neg he, if_neg (fun x => he x.symm)]; omega
theorem puts_none (d : Nat) (i : Int) : ∀ (es : List Ent) (P : Int → Pl), linksE i es = 0 → putsP d P es i = P i
  | [], P, _ => rfl
  | e :: es, P, h => by
    rw [linksE_cons] at h
    have h1 : putsP d P (e :: es) = putsP d (putP d P e) es := rfl
    rw [h1, puts_none d i es _ (by omega)]
    have h2 : one i e = 0 := by omega
    unfold one at h2
    have h3 : ¬ e.node = i := fun x => by rw [if_pos x] at h2; omega
    unfold putP
    rw [if_neg (fun x => h3 x.symm)]
theorem puts_dir (d : Nat) (i : Int) : ∀ (es : List Ent) (P : Int → Pl), 0 < linksE i es → (putsP d P es i).dir = d
  | [], P, h => by simp [linksE, tot] at h
  | e :: es, P, h => by
    have h1 : putsP d P (e :: es) = putsP d (putP d P e) es := rfl
    rw [h1]
    by_cases h2 : 0 < linksE i es
    · exact puts_dir d i es _ h2
    · rw [puts_none d i es _ (by omega)]
      rw [linksE_cons] at h
      have h3 : 0 < one i e := by omega
      unfold one at h3
      by_cases he : e.node = i
      · unfold putP; rw [if_pos he.symm]
      · rw [if_neg he] at h3; omega
theorem puts_name (d : Nat) (i : Int) : ∀ (es : List Ent) (P : Int → Pl), (putsP d P es i).name = lastN i (P i).name es
  | [], P => rfl
  | e :: es, P => by
    have h1 : putsP d P (e :: es) = putsP d (putP d P e) es := rfl
    rw [h1, puts_name d i es]
    unfold lastN
    rw [List.foldl_cons]
    unfold putP
    by_cases he : e.node = i
    · rw [if_pos he.symm, if_pos he]
    · rw [if_neg (fun x => he x.symm), if_neg he]
theorem lastN_any (i : Int) : ∀ (es : List Ent) (s t : List UInt8), 0 < linksE i es → lastN i s es = lastN i t es
  | [], s, t, h => by simp [linksE, tot] at h
  | e :: es, s, t, h => by
    unfold lastN
    rw [List.foldl_cons, List.foldl_cons]
    by_cases he : e.node = i
    · rw [if_pos he, if_pos he]
    · rw [if_neg he, if_neg he]
      rw [linksE_cons] at h
      have : one i e = 0 := by unfold one; rw [if_neg he]
      exact lastN_any i es s t (by omega)
theorem hasE_iff {i : Int} {es : List Ent} : hasE i es = true ↔ 0 < linksE i es := by
  induction es with
  | nil => simp [hasE, linksE, tot]
  | cons e es ih =>
    have h1 : hasE i (e :: es) = ((e.node == i) || hasE i es) := by simp [hasE]
    rw [h1, linksE_cons, Bool.or_eq_true, ih]
    unfold one
    by_cases he : e.node = i
    · rw [if_pos he]; simp [he]; omega
    · rw [if_neg he]; simp [he]
theorem hasE_mem {i : Int} {es : List Ent} : hasE i es = true ↔ ∃ e ∈ es, e.node = i := by simp [hasE]

theorem getD_at {ns : List Nod} {k : Nat} (h : k < ns.length) : ns.getD k ⟨0, 0, 0, 0, 0, [], []⟩ = ns[k] := by simp [List.getD, h]
theorem links_take {ns : List Nod} {k : Nat} (i : Int) (h : k < ns.length) : links i (ns.take (k + 1)) = links i (ns.take k) + linksE i ns[k].list := tot_take _ h
theorem plc_links (ns : List Nod) (i : Int) : ∀ k, k ≤ ns.length → (plc ns k i).links = links i (ns.take k)
  | 0, _ => by simp [plc, pl0, links, tot]
  | k + 1, h => by
    rw [plc, puts_links, plc_links ns i k (by omega), links_take i (by omega), getD_at (by omega)]
theorem plc_none (ns : List Nod) (i : Int) : ∀ k, k ≤ ns.length → links i (ns.take k) = 0 → plc ns k i = pl0
  | 0, _, _ => rfl
  | k + 1, h, h0 => by
    rw [links_take i (by omega)] at h0
    rw [plc, puts_none _ _ _ _ (by rw [getD_at (by omega)]; omega), plc_none ns i k (by omega) (by omega)]
theorem plc_some (ns : List Nod) (i : Int) : ∀ k, k ≤ ns.length → 0 < links i (ns.take k) → ∃ d, ∃ h : d < ns.length, d < k ∧ (plc ns k i).dir = d ∧ 0 < linksE i ns[d].list ∧ (plc ns k i).name = lastN i [] ns[d].list
  | 0, _, h0 => by simp [links, tot] at h0
  | k + 1, h, h0 => by
    by_cases hk : 0 < linksE i (ns[k]'(by omega)).list
    · refine ⟨k, by omega, by omega, ?_, hk, ?_⟩
      · rw [plc]; exact puts_dir _ _ _ _ (by rw [getD_at (by omega)]; exact hk)
      · rw [plc, puts_name, getD_at (by omega)]; exact lastN_any _ _ _ _ hk
    · rw [links_take i (by omega)] at h0
      obtain ⟨d, hd, h1, h2, h3, h4⟩ := plc_some ns i k (by omega) (by omega)
      refine ⟨d, hd, by omega, ?_, h3, ?_⟩
      · rw [plc, puts_none _ _ _ _ (by rw [getD_at (by omega)]; omega)]; exact h2
      · rw [plc, puts_none _ _ _ _ (by rw [getD_at (by omega)]; omega)]; exact h4
theorem take_all (ns : List Nod) : ns.take ns.length = ns := List.take_of_length_le (Nat.le_refl _)

/-- Two places of one node in two directories are two. -/
theorem tot_two {α : Type} (g : α → Nat) {l : List α} {a b : Nat} (hb : b < l.length) (hab : a < b) : g (l[a]'(by omega)) + g l[b] ≤ tot g l := by
  have h1 := tot_take g hb
  have h2 := tot_pre g l (b + 1)
  have h3 := tot_take g (l := l) (k := a) (by omega)
  have h4 := tot_pre g (l.take b) (a + 1)
  rw [List.take_take, Nat.min_eq_left (by omega)] at h4
  omega
theorem one_dir {ns : List Nod} {i : Int} (h : links i ns = 1) {a b : Nat} (ha : a < ns.length) (hb : b < ns.length) (h1 : 0 < linksE i ns[a].list) (h2 : 0 < linksE i ns[b].list) : a = b := by
  rcases Nat.lt_trichotomy a b with hab | hab | hab
  · have h3 := tot_two (fun n : Nod => linksE i n.list) hb hab
    have h4 : tot (fun n : Nod => linksE i n.list) ns = 1 := h
    omega
  · exact hab
  · have h3 := tot_two (fun n : Nod => linksE i n.list) ha hab
    have h4 : tot (fun n : Nod => linksE i n.list) ns = 1 := h
    omega
theorem parent_is {ns : List Nod} {i : Int} (h : links i ns = 1) {d : Nat} (hd : d < ns.length) (h1 : 0 < linksE i ns[d].list) : parentOf i ns = d := by
  unfold parentOf
  rw [findIdx_is (p := fun n => hasE i n.list) hd (hasE_iff.2 h1) (fun j hj hjd => by
    cases hh : hasE i ns[j].list with
    | false => rfl
    | true => exact absurd (one_dir h hj hd (hasE_iff.1 hh) h1) (by omega))]

/-- The way up, n steps. -/
def upN (P : Int → Pl) : Nat → Int → Int
  | 0, i => i
  | n + 1, i => ((P (upN P n i)).dir : Int)
theorem upN_add (P : Int → Pl) (i : Int) (m : Nat) : ∀ n, upN P (n + m) i = upN P n (upN P m i)
  | 0 => by rw [Nat.zero_add]; rfl
  | n + 1 => by
    rw [show n + 1 + m = (n + m) + 1 by omega, upN, upN_add P i m n, upN]
theorem upN_one (P : Int → Pl) (i : Int) (n : Nat) : upN P (n + 1) i = upN P n ((P i).dir : Int) := upN_add P i 1 n
theorem upN_zero {P : Int → Pl} (h : (P 0).dir = 0) : ∀ n, upN P n 0 = 0
  | 0 => rfl
  | n + 1 => by rw [upN, upN_zero h n, h]; rfl

theorem kids_at {ns : List Nod} {d : Nat} (h : d < ns.length) (i : Int) : i ∈ kids ns (d : Int) ↔ 0 < linksE i ns[d].list := by
  rw [← hasE_iff, hasE_mem]
  unfold kids
  rw [show ((d : Int)).toNat = d by simp, getD_at h, List.mem_map]
theorem links_pos {ns : List Nod} {i : Int} {d : Nat} (h : d < ns.length) (h1 : 0 < linksE i ns[d].list) : 0 < links i ns := by
  have h2 := tot_take (fun n : Nod => linksE i n.list) h
  have h3 := tot_pre (fun n : Nod => linksE i n.list) ns (d + 1)
  have h4 : tot (fun n : Nod => linksE i n.list) ns = links i ns := rfl
  omega

def entOkI (count : Int) (es : List Ent) (k : Nat) : Bool :=
  nameB (es.getD k ⟨[], 0⟩).name && (k == 0 || Op.bytesLess (es.getD (k - 1) ⟨[], 0⟩).name (es.getD k ⟨[], 0⟩).name) && inB 0 (count - 1) (es.getD k ⟨[], 0⟩).node
def entsOkI (count : Int) (es : List Ent) : Bool := (List.range es.length).all (entOkI count es)
def nodOkI (count : Int) (x : Nod) : Bool :=
  if x.kind = 0 then x.mode == 0 && (x.uid == 0 && (x.gid == 0 && (x.time == 0 && (x.data.isEmpty && x.list.isEmpty))))
  else inB 0 511 x.mode && (inB 0 99 x.uid && (inB 0 99 x.gid && (inB 0 1000000 x.time &&
    (if x.kind = 1 then decide (x.data.length ≤ 60) && x.list.isEmpty
     else if x.kind = 2 then x.data.isEmpty && entsOkI count x.list
     else x.kind == 3 && (goodB x.data && x.list.isEmpty)))))

theorem entsOk_iff {ns : List Nod} {es : List Ent} : entsOk ns es = true ↔ entsOkI ns.length es = true ∧ ∀ e ∈ es, e.node ≠ 0 ∧ kindAt ns e.node ≠ 0 := by
  unfold entsOk entsOkI
  simp only [List.all_eq_true, List.mem_range]
  constructor
  · intro h
    refine ⟨fun k hk => ?_, fun e he => ?_⟩
    · have := h k hk
      unfold entOk at this
      unfold entOkI
      simp only [Bool.and_eq_true] at this ⊢
      refine ⟨this.1.1, ?_⟩
      have h2 := inB_t this.1.2
      exact (inB_mk (by omega) (by omega)).symm
    · obtain ⟨k, hk, rfl⟩ := List.getElem_of_mem he
      have := h k hk
      unfold entOk at this
      simp only [Bool.and_eq_true, List.getD, hk, List.getElem?_eq_getElem, Option.getD_some] at this
      have h2 := inB_t this.1.2
      refine ⟨by omega, ?_⟩
      have h3 := this.2
      simp at h3
      exact h3
  · rintro ⟨h, h2⟩ k hk
    have h1 := h k hk
    obtain ⟨h3, h4⟩ := h2 es[k] (List.getElem_mem hk)
    unfold entOk
    unfold entOkI at h1
    simp only [Bool.and_eq_true] at h1 ⊢
    have e1 : es.getD k ⟨[], 0⟩ = es[k] := by simp [List.getD, hk]
    rw [e1] at h1 ⊢
    have h5 := inB_t h1.2
    refine ⟨⟨h1.1, (inB_mk (by omega) (by omega)).symm⟩, ?_⟩
    simp [h4]
theorem nodOk_iff {ns : List Nod} {x : Nod} : nodOk ns x = true ↔ nodOkI ns.length x = true ∧ ∀ e ∈ x.list, e.node ≠ 0 ∧ kindAt ns e.node ≠ 0 := by
  unfold nodOk nodOkI
  by_cases h0 : x.kind = 0
  · rw [if_pos h0, if_pos h0]
    constructor
    · intro h
      refine ⟨h, fun e he => ?_⟩
      simp only [Bool.and_eq_true, List.isEmpty_iff] at h
      rw [h.2.2.2.2.2] at he; cases he
    · exact fun h => h.1
  · rw [if_neg h0, if_neg h0]
    by_cases h1 : x.kind = 1
    · rw [if_pos h1, if_pos h1]
      constructor
      · intro h
        refine ⟨h, fun e he => ?_⟩
        simp only [Bool.and_eq_true, List.isEmpty_iff] at h
        rw [h.2.2.2.2.2] at he; cases he
      · exact fun h => h.1
    · rw [if_neg h1, if_neg h1]
      by_cases h2 : x.kind = 2
      · rw [if_pos h2, if_pos h2]
        simp only [Bool.and_eq_true, entsOk_iff, and_assoc]
      · rw [if_neg h2, if_neg h2]
        constructor
        · intro h
          refine ⟨h, fun e he => ?_⟩
          simp only [Bool.and_eq_true, List.isEmpty_iff] at h
          rw [h.2.2.2.2.2.2] at he; cases he
        · exact fun h => h.1
theorem nodOkI_dir {c : Int} {x : Nod} (h : nodOkI c x = true) (hl : x.list ≠ []) : x.kind = 2 ∧ entsOkI c x.list = true := by
  unfold nodOkI at h
  by_cases h0 : x.kind = 0
  · rw [if_pos h0] at h
    simp only [Bool.and_eq_true, List.isEmpty_iff] at h
    exact absurd h.2.2.2.2.2 hl
  · rw [if_neg h0] at h
    by_cases h1 : x.kind = 1
    · rw [if_pos h1] at h
      simp only [Bool.and_eq_true, List.isEmpty_iff] at h
      exact absurd h.2.2.2.2.2 hl
    · rw [if_neg h1] at h
      by_cases h2 : x.kind = 2
      · rw [if_pos h2] at h
        simp only [Bool.and_eq_true] at h
        exact ⟨h2, h.2.2.2.2.2⟩
      · rw [if_neg h2] at h
        simp only [Bool.and_eq_true, List.isEmpty_iff] at h
        exact absurd h.2.2.2.2.2.2 hl
theorem entsOkI_in {c : Int} {es : List Ent} (h : entsOkI c es = true) {e : Ent} (he : e ∈ es) : 0 ≤ e.node ∧ e.node < c := by
  obtain ⟨k, hk, rfl⟩ := List.getElem_of_mem he
  unfold entsOkI at h
  rw [List.all_eq_true] at h
  have h1 := h k (List.mem_range.2 hk)
  unfold entOkI at h1
  simp only [Bool.and_eq_true] at h1
  have e1 : es.getD k ⟨[], 0⟩ = es[k] := by simp [List.getD, hk]
  rw [e1] at h1
  have := inB_t h1.2
  omega
/-- Where all nodes are good each entry leads to a node. -/
theorem leadI {ns : List Nod} (h : ∀ n ∈ ns, nodOkI ns.length n = true) : Lead ns := by
  intro n hn e he
  have h1 := (nodOkI_dir (h n hn) (fun x => by rw [x] at he; cases he)).2
  exact entsOkI_in h1 he

/-- Node k is where it may be. -/
def wellB (ns : List Nod) (P : Int → Pl) (k : Nat) : Bool :=
  if k = 0 ∨ kindAt ns k = 0 then (P k).links == 0
  else if kindAt ns k = 2 then (P k).links == 1 && upN P ns.length k == 0
  else decide (1 ≤ (P k).links)
def placesF (ns : List Nod) : Int → Pl := plc ns ns.length
def GoodI (f : FsD) : Prop :=
  inB 1 40 (f.nodes.length : Int) = true ∧ inB 0 1000 f.room = true ∧ (∀ n ∈ f.nodes, nodOkI f.nodes.length n = true) ∧ kindAt f.nodes 0 = 2 ∧ (∀ k, k < f.nodes.length → wellB f.nodes (placesF f.nodes) k = true) ∧ (sumD f.nodes : Int) ≤ f.room

theorem pl_links (ns : List Nod) (i : Int) : (placesF ns i).links = links i ns := by
  unfold placesF; rw [plc_links ns i _ (Nat.le_refl _), take_all]
theorem pl_none {ns : List Nod} {i : Int} (h : links i ns = 0) : placesF ns i = pl0 := plc_none ns i _ (Nat.le_refl _) (by rw [take_all]; exact h)
theorem pl_some {ns : List Nod} {i : Int} (h : 0 < links i ns) : ∃ d, ∃ h : d < ns.length, (placesF ns i).dir = d ∧ 0 < linksE i ns[d].list ∧ (placesF ns i).name = lastN i [] ns[d].list := by
  obtain ⟨d, h1, _, h2⟩ := plc_some ns i _ (Nat.le_refl _) (by rw [take_all]; exact h)
  exact ⟨d, h1, h2⟩
theorem pl_dir_lt {ns : List Nod} (hn : 0 < ns.length) (i : Int) : (placesF ns i).dir < ns.length := by
  by_cases h : 0 < links i ns
  · obtain ⟨d, hd, e, _⟩ := pl_some h
    rw [e]; exact hd
  · rw [pl_none (by omega)]; exact hn
theorem upN_in {ns : List Nod} (hn : 0 < ns.length) {i : Int} (h0 : 0 ≤ i) (h1 : i < ns.length) : ∀ n, 0 ≤ upN (placesF ns) n i ∧ upN (placesF ns) n i < ns.length
  | 0 => ⟨h0, h1⟩
  | n + 1 => by
    have := pl_dir_lt hn (upN (placesF ns) n i)
    rw [upN]; omega

/-- Where the way up ends at 0 it has ended there before the nodes are used up. -/
theorem upN_short {ns : List Nod} (hn : 0 < ns.length) (hz : (placesF ns 0).dir = 0) {i : Int} (h0 : 0 ≤ i) (h1 : i < ns.length) {m : Nat} (hm : upN (placesF ns) m i = 0) : upN (placesF ns) ns.length i = 0 := by
  obtain ⟨P, hP⟩ : ∃ P, P = placesF ns := ⟨_, rfl⟩
  have hin := upN_in hn h0 h1
  rw [← hP] at hm hz hin ⊢
  have more : ∀ a b, upN P a i = 0 → a ≤ b → upN P b i = 0 := fun a b ha hab => by
    have := upN_add P i a (b - a)
    rw [show b - a + a = b by omega, ha, upN_zero hz] at this
    exact this
  by_cases hfirst : ∃ m, upN P m i = 0 ∧ ∀ j, j < m → upN P j i ≠ 0
  · obtain ⟨m, h2, h3⟩ := hfirst
    have hno : Nums ns.length ((List.range m).map fun j => upN P j i) := by
      refine ⟨?_, fun x hx => ?_⟩
      · rw [List.Nodup, List.pairwise_map]
        refine List.Pairwise.imp_of_mem ?_ (List.pairwise_lt_range (n := m))
        intro a b ha hb hab e
        rw [List.mem_range] at ha hb
        have h4 := upN_add P i a (m - b)
        have h5 := upN_add P i b (m - b)
        rw [← e, ← h4, show m - b + b = m by omega, h2] at h5
        exact h3 (m - b + a) (by omega) h5.symm
      · obtain ⟨j, _, rfl⟩ := List.mem_map.1 hx
        exact hin j
    have := hno.len
    simp at this
    exact more m _ h2 this
  · exfalso
    have all : ∀ k, ∀ j, j < k → upN P j i ≠ 0 := by
      intro k
      induction k with
      | zero => intro j hj; omega
      | succ k ih =>
        intro j hj e
        exact hfirst ⟨j, e, fun a ha => ih a (by omega)⟩
    exact all (m + 1) m (by omega) hm

theorem good_iff (f : FsD) : GoodI f ↔ GoodF f := by
  obtain ⟨ns, room⟩ := f
  constructor
  · rintro ⟨h1, h2, h3, h4, h5, h6⟩
    simp only at h1 h2 h3 h4 h5 h6
    have hn : 0 < ns.length := by have := inB_t h1; omega
    have hlead := leadI h3
    have hw : ∀ k, k < ns.length → (k = 0 ∨ kindAt ns k = 0 → links k ns = 0) ∧ (k ≠ 0 → kindAt ns k = 2 → links k ns = 1 ∧ upN (placesF ns) ns.length k = 0) ∧ (k ≠ 0 → kindAt ns k ≠ 0 → 1 ≤ links k ns) := by
      intro k hk
      have h := h5 k hk
      unfold wellB at h
      rw [pl_links] at h
      by_cases ha : k = 0 ∨ kindAt ns k = 0
      · rw [if_pos ha] at h
        have h7 : links k ns = 0 := by simpa using h
        refine ⟨fun _ => h7, fun hk0 hk2 => ?_, fun hk0 hkk => ?_⟩
        · rcases ha with ha | ha
          · exact absurd ha hk0
          · rw [ha] at hk2; omega
        · rcases ha with ha | ha
          · exact absurd ha hk0
          · exact absurd ha hkk
      · rw [if_neg ha] at h
        refine ⟨fun hb => absurd hb ha, fun hk0 hk2 => ?_, fun hk0 hkk => ?_⟩
        · rw [if_pos hk2] at h
          simpa using h
        · by_cases hk2 : kindAt ns k = 2
          · rw [if_pos hk2] at h
            have : links k ns = 1 := by simp at h; exact h.1
            omega
          · rw [if_neg hk2] at h
            simpa using h
    have hpos : ∀ n ∈ ns, ∀ e ∈ n.list, 0 < links e.node ns := by
      intro n hn e he
      obtain ⟨d, hd, rfl⟩ := List.getElem_of_mem hn
      exact links_pos hd (hasE_iff.1 (hasE_mem.2 ⟨e, he, rfl⟩))
    have hent : ∀ n ∈ ns, ∀ e ∈ n.list, e.node ≠ 0 ∧ kindAt ns e.node ≠ 0 := by
      intro n hn e he
      obtain ⟨l0, l1⟩ := hlead n hn e he
      have hp := hpos n hn e he
      obtain ⟨k, hk⟩ : ∃ k : Nat, e.node = k := ⟨e.node.toNat, by omega⟩
      rw [hk] at l1 hp ⊢
      have hw0 := (hw k (by omega)).1
      refine ⟨fun h => ?_, fun h => ?_⟩
      · have := hw0 (.inl (by omega)); omega
      · have := hw0 (.inr h); omega
    have hnod : ∀ n ∈ ns, nodOk ns n = true := fun n hn => nodOk_iff.2 ⟨h3 n hn, hent n hn⟩
    have h00 : links 0 ns = 0 := (hw 0 hn).1 (.inl rfl)
    -- all that is not free comes from 0
    have climb : ∀ m, ∀ k : Nat, k < ns.length → kindAt ns k ≠ 0 → upN (placesF ns) m k = 0 → Reach ns 0 k := by
      intro m
      induction m with
      | zero =>
        intro k hk _ h
        rw [upN] at h
        rw [h]; exact .refl
      | succ m ih =>
        intro k hk hkk h
        by_cases hk0 : k = 0
        · subst hk0; exact .refl
        · have hl := (hw k hk).2.2 hk0 hkk
          obtain ⟨d, hd, e1, e2, _⟩ := pl_some (ns := ns) (i := k) (by omega)
          rw [upN_one, e1] at h
          have hdir : ns[d].kind = 2 := (nodOkI_dir (h3 _ (List.getElem_mem hd)) (fun x => by rw [x] at e2; simp [linksE, tot] at e2)).1
          have hdk : kindAt ns d = 2 := by rw [← hdir]; simp [kindAt, List.getD, hd]
          exact .step (ih d hd (by omega) h) ((kids_at hd _).2 e2)
    refine ⟨h1, h2, h6, h4, hnod, fun k hk => ⟨fun h => by subst h; exact h00, fun hk0 hk2 => ((hw k hk).2.1 (by omega) hk2).1, fun hkk => ?_⟩⟩
    by_cases hk0 : k = 0
    · subst hk0; exact .refl
    · by_cases hk2 : kindAt ns k = 2
      · exact climb _ k hk hkk ((hw k hk).2.1 hk0 hk2).2
      · have hl := (hw k hk).2.2 hk0 hkk
        obtain ⟨d, hd, e1, e2, _⟩ := pl_some (ns := ns) (i := k) (by omega)
        have hdir : ns[d].kind = 2 := (nodOkI_dir (h3 _ (List.getElem_mem hd)) (fun x => by rw [x] at e2; simp [linksE, tot] at e2)).1
        have hdk : kindAt ns d = 2 := by rw [← hdir]; simp [kindAt, List.getD, hd]
        refine .step (b := d) ?_ ((kids_at hd _).2 e2)
        by_cases hd0 : d = 0
        · subst hd0; exact .refl
        · exact climb _ d hd (by omega) ((hw d hd).2.1 hd0 hdk).2
  · rintro ⟨h1, h2, h3, h4, h5, h6⟩
    simp only at h1 h2 h3 h4 h5 h6
    have hn : 0 < ns.length := by have := inB_t h1; omega
    have h00 : links 0 ns = 0 := (h6 0 hn).1 rfl
    have hz : (placesF ns 0).dir = 0 := by rw [pl_none h00]; rfl
    have hfree : ∀ k : Nat, k < ns.length → kindAt ns k = 0 → links k ns = 0 := by
      intro k hk hkk
      rcases Nat.eq_zero_or_pos (links k ns) with h | h
      · exact h
      · obtain ⟨d, hd, _, e2, _⟩ := pl_some h
        obtain ⟨e, he, hek⟩ := hasE_mem.1 (hasE_iff.2 e2)
        have := ((nodOk_iff.1 (h5 _ (List.getElem_mem hd))).2 e he).2
        rw [hek] at this
        exact absurd hkk this
    have hdirs : ∀ d : Nat, ∀ h : d < ns.length, ns[d].list ≠ [] → kindAt ns d = 2 := by
      intro d hd hl
      have := (nodOkI_dir ((nodOk_iff.1 (h5 _ (List.getElem_mem hd))).1) hl).1
      rw [← this]; simp [kindAt, List.getD, hd]
    have hlead := leadI (ns := ns) (fun n hn => (nodOk_iff.1 (h5 n hn)).1)
    have down : ∀ x, Reach ns 0 x → (x = 0 ∨ links x ns = 1) → ∃ m, upN (placesF ns) m x = 0 := by
      intro x hr
      induction hr with
      | refl => exact fun _ => ⟨0, rfl⟩
      | @step b c hb hc ih =>
        intro hx
        rcases hx with hx | hx
        · subst hx; exact ⟨0, rfl⟩
        · -- b is a directory
          have hbd : ∃ d : Nat, ∃ h : d < ns.length, b = d := by
            cases hb with
            | refl => exact ⟨0, hn, rfl⟩
            | @step b' _ hb' hbk =>
              unfold kids at hbk
              obtain ⟨e, he, heb⟩ := List.mem_map.1 hbk
              have hlt : b'.toNat < ns.length := by
                by_cases hq : b'.toNat < ns.length
                · exact hq
                · have : ns.getD b'.toNat ⟨0, 0, 0, 0, 0, [], []⟩ = ⟨0, 0, 0, 0, 0, [], []⟩ := by simp [List.getD, List.getElem?_eq_none (Nat.le_of_not_lt hq)]
                  rw [this] at he; cases he
              rw [getD_at hlt] at he
              obtain ⟨l0, l1⟩ := hlead _ (List.getElem_mem hlt) e he
              exact ⟨b.toNat, by omega, by omega⟩
          obtain ⟨d, hd, rfl⟩ := hbd
          have e2 := (kids_at hd c).1 hc
          have hdk := hdirs d hd (fun x => by rw [x] at e2; simp [linksE, tot] at e2)
          obtain ⟨d2, hd2, e3, e4, _⟩ := pl_some (ns := ns) (i := c) (by omega)
          have hdd := one_dir hx hd2 hd e4 e2
          subst hdd
          obtain ⟨m, hm⟩ := ih (by
            by_cases hd0 : d2 = 0
            · exact .inl (by omega)
            · exact .inr ((h6 d2 hd).2.1 (by omega) hdk))
          exact ⟨m + 1, by rw [upN_one, e3]; exact hm⟩
    refine ⟨h1, h2, fun n hn => (nodOk_iff.1 (h5 n hn)).1, h4, fun k hk => ?_, h3⟩
    simp only at hk ⊢
    unfold wellB
    rw [pl_links]
    by_cases ha : k = 0 ∨ kindAt ns k = 0
    · rw [if_pos ha]
      rcases ha with ha | ha
      · subst ha; simpa using h00
      · simpa using hfree k hk ha
    · rw [if_neg ha]
      have hk0 : k ≠ 0 := fun h => ha (.inl h)
      have hkk : kindAt ns k ≠ 0 := fun h => ha (.inr h)
      have hreach := (h6 k hk).2.2 hkk
      by_cases hk2 : kindAt ns k = 2
      · rw [if_pos hk2]
        have hl := (h6 k hk).2.1 (by omega) hk2
        obtain ⟨m, hm⟩ := down k hreach (.inr hl)
        have := upN_short hn hz (by omega) (by omega) hm
        simp [hl, this]
      · rw [if_neg hk2]
        cases hreach with
        | refl => exact absurd rfl hk0
        | @step b _ hb hbk =>
          unfold kids at hbk
          obtain ⟨e, he, heb⟩ := List.mem_map.1 hbk
          have hlt : b.toNat < ns.length := by
            by_cases hq : b.toNat < ns.length
            · exact hq
            · have : ns.getD b.toNat ⟨0, 0, 0, 0, 0, [], []⟩ = ⟨0, 0, 0, 0, 0, [], []⟩ := by simp [List.getD, List.getElem?_eq_none (Nat.le_of_not_lt hq)]
              rw [this] at he; cases he
          rw [getD_at hlt] at he
          have := links_pos (i := k) hlt (hasE_iff.1 (hasE_mem.2 ⟨e, he, heb⟩))
          simp; omega
theorem goodF_of {f : FsD} (h : GoodI f) : true = goodF f := goodF_yes ((good_iff f).1 h)
theorem goodF_not {f : FsD} (h : ¬ GoodI f) : false = goodF f := goodF_no (fun x => h ((good_iff f).2 x))
end Go.Proofs.Ytbmbbioanlcioaa
