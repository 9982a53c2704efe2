/-
  Joined: PlcM InoC InoD InoE InoF InoG DeepM.
  Conditions: as each states.
-/
import Derived.Test.YtknhacblialboaaLib3

/-
  Where the nodes of a file system are (in how many entries, in which directory, by which name), as plain data; the program's way to say that a file system is good says the same as the model's.
  Conditions: as each states.
-/
namespace Go.Proofs.Ytknhacblialboaa
open Go.ChangeShapes Go.WideShapes Go.ChangeAt Go.RowKit Go.Joins
set_option linter.unusedVariables false

structure Pl where
  links : Nat
  dir : Nat
  name : List UInt8
def pl0 : Pl := ⟨0, 0, []⟩
/-- One entry of the directory d more. -/
def putP (d : Nat) (P : Int → Pl) (e : Ent) : Int → Pl := fun i => if i = e.node then ⟨(P i).links + 1, d, e.name⟩ else P i
def putsP (d : Nat) (P : Int → Pl) (es : List Ent) : Int → Pl := es.foldl (putP d) P
/-- Behind the first k nodes. -/
def plc (ns : List Nod) : Nat → Int → Pl
  | 0 => fun _ => pl0
  | k + 1 => putsP k (plc ns k) (ns.getD k ⟨0, 0, 0, 0, 0, [], []⟩).list
def lastN (i : Int) (s : List UInt8) (es : List Ent) : List UInt8 := es.foldl (fun s e => if e.node = i then e.name else s) s

theorem putsP_take {d : Nat} {P : Int → Pl} {es : List Ent} {j : Nat} (h : j < es.length) : putsP d P (es.take (j + 1)) = putP d (putsP d P (es.take j)) es[j] := by
  unfold putsP
  rw [List.take_succ_eq_append_getElem h, List.foldl_append]
  rfl
theorem linksE_cons (i : Int) (e : Ent) (es : List Ent) : linksE i (e :: es) = one i e + linksE i es := by simp [linksE, tot]
theorem puts_links (d : Nat) (i : Int) : ∀ (es : List Ent) (P : Int → Pl), (putsP d P es i).links = (P i).links + linksE i es
  | [], P => by simp [putsP, linksE, tot]
  | e :: es, P => by
    have h := puts_links d i es (putP d P e)
    have h1 : putsP d P (e :: es) = putsP d (putP d P e) es := rfl
    rw [h1, h, linksE_cons]
    unfold putP one
    by_cases he : i = e.node
    · rw [if_pos he, if_pos he.symm]; simp; omega
    · rw [if_neg he, if_neg (fun x => he x.symm)]; omega
theorem puts_none (d : Nat) (i : Int) : ∀ (es : List Ent) (P : Int → Pl), linksE i es = 0 → putsP d P es i = P i
  | [], P, _ => rfl
  | e :: es, P, h => by
    rw [linksE_cons] at h
    have h1 : putsP d P (e :: es) = putsP d (putP d P e) es := rfl
    rw [h1, puts_none d i es _ (by omega)]
    have h2 : one i e = 0 := by omega
    unfold one at h2
    have h3 : ¬ e.node = i := fun x => by rw [if_pos x] at h2; omega
    unfold putP
    rw [if_neg (fun x => h3 x.symm)]
theorem puts_dir (d : Nat) (i : Int) : ∀ (es : List Ent) (P : Int → Pl), 0 < linksE i es → (putsP d P es i).dir = d
  | [], P, h => by simp [linksE, tot] at h
  | e :: es, P, h => by
    have h1 : putsP d P (e :: es) = putsP d (putP d P e) es := rfl
    rw [h1]
    by_cases h2 : 0 < linksE i es
    · exact puts_dir d i es _ h2
    · rw [puts_none d i es _ (by omega)]
      rw [linksE_cons] at h
      have h3 : 0 < one i e := by omega
      unfold one at h3
      by_cases he : e.node = i
      · unfold putP; rw [if_pos he.symm]
      · rw [if_neg he] at h3; omega
theorem puts_name (d : Nat) (i : Int) : ∀ (es : List Ent) (P : Int → Pl), (putsP d P es i).name = lastN i (P i).name es
  | [], P => rfl
  | e :: es, P => by
    have h1 : putsP d P (e :: es) = putsP d (putP d P e) es := rfl
    rw [h1, puts_name d i es]
    unfold lastN
    rw [List.foldl_cons]
    unfold putP
    by_cases he : e.node = i
    · rw [if_pos he.symm, if_pos he]
    · rw [if_neg (fun x => he x.symm), if_neg he]
theorem lastN_any (i : Int) : ∀ (es : List Ent) (s t : List UInt8), 0 < linksE i es → lastN i s es = lastN i t es
  | [], s, t, h => by simp [linksE, tot] at h
  | e :: es, s, t, h => by
    unfold lastN
    rw [List.foldl_cons, List.foldl_cons]
    by_cases he : e.node = i
    · rw [if_pos he, if_pos he]
    · rw [if_neg he, if_neg he]
      rw [linksE_cons] at h
      have : one i e = 0 := by unfold one; rw [if_neg he]
      exact lastN_any i es s t (by omega)
theorem hasE_iff {i : Int} {es : List Ent} : hasE i es = true ↔ 0 < linksE i es := by
  induction es with
  | nil => simp [hasE, linksE, tot]
  | cons e es ih =>
    have h1 : hasE i (e :: es) = ((e.node == i) || hasE i es) := by simp [hasE]
    rw [h1, linksE_cons, Bool.or_eq_true, ih]
    unfold one
    by_cases he : e.node = i
    · rw [if_pos he]; simp [he]; omega
    · rw [if_neg he]; simp [he]
theorem hasE_mem {i : Int} {es : List Ent} : hasE i es = true ↔ ∃ e ∈ es, e.node = i := by simp [hasE]

theorem getD_at {ns : List Nod} {k : Nat} (h : k < ns.length) : ns.getD k ⟨0, 0, 0, 0, 0, [], []⟩ = ns[k] := by simp [List.getD, h]
theorem links_take {ns : List Nod} {k : Nat} (i : Int) (h : k < ns.length) : links i (ns.take (k + 1)) = links i (ns.take k) + linksE i ns[k].list := tot_take _ h
theorem plc_links (ns : List Nod) (i : Int) : ∀ k, k ≤ ns.length → (plc ns k i).links = links i (ns.take k)
  | 0, _ => by simp [plc, pl0, links, tot]
  | k + 1, h => by
    rw [plc, puts_links, plc_links ns i k (by omega), links_take i (by omega), getD_at (by omega)]
theorem plc_none (ns : List Nod) (i : Int) : ∀ k, k ≤ ns.length → links i (ns.take k) = 0 → plc ns k i = pl0
  | 0, _, _ => rfl
  | k + 1, h, h0 => by
    rw [links_take i (by omega)] at h0
    rw [plc, puts_none _ _ _ _ (by rw [getD_at (by omega)]; omega), plc_none ns i k (by omega) (by omega)]
theorem plc_some (ns : List Nod) (i : Int) : ∀ k, k ≤ ns.length → 0 < links i (ns.take k) → ∃ d, ∃ h : d < ns.length, d < k ∧ (plc ns k i).dir = d ∧ 0 < linksE i ns[d].list ∧ (plc ns k i).name = lastN i [] ns[d].list
  | 0, _, h0 => by simp [links, tot] at h0
  | k + 1, h, h0 => by
    by_cases hk : 0 < linksE i (ns[k]'(by omega)).list
    · refine ⟨k, by omega, by omega, ?_, hk, ?_⟩
      · rw [plc]; exact puts_dir _ _ _ _ (by rw [getD_at (by omega)]; exact hk)
      · rw [plc, puts_name, getD_at (by omega)]; exact lastN_any _ _ _ _ hk
    · rw [links_take i (by omega)] at h0
      obtain ⟨d, hd, h1, h2, h3, h4⟩ := plc_some ns i k (by omega) (by omega)
      refine ⟨d, hd, by omega, ?_, h3, ?_⟩
      · rw [plc, puts_none _ _ _ _ (by rw [getD_at (by omega)]; omega)]; exact h2
      · rw [plc, puts_none _ _ _ _ (by rw [getD_at (by omega)]; omega)]; exact h4
theorem take_all (ns : List Nod) : ns.take ns.length = ns := List.take_of_length_le (Nat.le_refl _)

/-- Two places of one node in two directories are two. -/
theorem tot_two {α : Type} (g : α → Nat) {l : List α} {a b : Nat} (hb : b < l.length) (hab : a < b) : g (l[a]'(by omega)) + g l[b] ≤ tot g l := by
  have h1 := tot_take g hb
  have h2 := tot_pre g l (b + 1)
  have h3 := tot_take g (l := l) (k := a) (by omega)
  have h4 := tot_pre g (l.take b) (a + 1)
  rw [List.take_take, Nat.min_eq_left (by omega)] at h4
  omega
theorem one_dir {ns : List Nod} {i : Int} (h : links i ns = 1) {a b : Nat} (ha : a < ns.length) (hb : b < ns.length) (h1 : 0 < linksE i ns[a].list) (h2 : 0 < linksE i ns[b].list) : a = b := by
  rcases Nat.lt_trichotomy a b with hab | hab | hab
  · have h3 := tot_two (fun n : Nod => linksE i n.list) hb hab
    have h4 : tot (fun n : Nod => linksE i n.list) ns = 1 := h
    omega
  · exact hab
  · have h3 := tot_two (fun n : Nod => linksE i n.list) ha hab
    have h4 : tot (fun n : Nod => linksE i n.list) ns = 1 := h
    omega
theorem parent_is {ns : List Nod} {i : Int} (h : links i ns = 1) {d : Nat} (hd : d < ns.length) (h1 : 0 < linksE i ns[d].list) : parentOf i ns = d := by
  unfold parentOf
  rw [findIdx_is (p := fun n => hasE i n.list) hd (hasE_iff.2 h1) (fun j hj hjd => by
    cases hh : hasE i ns[j].list with
    | false => rfl
    | true => exact absurd (one_dir h hj hd (hasE_iff.1 hh) h1) (by omega))]

/-- The way up, n steps. -/
def upN (P : Int → Pl) : Nat → Int → Int
  | 0, i => i
  | n + 1, i => ((P (upN P n i)).dir : Int)
theorem upN_add (P : Int → Pl) (i : Int) (m : Nat) : ∀ n, upN P (n + m) i = upN P n (upN P m i)
  | 0 => by rw [Nat.zero_add]; rfl
  | n + 1 => by
    rw [show n + 1 + m = (n + m) + 1 by omega, upN, upN_add P i m n, upN]
theorem upN_one (P : Int → Pl) (i : Int) (n : Nat) : upN P (n + 1) i = upN P n ((P i).dir : Int) := upN_add P i 1 n
theorem upN_zero {P : Int → Pl} (h : (P 0).dir = 0) : ∀ n, upN P n 0 = 0
  | 0 => rfl
  | n + 1 => by rw [upN, upN_zero h n, h]; rfl

theorem kids_at {ns : List Nod} {d : Nat} (h : d < ns.length) (i : Int) : i ∈ kids ns (d : Int) ↔ 0 < linksE i ns[d].list := by
  rw [← hasE_iff, hasE_mem]
  unfold kids
  rw [show ((d : Int)).toNat = d by simp, getD_at h, List.mem_map]
theorem links_pos {ns : List Nod} {i : Int} {d : Nat} (h : d < ns.length) (h1 : 0 < linksE i ns[d].list) : 0 < links i ns := by
  have h2 := tot_take (fun n : Nod => linksE i n.list) h
  have h3 := tot_pre (fun n : Nod => linksE i n.list) ns (d + 1)
  have h4 : tot (fun n : Nod => linksE i n.list) ns = links i ns := rfl
  omega

def entOkI (count : Int) (es : List Ent) (k : Nat) : Bool :=
  nameB (es.getD k ⟨[], 0⟩).name && (k == 0 || Op.bytesLess (es.getD (k - 1) ⟨[], 0⟩).name (es.getD k ⟨[], 0⟩).name) && inB 0 (count - 1) (es.getD k ⟨[], 0⟩).node
def entsOkI (count : Int) (es : List Ent) : Bool := (List.range es.length).all (entOkI count es)
def nodOkI (count : Int) (x : Nod) : Bool :=
  if x.kind = 0 then x.mode == 0 && (x.uid == 0 && (x.gid == 0 && (x.time == 0 && (x.data.isEmpty && x.list.isEmpty))))
  else inB 0 511 x.mode && (inB 0 99 x.uid && (inB 0 99 x.gid && (inB 0 1000000 x.time &&
    (if x.kind = 1 then decide (x.data.length ≤ 60) && x.list.isEmpty
     else if x.kind = 2 then x.data.isEmpty && entsOkI count x.list
     else x.kind == 3 && (goodB x.data && x.list.isEmpty)))))

theorem entsOk_iff {ns : List Nod} {es : List Ent} : entsOk ns es = true ↔ entsOkI ns.length es = true ∧ ∀ e ∈ es, e.node ≠ 0 ∧ kindAt ns e.node ≠ 0 := by
  unfold entsOk entsOkI
  simp only [List.all_eq_true, List.mem_range]
  constructor
  · intro h
    refine ⟨fun k hk => ?_, fun e he => ?_⟩
    · have := h k hk
      unfold entOk at this
      unfold entOkI
      simp only [Bool.and_eq_true] at this ⊢
      refine ⟨this.1.1, ?_⟩
      have h2 := inB_t this.1.2
      exact (inB_mk (by omega) (by omega)).symm
    · obtain ⟨k, hk, rfl⟩ := List.getElem_of_mem he
      have := h k hk
      unfold entOk at this
      simp only [Bool.and_eq_true, List.getD, hk, List.getElem?_eq_getElem, Option.getD_some] at this
      have h2 := inB_t this.1.2
      refine ⟨by omega, ?_⟩
      have h3 := this.2
      simp at h3
      exact h3
  · rintro ⟨h, h2⟩ k hk
    have h1 := h k hk
    obtain ⟨h3, h4⟩ := h2 es[k] (List.getElem_mem hk)
    unfold entOk
    unfold entOkI at h1
    simp only [Bool.and_eq_true] at h1 ⊢
    have e1 : es.getD k ⟨[], 0⟩ = es[k] := by simp [List.getD, hk]
    rw [e1] at h1 ⊢
    have h5 := inB_t h1.2
    refine ⟨⟨h1.1, (inB_mk (by omega) (by omega)).symm⟩, ?_⟩
    simp [h4]
theorem nodOk_iff {ns : List Nod} {x : Nod} : nodOk ns x = true ↔ nodOkI ns.length x = true ∧ ∀ e ∈ x.list, e.node ≠ 0 ∧ kindAt ns e.node ≠ 0 := by
  unfold nodOk nodOkI
  by_cases h0 : x.kind = 0
  · rw [if_pos h0, if_pos h0]
    constructor
    · intro h
      refine ⟨h, fun e he => ?_⟩
      simp only [Bool.and_eq_true, List.isEmpty_iff] at h
      rw [h.2.2.2.2.2] at he; cases he
    · exact fun h => h.1
  · rw [if_neg h0, if_neg h0]
    by_cases h1 : x.kind = 1
    · rw [if_pos h1, if_pos h1]
      constructor
      · intro h
        refine ⟨h, fun e he => ?_⟩
        simp only [Bool.and_eq_true, List.isEmpty_iff] at h
        rw [h.2.2.2.2.2] at he; cases he
      · exact fun h => h.1
    · rw [if_neg h1, if_neg h1]
      by_cases h2 : x.kind = 2
      · rw [if_pos h2, if_pos h2]
        simp only [Bool.and_eq_true, entsOk_iff, and_assoc]
      · rw [if_neg h2, if_neg h2]
        constructor
        · intro h
          refine ⟨h, fun e he => ?_⟩
          simp only [Bool.and_eq_true, List.isEmpty_iff] at h
          rw [h.2.2.2.2.2.2] at he; cases he
        · exact fun h => h.1
theorem nodOkI_dir {c : Int} {x : Nod} (h : nodOkI c x = true) (hl : x.list ≠ []) : x.kind = 2 ∧ entsOkI c x.list = true := by
  unfold nodOkI at h
  by_cases h0 : x.kind = 0
  · rw [if_pos h0] at h
    simp only [Bool.and_eq_true, List.isEmpty_iff] at h
    exact absurd h.2.2.2.2.2 hl
  · rw [if_neg h0] at h
    by_cases h1 : x.kind = 1
    · rw [if_pos h1] at h
      simp only [Bool.and_eq_true, List.isEmpty_iff] at h
      exact absurd h.2.2.2.2.2 hl
    · rw [if_neg h1] at h
      by_cases h2 : x.kind = 2
      · rw [if_pos h2] at h
        simp only [Bool.and_eq_true] at h
        exact ⟨h2, h.2.2.2.2.2⟩
      · rw [if_neg h2] at h
        simp only [Bool.and_eq_true, List.isEmpty_iff] at h
        exact absurd h.2.2.2.2.2.2 hl
theorem entsOkI_in {c : Int} {es : List Ent} (h : entsOkI c es = true) {e : Ent} (he : e ∈ es) : 0 ≤ e.node ∧ e.node < c := by
  obtain ⟨k, hk, rfl⟩ := List.getElem_of_mem he
  unfold entsOkI at h
  rw [List.all_eq_true] at h
  have h1 := h k (List.mem_range.2 hk)
  unfold entOkI at h1
  simp only [Bool.and_eq_true] at h1
  have e1 : es.getD k ⟨[], 0⟩ = es[k] := by simp [List.getD, hk]
  rw [e1] at h1
  have := inB_t h1.2
  omega
/-- Where all nodes are good each entry leads to a node. -/
theorem leadI {ns : List Nod} (h : ∀ n ∈ ns, nodOkI ns.length n = true) : Lead ns := by
  intro n hn e he
  have h1 := (nodOkI_dir (h n hn) (fun x => by rw [x] at he; cases he)).2
  exact entsOkI_in h1 he

/-- Node k is where it may be. -/
def wellB (ns : List Nod) (P : Int → Pl) (k : Nat) : Bool :=
  if k = 0 ∨ kindAt ns k = 0 then (P k).links == 0
  else if kindAt ns k = 2 then (P k).links == 1 && upN P ns.length k == 0
  else decide (1 ≤ (P k).links)
def placesF (ns : List Nod) : Int → Pl := plc ns ns.length
def GoodI (f : FsD) : Prop :=
  inB 1 40 (f.nodes.length : Int) = true ∧ inB 0 1000 f.room = true ∧ (∀ n ∈ f.nodes, nodOkI f.nodes.length n = true) ∧ kindAt f.nodes 0 = 2 ∧ (∀ k, k < f.nodes.length → wellB f.nodes (placesF f.nodes) k = true) ∧ (sumD f.nodes : Int) ≤ f.room

theorem pl_links (ns : List Nod) (i : Int) : (placesF ns i).links = links i ns := by
  unfold placesF; rw [plc_links ns i _ (Nat.le_refl _), take_all]
theorem pl_none {ns : List Nod} {i : Int} (h : links i ns = 0) : placesF ns i = pl0 := plc_none ns i _ (Nat.le_refl _) (by rw [take_all]; exact h)
theorem pl_some {ns : List Nod} {i : Int} (h : 0 < links i ns) : ∃ d, ∃ h : d < ns.length, (placesF ns i).dir = d ∧ 0 < linksE i ns[d].list ∧ (placesF ns i).name = lastN i [] ns[d].list := by
  obtain ⟨d, h1, _, h2⟩ := plc_some ns i _ (Nat.le_refl _) (by rw [take_all]; exact h)
  exact ⟨d, h1, h2⟩
theorem pl_dir_lt {ns : List Nod} (hn : 0 < ns.length) (i : Int) : (placesF ns i).dir < ns.length := by
  by_cases h : 0 < links i ns
  · obtain ⟨d, hd, e, _⟩ := pl_some h
    rw [e]; exact hd
  · rw [pl_none (by omega)]; exact hn
theorem upN_in {ns : List Nod} (hn : 0 < ns.length) {i : Int} (h0 : 0 ≤ i) (h1 : i < ns.length) : ∀ n, 0 ≤ upN (placesF ns) n i ∧ upN (placesF ns) n i < ns.length
  | 0 => ⟨h0, h1⟩
  | n + 1 => by
    have := pl_dir_lt hn (upN (placesF ns) n i)
    rw [upN]; omega

/-- Where the way up ends at 0 it has ended there before the nodes are used up. -/
theorem upN_short {ns : List Nod} (hn : 0 < ns.length) (hz : (placesF ns 0).dir = 0) {i : Int} (h0 : 0 ≤ i) (h1 : i < ns.length) {m : Nat} (hm : upN (placesF ns) m i = 0) : upN (placesF ns) ns.length i = 0 := by
  obtain ⟨P, hP⟩ : ∃ P, P = placesF ns := ⟨_, rfl⟩
  have hin := upN_in hn h0 h1
  rw [← hP] at hm hz hin ⊢
  have more : ∀ a b, upN P a i = 0 → a ≤ b → upN P b i = 0 := fun a b ha hab => by
    have := upN_add P i a (b - a)
    rw [show b - a + a = b by omega, ha, upN_zero hz] at this
    exact this
  by_cases hfirst : ∃ m, upN P m i = 0 ∧ ∀ j, j < m → upN P j i ≠ 0
  · obtain ⟨m, h2, h3⟩ := hfirst
    have hno : Nums ns.length ((List.range m).map fun j => upN P j i) := by
      refine ⟨?_, fun x hx => ?_⟩
      · rw [List.Nodup, List.pairwise_map]
        refine List.Pairwise.imp_of_mem ?_ (List.pairwise_lt_range (n := m))
        intro a b ha hb hab e
        rw [List.mem_range] at ha hb
        have h4 := upN_add P i a (m - b)
        have h5 := upN_add P i b (m - b)
        rw [← e, ← h4, show m - b + b = m by omega, h2] at h5
        exact h3 (m - b + a) (by omega) h5.symm
      · obtain ⟨j, _, rfl⟩ := List.mem_map.1 hx
        exact hin j
    have := hno.len
    simp at this
    exact more m _ h2 this
  · exfalso
    have all : ∀ k, ∀ j, j < k → upN P j i ≠ 0 := by
      intro k
      induction k with
      | zero => intro j hj; omega
      | succ k ih =>
        intro j hj e
        exact hfirst ⟨j, e, fun a ha => ih a (by omega)⟩
    exact all (m + 1) m (by omega) hm

theorem good_iff (f : FsD) : GoodI f ↔ GoodF f := by
  obtain ⟨ns, room⟩ := f
  constructor
  · rintro ⟨h1, h2, h3, h4, h5, h6⟩
    simp only at h1 h2 h3 h4 h5 h6
    have hn : 0 < ns.length := by have := inB_t h1; omega
    have hlead := leadI h3
    have hw : ∀ k, k < ns.length → (k = 0 ∨ kindAt ns k = 0 → links k ns = 0) ∧ (k ≠ 0 → kindAt ns k = 2 → links k ns = 1 ∧ upN (placesF ns) ns.length k = 0) ∧ (k ≠ 0 → kindAt ns k ≠ 0 → 1 ≤ links k ns) := by
      intro k hk
      have h := h5 k hk
      unfold wellB at h
      rw [pl_links] at h
      by_cases ha : k = 0 ∨ kindAt ns k = 0
      · rw [if_pos ha] at h
        have h7 : links k ns = 0 := by simpa using h
        refine ⟨fun _ => h7, fun hk0 hk2 => ?_, fun hk0 hkk => ?_⟩
        · rcases ha with ha | ha
          · exact absurd ha hk0
          · rw [ha] at hk2; omega
        · rcases ha with ha | ha
          · exact absurd ha hk0
          · exact absurd ha hkk
      · rw [if_neg ha] at h
        refine ⟨fun hb => absurd hb ha, fun hk0 hk2 => ?_, fun hk0 hkk => ?_⟩
        · rw [if_pos hk2] at h
          simpa using h
        · by_cases hk2 : kindAt ns k = 2
          · rw [if_pos hk2] at h
            have : links k ns = 1 := by simp at h; exact h.1
            omega
          · rw [if_neg hk2] at h
            simpa using h
    have hpos : ∀ n ∈ ns, ∀ e ∈ n.list, 0 < links e.node ns := by
      intro n hn e he
      obtain ⟨d, hd, rfl⟩ := List.getElem_of_mem hn
      exact links_pos hd (hasE_iff.1 (hasE_mem.2 ⟨e, he, rfl⟩))
    have hent : ∀ n ∈ ns, ∀ e ∈ n.list, e.node ≠ 0 ∧ kindAt ns e.node ≠ 0 := by
      intro n hn e he
      obtain ⟨l0, l1⟩ := hlead n hn e he
      have hp := hpos n hn e he
      obtain ⟨k, hk⟩ : ∃ k : Nat, e.node = k := ⟨e.node.toNat, by omega⟩
      rw [hk] at l1 hp ⊢
      have hw0 := (hw k (by omega)).1
      refine ⟨fun h => ?_, fun h => ?_⟩
      · have := hw0 (.inl (by omega)); omega
      · have := hw0 (.inr h); omega
    have hnod : ∀ n ∈ ns, nodOk ns n = true := fun n hn => nodOk_iff.2 ⟨h3 n hn, hent n hn⟩
    have h00 : links 0 ns = 0 := (hw 0 hn).1 (.inl rfl)
    -- all that is not free comes from 0
    have climb : ∀ m, ∀ k : Nat, k < ns.length → kindAt ns k ≠ 0 → upN (placesF ns) m k = 0 → Reach ns 0 k := by
      intro m
      induction m with
      | zero =>
        intro k hk _ h
        rw [upN] at h
        rw [h]; exact .refl
      | succ m ih =>
        intro k hk hkk h
        by_cases hk0 : k = 0
        · subst hk0; exact .refl
        · have hl := (hw k hk).2.2 hk0 hkk
          obtain ⟨d, hd, e1, e2, _⟩ := pl_some (ns := ns) (i := k) (by omega)
          rw [upN_one, e1] at h
          have hdir : ns[d].kind = 2 := (nodOkI_dir (h3 _ (List.getElem_mem hd)) (fun x => by rw [x] at e2; simp [linksE, tot] at e2)).1
          have hdk : kindAt ns d = 2 := by rw [← hdir]; simp [kindAt, List.getD, hd]
          exact .step (ih d hd (by omega) h) ((kids_at hd _).2 e2)
    refine ⟨h1, h2, h6, h4, hnod, fun k hk => ⟨fun h => by subst h; exact h00, fun hk0 hk2 => ((hw k hk).2.1 (by omega) hk2).1, fun hkk => ?_⟩⟩
    by_cases hk0 : k = 0
    · subst hk0; exact .refl
    · by_cases hk2 : kindAt ns k = 2
      · exact climb _ k hk hkk ((hw k hk).2.1 hk0 hk2).2
      · have hl := (hw k hk).2.2 hk0 hkk
        obtain ⟨d, hd, e1, e2, _⟩ := pl_some (ns := ns) (i := k) (by omega)
        have hdir : ns[d].kind = 2 := (nodOkI_dir (h3 _ (List.getElem_mem hd)) (fun x => by rw [x] at e2; simp [linksE, tot] at e2)).1
        have hdk : kindAt ns d = 2 := by rw [← hdir]; simp [kindAt, List.getD, hd]
        refine .step (b := d) ?_ ((kids_at hd _).2 e2)
        by_cases hd0 : d = 0
        · subst hd0; exact .refl
        · exact climb _ d hd (by omega) ((hw d hd).2.1 hd0 hdk).2
  · rintro ⟨h1, h2, h3, h4, h5, h6⟩
    simp only at h1 h2 h3 h4 h5 h6
    have hn : 0 < ns.length := by have := inB_t h1; omega
    have h00 : links 0 ns = 0 := (h6 0 hn).1 rfl
    have hz : (placesF ns 0).dir = 0 := by rw [pl_none h00]; rfl
    have hfree : ∀ k : Nat, k < ns.length → kindAt ns k = 0 → links k ns = 0 := by
      intro k hk hkk
      rcases Nat.eq_zero_or_pos (links k ns) with h | h
      · exact h
      · obtain ⟨d, hd, _, e2, _⟩ := pl_some h
        obtain ⟨e, he, hek⟩ := hasE_mem.1 (hasE_iff.2 e2)
        have := ((nodOk_iff.1 (h5 _ (List.getElem_mem hd))).2 e he).2
        rw [hek] at this
        exact absurd hkk this
    have hdirs : ∀ d : Nat, ∀ h : d < ns.length, ns[d].list ≠ [] → kindAt ns d = 2 := by
      intro d hd hl
      have := (nodOkI_dir ((nodOk_iff.1 (h5 _ (List.getElem_mem hd))).1) hl).1
      rw [← this]; simp [kindAt, List.getD, hd]
    have hlead := leadI (ns := ns) (fun n hn => (nodOk_iff.1 (h5 n hn)).1)
    have down : ∀ x, Reach ns 0 x → (x = 0 ∨ links x ns = 1) → ∃ m, upN (placesF ns) m x = 0 := by
      intro x hr
      induction hr with
      | refl => exact fun _ => ⟨0, rfl⟩
      | @step b c hb hc ih =>
        intro hx
        rcases hx with hx | hx
        · subst hx; exact ⟨0, rfl⟩
        · -- b is a directory
          have hbd : ∃ d : Nat, ∃ h : d < ns.length, b = d := by
            cases hb with
            | refl => exact ⟨0, hn, rfl⟩
            | @step b' _ hb' hbk =>
              unfold kids at hbk
              obtain ⟨e, he, heb⟩ := List.mem_map.1 hbk
              have hlt : b'.toNat < ns.length := by
                by_cases hq : b'.toNat < ns.length
                · exact hq
                · have : ns.getD b'.toNat ⟨0, 0, 0, 0, 0, [], []⟩ = ⟨0, 0, 0, 0, 0, [], []⟩ := by simp [List.getD, List.getElem?_eq_none (Nat.le_of_not_lt hq)]
                  rw [this] at he; cases he
              rw [getD_at hlt] at he
              obtain ⟨l0, l1⟩ := hlead _ (List.getElem_mem hlt) e he
              exact ⟨b.toNat, by omega, by omega⟩
          obtain ⟨d, hd, rfl⟩ := hbd
          have e2 := (kids_at hd c).1 hc
          have hdk := hdirs d hd (fun x => by rw [x] at e2; simp [linksE, tot] at e2)
          obtain ⟨d2, hd2, e3, e4, _⟩ := pl_some (ns := ns) (i := c) (by omega)
          have hdd := one_dir hx hd2 hd e4 e2
          subst hdd
          obtain ⟨m, hm⟩ := ih (by
            by_cases hd0 : d2 = 0
            · exact .inl (by omega)
            · exact .inr ((h6 d2 hd).2.1 (by omega) hdk))
          exact ⟨m + 1, by rw [upN_one, e3]; exact hm⟩
    refine ⟨h1, h2, fun n hn => (nodOk_iff.1 (h5 n hn)).1, h4, fun k hk => ?_, h3⟩
    simp only at hk ⊢
    unfold wellB
    rw [pl_links]
    by_cases ha : k = 0 ∨ kindAt ns k = 0
    · rw [if_pos ha]
      rcases ha with ha | ha
      · subst ha; simpa using h00
      · simpa using hfree k hk ha
    · rw [if_neg ha]
      have hk0 : k ≠ 0 := fun h => ha (.inl h)
      have hkk : kindAt ns k ≠ 0 := fun h => ha (.inr h)
      have hreach := (h6 k hk).2.2 hkk
      by_cases hk2 : kindAt ns k = 2
      · rw [if_pos hk2]
        have hl := (h6 k hk).2.1 (by omega) hk2
        obtain ⟨m, hm⟩ := down k hreach (.inr hl)
        have := upN_short hn hz (by omega) (by omega) hm
        simp [hl, this]
      · rw [if_neg hk2]
        cases hreach with
        | refl => exact absurd rfl hk0
        | @step b _ hb hbk =>
          unfold kids at hbk
          obtain ⟨e, he, heb⟩ := List.mem_map.1 hbk
          have hlt : b.toNat < ns.length := by
            by_cases hq : b.toNat < ns.length
            · exact hq
            · have : ns.getD b.toNat ⟨0, 0, 0, 0, 0, [], []⟩ = ⟨0, 0, 0, 0, 0, [], []⟩ := by simp [List.getD, List.getElem?_eq_none (Nat.le_of_not_lt hq)]
              rw [this] at he; cases he
          rw [getD_at hlt] at he
          have := links_pos (i := k) hlt (hasE_iff.1 (hasE_mem.2 ⟨e, he, heb⟩))
          simp; omega
theorem goodF_of {f : FsD} (h : GoodI f) : true = goodF f := goodF_yes ((good_iff f).1 h)
theorem goodF_not {f : FsD} (h : ¬ GoodI f) : false = goodF f := goodF_no (fun x => h ((good_iff f).2 x))
end Go.Proofs.Ytknhacblialboaa


/-
  Contracts of the other kinds' isGood and of isGoodNode.
  Conditions: the node's cells read as plain data; a list of at most 2^20 entries.
-/
namespace Go.Proofs.Ytknhacblialboaa
open Go.ChangeShapes Go.WideShapes Go.ChangeAt Go.RowKit Go.Joins
set_option linter.unusedVariables false
set_option linter.unusedSimpArgs false

theorem goodPath_is {l : List UInt8} {b : Bool} (h : goodB l = b) (s : ByteArray) (hs : s = bs l) (hm : l.length ≤ maxLen) (w : World) : Calls Try.prog 170 #[.string s] w fun e w' => e = .returned (.bool b) ∧ Below w.heap.size w w' :=
  (goodPath_any s w (by rw [hs, bs_size]; exact hm)).mono fun e w' ⟨h1, h2⟩ => ⟨by rw [h1, hs, ← h]; simp [bs], h2⟩

set_option maxHeartbeats 2000000 in
theorem fileGood_any (q : Nod) (lv : Value) (g p : Nat) (cn : Int) (w : World) (hg : g < w.heap.size) (hc : NodC w g p lv q) (hE : EntsA w lv q.list) (hd : q.data.length ≤ 1048576) : Calls Try.prog 160 #[.agg #[.pointer (some ⟨g, p, none⟩)], .int .i64 cn] w fun e w' => e = .returned (.bool (attrB q && (decide (q.data.length ≤ 60) && q.list.isEmpty))) ∧ Below w.heap.size w w' := by
  have hb0 : Below w.heap.size w (w.alloc (.cells #[.pointer (some ⟨g, p, none⟩)] 166)) := (Below.refl _ _).alloc (Nat.le_refl _) _
  have HB0 := Lib.hid hb0
  have HK0 := Lib.hid (heap_alloc_new w (.cells #[.pointer (some ⟨g, p, none⟩)] 166))
  have HC := Lib.hid hc
  have HE := Lib.hid hE
  clear hb0 hc hE
  have HZ : Hid ((bs q.data).size = q.data.length) := Lib.hid (bs_size _)
  obtain ⟨x, hx⟩ : ∃ x, x = bs q.data := ⟨_, rfl⟩
  have HX := Lib.hid hx
  rw [← hx] at HZ
  clear hx
  by_cases h1 : attrB q = true
  · have H1 := Lib.hid h1
    by_cases h2 : q.data.length ≤ 60
    · have HF : Hid ((attrB q && (decide (q.data.length ≤ 60) && q.list.isEmpty)) = q.list.isEmpty) := Lib.hid (by rw [h1]; simp [h2])
      have h3 : x.size ≤ 60 := by rw [HZ.out]; exact h2
      clear h1 h2
      go_enter Try.func160, Try.ntmps160
      go_wp2_with fail
      refine (hasAttr_any q _ g p _ (Nat.lt_of_lt_of_le hg HB0.out.size) (HC.out.below HB0.out hg)).mono ?_
      rintro e w1 ⟨rfl, hb1⟩
      rw [H1.out]
      have HB1 := Lib.hid (HB0.out.trans (hb1.mono HB0.out.size))
      have HK1 := Lib.hid ((hb1.block w.heap.size (lt_of_heap HK0.out)).trans HK0.out)
      have x1c0 := (cell_blk HK1.out 0).trans rfl
      clear hb1
      have d5 := (HB1.out.cell (p := ⟨g, p + 5, none⟩) hg).trans HC.out.c5
      rw [← HX.out] at d5
      go_wp2_with fail
      refine (hasList_any q _ g p _ (Nat.lt_of_lt_of_le hg HB1.out.size) (HC.out.below HB1.out hg) (HE.out.below HB1.out)).mono ?_
      rintro e w2 ⟨rfl, hb2⟩
      have HB2 := Lib.hid (HB1.out.trans (hb2.mono HB1.out.size))
      have HK2 := Lib.hid ((hb2.block w.heap.size (lt_of_heap HK1.out)).trans HK1.out)
      have x2c0 := (cell_blk HK2.out 0).trans rfl
      clear hb2
      go_wp2
      go_ret
      exact ⟨ret_bool (by rw [HF.out]; try simp), HB2.out⟩
    · have HF : Hid ((attrB q && (decide (q.data.length ≤ 60) && q.list.isEmpty)) = false) := Lib.hid (by simp [h2])
      have h3 : ¬ x.size ≤ 60 := by rw [HZ.out]; exact h2
      have h4 : x.size ≤ 1048576 := by rw [HZ.out]; exact hd
      clear h1 h2
      go_enter Try.func160, Try.ntmps160
      go_wp2_with fail
      refine (hasAttr_any q _ g p _ (Nat.lt_of_lt_of_le hg HB0.out.size) (HC.out.below HB0.out hg)).mono ?_
      rintro e w1 ⟨rfl, hb1⟩
      rw [H1.out]
      have HB1 := Lib.hid (HB0.out.trans (hb1.mono HB0.out.size))
      have HK1 := Lib.hid ((hb1.block w.heap.size (lt_of_heap HK0.out)).trans HK0.out)
      have x1c0 := (cell_blk HK1.out 0).trans rfl
      clear hb1
      have d5 := (HB1.out.cell (p := ⟨g, p + 5, none⟩) hg).trans HC.out.c5
      rw [← HX.out] at d5
      go_wp2
      go_ret
      exact ⟨ret_bool HF.out.symm, HB1.out⟩
  · have H1 : Hid (attrB q = false) := Lib.hid (by simpa using h1)
    have HF : Hid ((attrB q && (decide (q.data.length ≤ 60) && q.list.isEmpty)) = false) := Lib.hid (by rw [H1.out]; rfl)
    clear h1
    go_enter Try.func160, Try.ntmps160
    go_wp2_with fail
    refine (hasAttr_any q _ g p _ (Nat.lt_of_lt_of_le hg HB0.out.size) (HC.out.below HB0.out hg)).mono ?_
    rintro e w1 ⟨rfl, hb1⟩
    rw [H1.out]
    have HB1 := Lib.hid (HB0.out.trans (hb1.mono HB0.out.size))
    have HK1 := Lib.hid ((hb1.block w.heap.size (lt_of_heap HK0.out)).trans HK0.out)
    have x1c0 := (cell_blk HK1.out 0).trans rfl
    clear hb1
    go_wp2
    go_ret
    exact ⟨ret_bool HF.out.symm, HB1.out⟩

set_option maxHeartbeats 2000000 in
theorem linkGood_any (q : Nod) (lv : Value) (g p : Nat) (cn : Int) (w : World) (hg : g < w.heap.size) (hc : NodC w g p lv q) (hE : EntsA w lv q.list) (hm : q.data.length ≤ maxLen) : Calls Try.prog 169 #[.agg #[.pointer (some ⟨g, p, none⟩)], .int .i64 cn] w fun e w' => e = .returned (.bool (attrB q && (goodB q.data && q.list.isEmpty))) ∧ Below w.heap.size w w' := by
  have hb0 : Below w.heap.size w (w.alloc (.cells #[.pointer (some ⟨g, p, none⟩)] 168)) := (Below.refl _ _).alloc (Nat.le_refl _) _
  have HB0 := Lib.hid hb0
  have HK0 := Lib.hid (heap_alloc_new w (.cells #[.pointer (some ⟨g, p, none⟩)] 168))
  have HC := Lib.hid hc
  have HE := Lib.hid hE
  clear hb0 hc hE
  obtain ⟨x, hx⟩ : ∃ x, x = bs q.data := ⟨_, rfl⟩
  have HX := Lib.hid hx
  clear hx
  by_cases h1 : attrB q = true
  · have H1 := Lib.hid h1
    by_cases h2 : goodB q.data = true
    · have HP := Lib.hid h2
      have HF : Hid ((attrB q && (goodB q.data && q.list.isEmpty)) = q.list.isEmpty) := Lib.hid (by rw [h1, h2]; rfl)
      clear h1 h2
      go_enter Try.func169, Try.ntmps169
      go_wp2_with fail
      refine (hasAttr_any q _ g p _ (Nat.lt_of_lt_of_le hg HB0.out.size) (HC.out.below HB0.out hg)).mono ?_
      rintro e w1 ⟨rfl, hb1⟩
      rw [H1.out]
      have HB1 := Lib.hid (HB0.out.trans (hb1.mono HB0.out.size))
      have HK1 := Lib.hid ((hb1.block w.heap.size (lt_of_heap HK0.out)).trans HK0.out)
      have x1c0 := (cell_blk HK1.out 0).trans rfl
      clear hb1
      have d5 := (HB1.out.cell (p := ⟨g, p + 5, none⟩) hg).trans HC.out.c5
      rw [← HX.out] at d5
      go_wp2_with fail
      refine (goodPath_is HP.out _ HX.out hm _).mono ?_
      rintro e w2 ⟨rfl, hb2⟩
      have HB2 := Lib.hid (HB1.out.trans (hb2.mono HB1.out.size))
      have HK2 := Lib.hid ((hb2.block w.heap.size (lt_of_heap HK1.out)).trans HK1.out)
      have x2c0 := (cell_blk HK2.out 0).trans rfl
      clear hb2
      go_wp2_with fail
      refine (hasList_any q _ g p _ (Nat.lt_of_lt_of_le hg HB2.out.size) (HC.out.below HB2.out hg) (HE.out.below HB2.out)).mono ?_
      rintro e w3 ⟨rfl, hb3⟩
      have HB3 := Lib.hid (HB2.out.trans (hb3.mono HB2.out.size))
      have HK3 := Lib.hid ((hb3.block w.heap.size (lt_of_heap HK2.out)).trans HK2.out)
      have x3c0 := (cell_blk HK3.out 0).trans rfl
      clear hb3
      go_wp2
      go_ret
      exact ⟨ret_bool (by rw [HF.out]; try simp), HB3.out⟩
    · have HP : Hid (goodB q.data = false) := Lib.hid (by simpa using h2)
      have HF : Hid ((attrB q && (goodB q.data && q.list.isEmpty)) = false) := Lib.hid (by rw [HP.out]; simp)
      clear h1 h2
      go_enter Try.func169, Try.ntmps169
      go_wp2_with fail
      refine (hasAttr_any q _ g p _ (Nat.lt_of_lt_of_le hg HB0.out.size) (HC.out.below HB0.out hg)).mono ?_
      rintro e w1 ⟨rfl, hb1⟩
      rw [H1.out]
      have HB1 := Lib.hid (HB0.out.trans (hb1.mono HB0.out.size))
      have HK1 := Lib.hid ((hb1.block w.heap.size (lt_of_heap HK0.out)).trans HK0.out)
      have x1c0 := (cell_blk HK1.out 0).trans rfl
      clear hb1
      have d5 := (HB1.out.cell (p := ⟨g, p + 5, none⟩) hg).trans HC.out.c5
      rw [← HX.out] at d5
      go_wp2_with fail
      refine (goodPath_is HP.out _ HX.out hm _).mono ?_
      rintro e w2 ⟨rfl, hb2⟩
      have HB2 := Lib.hid (HB1.out.trans (hb2.mono HB1.out.size))
      have HK2 := Lib.hid ((hb2.block w.heap.size (lt_of_heap HK1.out)).trans HK1.out)
      have x2c0 := (cell_blk HK2.out 0).trans rfl
      clear hb2
      go_wp2
      go_ret
      exact ⟨ret_bool HF.out.symm, HB2.out⟩
  · have H1 : Hid (attrB q = false) := Lib.hid (by simpa using h1)
    have HF : Hid ((attrB q && (goodB q.data && q.list.isEmpty)) = false) := Lib.hid (by rw [H1.out]; rfl)
    clear h1
    go_enter Try.func169, Try.ntmps169
    go_wp2_with fail
    refine (hasAttr_any q _ g p _ (Nat.lt_of_lt_of_le hg HB0.out.size) (HC.out.below HB0.out hg)).mono ?_
    rintro e w1 ⟨rfl, hb1⟩
    rw [H1.out]
    have HB1 := Lib.hid (HB0.out.trans (hb1.mono HB0.out.size))
    have HK1 := Lib.hid ((hb1.block w.heap.size (lt_of_heap HK0.out)).trans HK0.out)
    have x1c0 := (cell_blk HK1.out 0).trans rfl
    clear hb1
    go_wp2
    go_ret
    exact ⟨ret_bool HF.out.symm, HB1.out⟩

theorem isGoodEntry_is {e : Ent} {count : Int} {b : Bool} (h : (nameB e.name && inB 0 (count - 1) e.node) = b) (s : ByteArray) (w : World) (hs : s = bs e.name) : Calls Try.prog 165 #[.agg #[.string s, .int .i64 e.node], .int .i64 count] w fun x w' => x = .returned (.bool b) ∧ Below w.heap.size w w' :=
  (isGoodEntry_any e count s w hs).mono fun x w' ⟨h1, h2⟩ => ⟨by rw [h1, h], h2⟩
def entGoodB (count : Int) (e : Ent) : Bool := nameB e.name && inB 0 (count - 1) e.node
theorem entOkI_is {count : Int} {es : List Ent} {k : Nat} (h : k < es.length) : entOkI count es k = (entGoodB count es[k] && (k == 0 || Op.bytesLess (es.getD (k - 1) ⟨[], 0⟩).name es[k].name)) := by
  have e1 : es.getD k ⟨[], 0⟩ = es[k] := by simp [List.getD, h]
  unfold entOkI entGoodB
  rw [e1]
  cases nameB es[k].name <;> cases inB 0 (count - 1) es[k].node <;> simp
theorem entsOkI_no {count : Int} {es : List Ent} {k : Nat} (hk : k < es.length) (h : entOkI count es k = false) : entsOkI count es = false := by
  unfold entsOkI
  rw [List.all_eq_false]
  exact ⟨k, List.mem_range.2 hk, by rw [h]; simp⟩
theorem entsOkI_yes {count : Int} {es : List Ent} (h : ∀ k, k < es.length → entOkI count es k = true) : entsOkI count es = true := by
  unfold entsOkI
  rw [List.all_eq_true]
  exact fun k hk => h k (List.mem_range.1 hk)

set_option maxHeartbeats 4000000 in
theorem dirGood_any (q : Nod) (lv : Value) (g p : Nat) (count : Int) (w : World) (hg : g < w.heap.size) (hc : NodC w g p lv q) (hE : EntsA w lv q.list) (hs : q.list.length ≤ 1048576) : Calls Try.prog 164 #[.agg #[.pointer (some ⟨g, p, none⟩)], .int .i64 count] w fun e w' => e = .returned (.bool (attrB q && (q.data.isEmpty && entsOkI count q.list))) ∧ Below w.heap.size w w' := by
  have hb0 : Below w.heap.size w (w.alloc (.cells #[.pointer (some ⟨g, p, none⟩)] 167)) := (Below.refl _ _).alloc (Nat.le_refl _) _
  have HB0 := Lib.hid hb0
  have HK0 := Lib.hid (heap_alloc_new w (.cells #[.pointer (some ⟨g, p, none⟩)] 167))
  have HC := Lib.hid hc
  have HE := Lib.hid hE
  clear hb0 hc hE
  by_cases h1 : attrB q = true
  · have H1 := Lib.hid h1
    by_cases h2 : q.data.isEmpty = true
    · have H2 : Hid ((!q.data.isEmpty) = false) := Lib.hid (by rw [h2]; rfl)
      have HF : Hid ((attrB q && (q.data.isEmpty && entsOkI count q.list)) = entsOkI count q.list) := Lib.hid (by rw [h1, h2]; rfl)
      obtain ⟨o2, c2, rfl, -, hH⟩ := id HE.out
      have HH := Lib.hid hH
      clear h1 h2 hH
      go_enter Try.func164, Try.ntmps164
      go_wp2_with fail
      refine (hasAttr_any q _ g p _ (Nat.lt_of_lt_of_le hg HB0.out.size) (HC.out.below HB0.out hg)).mono ?_
      rintro e w1 ⟨rfl, hb1⟩
      rw [H1.out]
      have HB1 := Lib.hid (HB0.out.trans (hb1.mono HB0.out.size))
      have HK1 := Lib.hid ((hb1.block w.heap.size (lt_of_heap HK0.out)).trans HK0.out)
      have x1c0 := (cell_blk HK1.out 0).trans rfl
      clear hb1
      go_wp2_with fail
      refine (hasData_any q _ g p _ (Nat.lt_of_lt_of_le hg HB1.out.size) (HC.out.below HB1.out hg)).mono ?_
      rintro e w2 ⟨rfl, hb2⟩
      rw [H2.out]
      have HB2 := Lib.hid (HB1.out.trans (hb2.mono HB1.out.size))
      have HK2 := Lib.hid ((hb2.block w.heap.size (lt_of_heap HK1.out)).trans HK1.out)
      have x2c0 := (cell_blk HK2.out 0).trans rfl
      clear hb2
      have d6 := (HB2.out.cell (p := ⟨g, p + 6, none⟩) hg).trans HC.out.c6
      go_wp2
      go_loopw [23] (fun i wr => ∃ j : Nat, j ≤ q.list.length ∧ i = .int .i64 j ∧ Below w.heap.size w wr ∧ wr.heap[w.heap.size]? = some (.cells #[.pointer (some ⟨g, p, none⟩)] 167) ∧ ∀ k, k < j → entOkI count q.list k = true) (fun i _ => q.list.length - (intOf i).toNat)
      case atStart => exact ⟨0, Nat.zero_le _, rfl, HB2.out, HK2.out, fun j h => absurd h (Nat.not_lt_zero _)⟩
      case round =>
        obtain ⟨j, hj, rfl, hB, hb, hJ⟩ := hrel
        have HJ := Lib.hid hJ
        clear hJ
        by_cases hlt : j < q.list.length
        · obtain ⟨g2, f2, rfl, q2, y1, y2, hn⟩ := HH.out j hlt
          have a1 := (hB.cell (p := ⟨g2, f2 + j * 2, none⟩) q2).trans y1
          have a2 := (hB.cell (p := ⟨g2, f2 + j * 2 + 1, none⟩) q2).trans y2
          have HO := Lib.hid (entOkI_is (count := count) hlt)
          obtain ⟨y, hyy⟩ : ∃ y, y = bs q.list[j].name := ⟨_, rfl⟩
          have HY := Lib.hid hyy
          rw [← hyy] at a1
          have HA : Hid (∀ oo, Below w.heap.size w (wr.alloc oo)) := Lib.hid (fun oo => hB.alloc hB.size oo)
          have HW : Hid (∀ oo, (wr.alloc oo).heap[w.heap.size]? = some (.cells #[.pointer (some ⟨g, p, none⟩)] 167)) := Lib.hid (fun oo => (Below.heap_alloc _ _ _ (lt_of_heap hb)).trans hb)
          have e0 := cell_blk (heap_alloc_new wr (.cells #[.string y, .int .i64 q.list[j].node] 93)) 0
          have e1 := cell_blk (heap_alloc_new wr (.cells #[.string y, .int .i64 q.list[j].node] 93)) 1
          have s0 := cell_blk (HW.out (.cells #[.string y, .int .i64 q.list[j].node] 93)) 0
          clear y1 y2 hyy hn
          go_wp2
          have HB2 := Lib.hid (HA.out (.cells #[.string y, .int .i64 q.list[j].node] 93))
          have HW2 := Lib.hid (HW.out (.cells #[.string y, .int .i64 q.list[j].node] 93))
          obtain ⟨W2, hW2⟩ : ∃ W2, wr.alloc (.cells #[.string y, .int .i64 q.list[j].node] 93) = W2 := ⟨_, rfl⟩
          rw [hW2] at e0 e1 s0 HB2 HW2 ⊢
          have e0' := e0.trans rfl
          have e1' := e1.trans rfl
          have s0' := s0.trans rfl
          have d6' := (HB2.out.cell (p := ⟨g, p + 6, none⟩) hg).trans HC.out.c6
          clear hW2 HW HA e0 e1 s0
          have z0 := fun d os => cell_regrown (w := W2) e0' d os
          have z1 := fun d os => cell_regrown (w := W2) e1' d os
          have z2 := fun d os => cell_regrown (w := W2) s0' d os
          have z3 := fun d os => cell_regrown (w := W2) d6' d os
          by_cases hgd : entGoodB count q.list[j] = true
          · have HG : Hid ((nameB q.list[j].name && inB 0 (count - 1) q.list[j].node) = true) := Lib.hid hgd
            rcases Nat.eq_zero_or_pos j with rfl | hpos
            · have HJ2 : Hid (∀ i, i < 0 + 1 → entOkI count q.list i = true) := Lib.hid (by
                intro i h
                obtain rfl : i = 0 := by omega
                rw [HO.out, hgd]; rfl)
              refine wp_region_quiet_below (by kernel_rfl) (by kernel_rfl) ?_
              repeat (first | go_big_quiet_step ((go_at_call 165; exact Calls.regrown_of (isGoodEntry_is HG.out y _ HY.out))) | quiet_step ((go_at_call 165; exact Calls.regrown_of (isGoodEntry_is HG.out y _ HY.out))))
              refine wpQuiet_nil ?_
              intro w5 hwq
              have hb5 : Below W2.heap.size W2 w5 := by
                obtain ⟨pp, rfl⟩ := hwq
                exact below_regrown _ _ _
              have HB5 := Lib.hid (HB2.out.trans (hb5.mono HB2.out.size))
              have HW5 := Lib.hid ((hb5.block w.heap.size (lt_of_heap HW2.out)).trans HW2.out)
              clear hwq hb5
              go_wp2
              go_roundw
              case rel => exact ⟨0 + 1, hlt, by go_num, HB5.out, HW5.out, HJ2.out⟩
              case measure => simp [intOf]; omega
            · obtain ⟨m, rfl⟩ : ∃ m, j = m + 1 := ⟨j - 1, by omega⟩
              obtain ⟨g3, f3, e3, -, y3, -, -⟩ := HH.out m (by omega)
              obtain ⟨rfl, rfl⟩ : g2 = g3 ∧ f2 = f3 := by simpa using e3
              have p0 := (HB2.out.cell (p := ⟨g2, f2 + m * 2, none⟩) q2).trans y3
              obtain ⟨x, hx⟩ : ∃ x, x = bs q.list[m].name := ⟨_, rfl⟩
              rw [← hx] at p0
              have z4 := fun d os => cell_regrown (w := W2) p0 d os
              have HLT : Hid (Op.bytesLess (q.list.getD (m + 1 - 1) ⟨[], 0⟩).name q.list[m + 1].name = Op.bytesLess x.toList y.toList) := Lib.hid (by
                have h1 : q.list.getD (m + 1 - 1) ⟨[], 0⟩ = q.list[m] := by simp [List.getD, show m < q.list.length by omega]
                rw [h1, hx, HY.out, bsl, bsl])
              clear y3 hx e3
              by_cases hl : Op.bytesLess x.toList y.toList = true
              · have HJ2 : Hid (∀ i, i < m + 1 + 1 → entOkI count q.list i = true) := Lib.hid (by
                  intro i h
                  rcases Nat.lt_succ_iff_lt_or_eq.1 h with h1 | rfl
                  · exact HJ.out i h1
                  · rw [HO.out, hgd, HLT.out, hl]; simp)
                refine wp_region_quiet_below (by kernel_rfl) (by kernel_rfl) ?_
                repeat (first | go_big_quiet_step ((go_at_call 165; exact Calls.regrown_of (isGoodEntry_is HG.out y _ HY.out))) | quiet_step ((go_at_call 165; exact Calls.regrown_of (isGoodEntry_is HG.out y _ HY.out))))
                refine wpQuiet_nil ?_
                intro w5 hwq
                have hb5 : Below W2.heap.size W2 w5 := by
                  obtain ⟨pp, rfl⟩ := hwq
                  exact below_regrown _ _ _
                have HB5 := Lib.hid (HB2.out.trans (hb5.mono HB2.out.size))
                have HW5 := Lib.hid ((hb5.block w.heap.size (lt_of_heap HW2.out)).trans HW2.out)
                clear hwq hb5
                go_wp2
                go_roundw
                case rel => exact ⟨m + 1 + 1, hlt, by go_num, HB5.out, HW5.out, HJ2.out⟩
                case measure => simp [intOf]; omega
              · have HNO : Hid (entsOkI count q.list = false) := Lib.hid (entsOkI_no hlt (by rw [HO.out, HLT.out]; simp [hl]))
                refine wp_region_quiet_below (by kernel_rfl) (by kernel_rfl) ?_
                repeat (first | go_big_quiet_step ((go_at_call 165; exact Calls.regrown_of (isGoodEntry_is HG.out y _ HY.out))) | quiet_step ((go_at_call 165; exact Calls.regrown_of (isGoodEntry_is HG.out y _ HY.out))))
                refine wpQuiet_nil ?_
                intro w5 hwq
                have hb5 : Below W2.heap.size W2 w5 := by
                  obtain ⟨pp, rfl⟩ := hwq
                  exact below_regrown _ _ _
                have HB5 := Lib.hid (HB2.out.trans (hb5.mono HB2.out.size))
                have HW5 := Lib.hid ((hb5.block w.heap.size (lt_of_heap HW2.out)).trans HW2.out)
                clear hwq hb5
                go_wp2
                go_ret
                exact ⟨ret_bool (by rw [HF.out, HNO.out]), HB5.out⟩
          · have HG : Hid ((nameB q.list[j].name && inB 0 (count - 1) q.list[j].node) = false) := Lib.hid (show entGoodB count q.list[j] = false by simpa using hgd)
            have HNO : Hid (entsOkI count q.list = false) := Lib.hid (entsOkI_no hlt (by rw [HO.out, show entGoodB count q.list[j] = false from HG.out]; rfl))
            refine wp_region_quiet_below (by kernel_rfl) (by kernel_rfl) ?_
            repeat (first | go_big_quiet_step ((go_at_call 165; exact Calls.regrown_of (isGoodEntry_is HG.out y _ HY.out))) | quiet_step ((go_at_call 165; exact Calls.regrown_of (isGoodEntry_is HG.out y _ HY.out))))
            refine wpQuiet_nil ?_
            intro w5 hwq
            have hb5 : Below W2.heap.size W2 w5 := by
              obtain ⟨pp, rfl⟩ := hwq
              exact below_regrown _ _ _
            have HB5 := Lib.hid (HB2.out.trans (hb5.mono HB2.out.size))
            have HW5 := Lib.hid ((hb5.block w.heap.size (lt_of_heap HW2.out)).trans HW2.out)
            clear hwq hb5
            go_wp2
            go_ret
            exact ⟨ret_bool (by rw [HF.out, HNO.out]), HB5.out⟩
        · have HYES : Hid (entsOkI count q.list = true) := Lib.hid (entsOkI_yes (fun k hk => HJ.out k (by omega)))
          go_wp2
          go_ret
          exact ⟨ret_bool (by rw [HF.out, HYES.out]), hB⟩
    · have H2 : Hid ((!q.data.isEmpty) = true) := Lib.hid (by simpa using h2)
      have HF : Hid ((attrB q && (q.data.isEmpty && entsOkI count q.list)) = false) := Lib.hid (by rw [show q.data.isEmpty = false by simpa using h2]; simp)
      clear h1 h2
      go_enter Try.func164, Try.ntmps164
      go_wp2_with fail
      refine (hasAttr_any q _ g p _ (Nat.lt_of_lt_of_le hg HB0.out.size) (HC.out.below HB0.out hg)).mono ?_
      rintro e w1 ⟨rfl, hb1⟩
      rw [H1.out]
      have HB1 := Lib.hid (HB0.out.trans (hb1.mono HB0.out.size))
      have HK1 := Lib.hid ((hb1.block w.heap.size (lt_of_heap HK0.out)).trans HK0.out)
      have x1c0 := (cell_blk HK1.out 0).trans rfl
      clear hb1
      go_wp2_with fail
      refine (hasData_any q _ g p _ (Nat.lt_of_lt_of_le hg HB1.out.size) (HC.out.below HB1.out hg)).mono ?_
      rintro e w2 ⟨rfl, hb2⟩
      rw [H2.out]
      have HB2 := Lib.hid (HB1.out.trans (hb2.mono HB1.out.size))
      have HK2 := Lib.hid ((hb2.block w.heap.size (lt_of_heap HK1.out)).trans HK1.out)
      have x2c0 := (cell_blk HK2.out 0).trans rfl
      clear hb2
      go_wp2
      go_ret
      exact ⟨ret_bool HF.out.symm, HB2.out⟩
  · have H1 : Hid (attrB q = false) := Lib.hid (by simpa using h1)
    have HF : Hid ((attrB q && (q.data.isEmpty && entsOkI count q.list)) = false) := Lib.hid (by rw [H1.out]; rfl)
    clear h1
    go_enter Try.func164, Try.ntmps164
    go_wp2_with fail
    refine (hasAttr_any q _ g p _ (Nat.lt_of_lt_of_le hg HB0.out.size) (HC.out.below HB0.out hg)).mono ?_
    rintro e w1 ⟨rfl, hb1⟩
    rw [H1.out]
    have HB1 := Lib.hid (HB0.out.trans (hb1.mono HB0.out.size))
    have HK1 := Lib.hid ((hb1.block w.heap.size (lt_of_heap HK0.out)).trans HK0.out)
    have x1c0 := (cell_blk HK1.out 0).trans rfl
    clear hb1
    go_wp2
    go_ret
    exact ⟨ret_bool HF.out.symm, HB1.out⟩

theorem nodOkI_free {c : Int} {q : Nod} (h : q.kind = 0) : nodOkI c q = (noneB q && (q.data.isEmpty && q.list.isEmpty)) := by
  unfold nodOkI noneB
  rw [if_pos h]
  simp only [Bool.and_assoc]
theorem nodOkI_file {c : Int} {q : Nod} (h : q.kind = 1) : nodOkI c q = (attrB q && (decide (q.data.length ≤ 60) && q.list.isEmpty)) := by
  unfold nodOkI attrB
  rw [if_neg (by omega), if_pos h]
  simp only [Bool.and_assoc]
theorem nodOkI_dirs {c : Int} {q : Nod} (h : q.kind = 2) : nodOkI c q = (attrB q && (q.data.isEmpty && entsOkI c q.list)) := by
  unfold nodOkI attrB
  rw [if_neg (by omega), if_neg (by omega), if_pos h]
  simp only [Bool.and_assoc]
theorem nodOkI_link {c : Int} {q : Nod} (h : q.kind = 3) : nodOkI c q = (attrB q && (goodB q.data && q.list.isEmpty)) := by
  unfold nodOkI attrB
  rw [if_neg (by omega), if_neg (by omega), if_neg (by omega), h]
  simp [Bool.and_assoc]
theorem nodOkI_else {c : Int} {q : Nod} (h0 : q.kind ≠ 0) (h1 : q.kind ≠ 1) (h2 : q.kind ≠ 2) (h3 : q.kind ≠ 3) : nodOkI c q = false := by
  unfold nodOkI
  rw [if_neg h0, if_neg h1, if_neg h2]
  simp [h3]

/-- What kindOf makes of a node. -/
def kindV (g p : Nat) (k : Int) : Value :=
  if k = 0 then .iface 165 (.agg #[.pointer (some ⟨g, p, none⟩)]) else if k = 1 then .iface 166 (.agg #[.pointer (some ⟨g, p, none⟩)])
  else if k = 2 then .iface 167 (.agg #[.pointer (some ⟨g, p, none⟩)]) else if k = 3 then .iface 168 (.agg #[.pointer (some ⟨g, p, none⟩)]) else .nilIface
theorem kd_mFree (v : Array Value) (w : World) : (Go.method 305 165 (.agg v) "loop.example/g00756/impl.isGood").run Try.prog w = .ok (156, .agg v) w := by kernel_rfl
theorem kd_mFile (v : Array Value) (w : World) : (Go.method 305 166 (.agg v) "loop.example/g00756/impl.isGood").run Try.prog w = .ok (160, .agg v) w := by kernel_rfl
theorem kd_mDir (v : Array Value) (w : World) : (Go.method 305 167 (.agg v) "loop.example/g00756/impl.isGood").run Try.prog w = .ok (164, .agg v) w := by kernel_rfl
theorem kd_mLink (v : Array Value) (w : World) : (Go.method 305 168 (.agg v) "loop.example/g00756/impl.isGood").run Try.prog w = .ok (169, .agg v) w := by kernel_rfl

set_option maxHeartbeats 2000000 in
theorem kindOf_at (k : Int) (V : Value) (g p : Nat) (w : World) (hg : g < w.heap.size) (hc : w.cell? ⟨g, p, none⟩ = some (.int .i64 k)) (hV : kindV g p k = V) : Calls Try.prog 99 #[.pointer (some ⟨g, p, none⟩)] w fun e w' => e = .returned V ∧ Below w.heap.size w w' := by
  have hb0 : Below w.heap.size w (w.alloc (.cells #[.pointer (some ⟨g, p, none⟩)] 163)) := (Below.refl _ _).alloc (Nat.le_refl _) _
  have HB := Lib.hid hb0
  have HK := Lib.hid (heap_alloc_new w (.cells #[.pointer (some ⟨g, p, none⟩)] 163))
  have d0 := (hb0.cell (p := ⟨g, p, none⟩) hg).trans hc
  have HV := Lib.hid hV
  clear hb0 hV
  by_cases h0 : k = 0
  · have HW : Hid (V = .iface 165 (.agg #[.pointer (some ⟨g, p, none⟩)])) := Lib.hid (by rw [← HV.out, h0]; rfl)
    subst h0
    rw [HW.out]
    go_enter Try.func99, Try.ntmps99
    go_wp2
    go_ret
    first | exact ⟨rfl, HB.out⟩ | exact ⟨rfl, bel_al1 HB.out⟩
  by_cases h1 : k = 1
  · have HW : Hid (V = .iface 166 (.agg #[.pointer (some ⟨g, p, none⟩)])) := Lib.hid (by rw [← HV.out, h1]; rfl)
    subst h1
    rw [HW.out]
    go_enter Try.func99, Try.ntmps99
    go_wp2
    go_ret
    first | exact ⟨rfl, HB.out⟩ | exact ⟨rfl, bel_al1 HB.out⟩
  by_cases h2 : k = 2
  · have HW : Hid (V = .iface 167 (.agg #[.pointer (some ⟨g, p, none⟩)])) := Lib.hid (by rw [← HV.out, h2]; rfl)
    subst h2
    rw [HW.out]
    go_enter Try.func99, Try.ntmps99
    go_wp2
    go_ret
    first | exact ⟨rfl, HB.out⟩ | exact ⟨rfl, bel_al1 HB.out⟩
  by_cases h3 : k = 3
  · have HW : Hid (V = .iface 168 (.agg #[.pointer (some ⟨g, p, none⟩)])) := Lib.hid (by rw [← HV.out, h3]; rfl)
    subst h3
    rw [HW.out]
    go_enter Try.func99, Try.ntmps99
    go_wp2
    go_ret
    first | exact ⟨rfl, HB.out⟩ | exact ⟨rfl, bel_al1 HB.out⟩
  · have HW : Hid (V = .nilIface) := Lib.hid (by rw [← HV.out]; unfold kindV; rw [if_neg h0, if_neg h1, if_neg h2, if_neg h3])
    rw [HW.out]
    go_enter Try.func99, Try.ntmps99
    go_wp2
    go_ret
    exact ⟨rfl, HB.out⟩

set_option maxHeartbeats 4000000 in
theorem isGoodNode_any (q : Nod) (lv : Value) (g p : Nat) (count : Int) (w : World) (hg : g < w.heap.size) (hc : NodC w g p lv q) (hE : EntsA w lv q.list) (hs : q.list.length ≤ 1048576) (hd : q.data.length ≤ 1048576) : Calls Try.prog 82 #[.pointer (some ⟨g, p, none⟩), .int .i64 count] w fun e w' => e = .returned (.bool (nodOkI count q)) ∧ Below w.heap.size w w' := by
  have HC := Lib.hid hc
  have HE := Lib.hid hE
  obtain ⟨kd, hkd⟩ : ∃ kd, kd = q.kind := ⟨_, rfl⟩
  have d0 := hc.c0
  rw [← hkd] at d0
  have HD := Lib.hid d0
  have HQ := Lib.hid hkd
  have kmA := kd_mFree
  have kmB := kd_mFile
  have kmC := kd_mDir
  have kmD := kd_mLink
  clear hc hE hkd d0
  by_cases h0 : kd = 0
  · have HF := Lib.hid (nodOkI_free (c := count) (q := q) (by rw [← HQ.out]; exact h0))
    have HV : Hid (kindV g p kd = .iface 165 (.agg #[.pointer (some ⟨g, p, none⟩)])) := Lib.hid (by rw [h0]; rfl)
    go_enter Try.func82, Try.ntmps82
    go_wp2_with fail
    refine (kindOf_at kd _ g p _ hg HD.out HV.out).mono ?_
    rintro e w1 ⟨rfl, hb1⟩
    have HB1 := Lib.hid hb1
    clear hb1
    go_wp2_with fail
    refine (freeGood_any q lv g p count _ (Nat.lt_of_lt_of_le hg HB1.out.size) (HC.out.below HB1.out hg) (HE.out.below HB1.out)).mono ?_
    rintro e w2 ⟨rfl, hb2⟩
    have HB2 := Lib.hid (HB1.out.trans (hb2.mono HB1.out.size))
    clear hb2
    go_wp2
    go_ret
    exact ⟨ret_bool HF.out.symm, HB2.out⟩
  by_cases h1 : kd = 1
  · have HF := Lib.hid (nodOkI_file (c := count) (q := q) (by rw [← HQ.out]; exact h1))
    have HV : Hid (kindV g p kd = .iface 166 (.agg #[.pointer (some ⟨g, p, none⟩)])) := Lib.hid (by rw [h1]; rfl)
    go_enter Try.func82, Try.ntmps82
    go_wp2_with fail
    refine (kindOf_at kd _ g p _ hg HD.out HV.out).mono ?_
    rintro e w1 ⟨rfl, hb1⟩
    have HB1 := Lib.hid hb1
    clear hb1
    go_wp2_with fail
    refine (fileGood_any q lv g p count _ (Nat.lt_of_lt_of_le hg HB1.out.size) (HC.out.below HB1.out hg) (HE.out.below HB1.out) hd).mono ?_
    rintro e w2 ⟨rfl, hb2⟩
    have HB2 := Lib.hid (HB1.out.trans (hb2.mono HB1.out.size))
    clear hb2
    go_wp2
    go_ret
    exact ⟨ret_bool HF.out.symm, HB2.out⟩
  by_cases h2 : kd = 2
  · have HF := Lib.hid (nodOkI_dirs (c := count) (q := q) (by rw [← HQ.out]; exact h2))
    have HV : Hid (kindV g p kd = .iface 167 (.agg #[.pointer (some ⟨g, p, none⟩)])) := Lib.hid (by rw [h2]; rfl)
    go_enter Try.func82, Try.ntmps82
    go_wp2_with fail
    refine (kindOf_at kd _ g p _ hg HD.out HV.out).mono ?_
    rintro e w1 ⟨rfl, hb1⟩
    have HB1 := Lib.hid hb1
    clear hb1
    go_wp2_with fail
    refine (dirGood_any q lv g p count _ (Nat.lt_of_lt_of_le hg HB1.out.size) (HC.out.below HB1.out hg) (HE.out.below HB1.out) hs).mono ?_
    rintro e w2 ⟨rfl, hb2⟩
    have HB2 := Lib.hid (HB1.out.trans (hb2.mono HB1.out.size))
    clear hb2
    go_wp2
    go_ret
    exact ⟨ret_bool HF.out.symm, HB2.out⟩
  by_cases h3 : kd = 3
  · have HF := Lib.hid (nodOkI_link (c := count) (q := q) (by rw [← HQ.out]; exact h3))
    have HV : Hid (kindV g p kd = .iface 168 (.agg #[.pointer (some ⟨g, p, none⟩)])) := Lib.hid (by rw [h3]; rfl)
    go_enter Try.func82, Try.ntmps82
    go_wp2_with fail
    refine (kindOf_at kd _ g p _ hg HD.out HV.out).mono ?_
    rintro e w1 ⟨rfl, hb1⟩
    have HB1 := Lib.hid hb1
    clear hb1
    go_wp2_with fail
    refine (linkGood_any q lv g p count _ (Nat.lt_of_lt_of_le hg HB1.out.size) (HC.out.below HB1.out hg) (HE.out.below HB1.out) (by unfold maxLen; omega)).mono ?_
    rintro e w2 ⟨rfl, hb2⟩
    have HB2 := Lib.hid (HB1.out.trans (hb2.mono HB1.out.size))
    clear hb2
    go_wp2
    go_ret
    exact ⟨ret_bool HF.out.symm, HB2.out⟩
  · have HF := Lib.hid (nodOkI_else (c := count) (q := q) (by rw [← HQ.out]; exact h0) (by rw [← HQ.out]; exact h1) (by rw [← HQ.out]; exact h2) (by rw [← HQ.out]; exact h3))
    have HV : Hid (kindV g p kd = .nilIface) := Lib.hid (by unfold kindV; rw [if_neg h0, if_neg h1, if_neg h2, if_neg h3])
    go_enter Try.func82, Try.ntmps82
    go_wp2_with fail
    refine (kindOf_at kd _ g p _ hg HD.out HV.out).mono ?_
    rintro e w1 ⟨rfl, hb1⟩
    have HB1 := Lib.hid hb1
    clear hb1
    go_wp2
    go_ret
    exact ⟨ret_bool HF.out.symm, HB1.out⟩
end Go.Proofs.Ytknhacblialboaa


/-
  Contracts of the program's bytesOf, placesIn, comesFromRoot, isWellPlaced, areWellPlaced.
  Conditions: at most 2^20 values and letters together; every entry leads to a node.
-/
namespace Go.Proofs.Ytknhacblialboaa
open Go.ChangeShapes Go.WideShapes Go.ChangeAt Go.RowKit Go.Joins
set_option linter.unusedVariables false
set_option linter.unusedSimpArgs false

set_option maxHeartbeats 2000000 in
theorem bytesOf_any (ns : List Nod) (v : Value) (w : World) (hR : NodsA w v ns) (hs : szNs ns ≤ 1048576) (hl : ns.length ≤ 1048576) : Calls Try.prog 44 #[v] w fun e w' => e = .returned (.int .i64 (sumD ns : Nat)) ∧ w = w' := by
  obtain ⟨o, c, rfl, hm, hH⟩ := hR
  have HH := Lib.hid hH
  clear hH
  unfold maxLen at hm
  have hT : sumD ns ≤ 1048576 := by have := sumD_le ns; omega
  clear hs
  go_enter Try.func44, Try.ntmps44
  go_wp2
  go_loop [3, 7] (fun t i => ∃ k : Nat, k ≤ ns.length ∧ i = .int .i64 k ∧ t = .int .i64 (sumD (ns.take k) : Nat)) (fun _ i => ns.length - (intOf i).toNat)
  case atStart => exact ⟨0, Nat.zero_le _, rfl, rfl⟩
  case round =>
    obtain ⟨k, hk, rfl, rfl⟩ := hrel
    by_cases hlt : k < ns.length
    · obtain ⟨g, off, lv, rfl, hg, hc, he, hml⟩ := HH.out k hlt
      have HS := Lib.hid (sumD_take hlt)
      have hle := sumD_pre ns (k + 1)
      have d5 := hc.c5
      have HZ : Hid ((bs ns[k].data).size = ns[k].data.length) := Lib.hid (bs_size _)
      obtain ⟨x, hxx⟩ : ∃ x, x = bs ns[k].data := ⟨_, rfl⟩
      rw [← hxx] at d5 HZ
      have hx : sumD (ns.take k) + x.size ≤ 1048576 := by rw [HZ.out, ← HS.out]; omega
      clear hc he hml hxx hle
      go_wp2
      go_round
      case rel => exact ⟨k + 1, hlt, by go_num, by rw [HS.out, ← HZ.out]; go_num⟩
      case measure => simp [intOf]; omega
    · have HT : Hid (ns.take k = ns) := Lib.hid (List.take_of_length_le (by omega))
      go_wp2
      go_ret
      exact ⟨ret_int (by rw [HT.out]), rfl⟩

def plCell (p : Pl) (r : Nat) : Value := if r = 0 then .int .i64 (p.links : Int) else if r = 1 then .int .i64 (p.dir : Int) else .string (bs p.name)
def plF (P : Int → Pl) (j : Nat) : Value := plCell (P ((j / 3 : Nat) : Int)) (j % 3)
/-- The value is a list of n places in a block of the call's own. -/
def PlsA (w : World) (B : Nat) (v : Value) (n : Nat) (P : Int → Pl) : Prop := ∃ G c, v = .slice (some ⟨G, 0, none⟩) n c ∧ n ≤ c ∧ c ≤ maxLen ∧ B ≤ G ∧ RowAt w G (n * 3) 170 (plF P)
theorem PlsA.below {w w' : World} {B n : Nat} {v : Value} {P : Int → Pl} (h : PlsA w B v n P) (hb : Below w.heap.size w w') : PlsA w' B v n P := by
  obtain ⟨G, c, e, h1, h2, h3, hr⟩ := h
  exact ⟨G, c, e, h1, h2, h3, hr.below hb hr.lt⟩
theorem plF0 (P : Int → Pl) (m : Nat) : plF P (m * 3) = .int .i64 ((P m).links : Int) := by
  have e1 : m * 3 / 3 = m := by omega
  have e2 : m * 3 % 3 = 0 := by omega
  simp [plF, plCell, e1, e2]
theorem plF1 (P : Int → Pl) (m : Nat) : plF P (m * 3 + 1) = .int .i64 ((P m).dir : Int) := by
  have e1 : (m * 3 + 1) / 3 = m := by omega
  have e2 : (m * 3 + 1) % 3 = 1 := by omega
  simp [plF, plCell, e1, e2]
theorem plF2 (P : Int → Pl) (m : Nat) : plF P (m * 3 + 2) = .string (bs (P m).name) := by
  have e1 : (m * 3 + 2) / 3 = m := by omega
  have e2 : (m * 3 + 2) % 3 = 2 := by omega
  simp [plF, plCell, e1, e2]
theorem plF_put (d : Nat) (P : Int → Pl) (e : Ent) (m : Nat) (hm : e.node = m) (j : Nat) :
    (if j = m * 3 + 2 then .string (bs e.name) else if j = m * 3 + 1 then .int .i64 (d : Int) else if j = m * 3 then .int .i64 (((P m).links : Int) + 1) else plF P j) = plF (putP d P e) j := by
  by_cases hj : j / 3 = m
  · have e1 : putP d P e ((j / 3 : Nat) : Int) = ⟨(P m).links + 1, d, e.name⟩ := by unfold putP; rw [hj, hm, if_pos rfl]
    unfold plF
    rw [e1]
    unfold plCell
    rcases (show j = m * 3 ∨ j = m * 3 + 1 ∨ j = m * 3 + 2 by omega) with rfl | rfl | rfl
    · have e2 : m * 3 % 3 = 0 := by omega
      rw [if_neg (by omega), if_neg (by omega), if_pos rfl, e2, if_pos rfl]; simp
    · have e2 : (m * 3 + 1) % 3 = 1 := by omega
      rw [if_neg (by omega), if_pos rfl, e2, if_neg (by omega), if_pos rfl]
    · have e2 : (m * 3 + 2) % 3 = 2 := by omega
      rw [if_pos rfl, e2, if_neg (by omega), if_neg (by omega)]
  · have e1 : putP d P e ((j / 3 : Nat) : Int) = P ((j / 3 : Nat) : Int) := by unfold putP; rw [hm, if_neg (by omega)]
    rw [if_neg (by omega), if_neg (by omega), if_neg (by omega)]
    unfold plF
    rw [e1]
theorem plcInfo : (Try.prog.info? 170).map (fun i => (i.zero, i.size, i.bytes)) = some (some (.agg #[.int .i64 0, .int .i64 0, .string ⟨#[]⟩]), 3, 32) := by kernel_rfl
theorem plc_zero (j : Nat) : (#[Value.int .i64 0, .int .i64 0, .string ⟨#[]⟩] : Array Value)[j % 3]! = plF (fun _ => pl0) j := by
  unfold plF plCell pl0
  obtain ⟨r, hr⟩ : ∃ r, r = j % 3 := ⟨_, rfl⟩
  have hlt : j % 3 < 3 := Nat.mod_lt _ (by omega)
  rw [← hr] at hlt ⊢
  rcases (show r = 0 ∨ r = 1 ∨ r = 2 by omega) with rfl | rfl | rfl <;> rfl

set_option maxHeartbeats 4000000 in
theorem placesIn_any (ns : List Nod) (v : Value) (w : World) (hR : NodsA w v ns) (hs : szNs ns ≤ 1048576) (hl : ns.length ≤ 1048576) (hld : Lead ns) : Calls Try.prog 100 #[v] w fun e w' => ∃ u, e = .returned u ∧ PlsA w' w.heap.size u ns.length (placesF ns) ∧ Below w.heap.size w w' := by
  obtain ⟨i0, hi, hz0, hz1, hz2⟩ := info_parts plcInfo
  obtain ⟨o, c, rfl, hm, hH⟩ := hR
  have HH := Lib.hid hH
  have HLD := Lib.hid hld
  have HLS : Hid (∀ n ∈ ns, n.list.length ≤ 1048576) := Lib.hid (fun n hn => by have := szN_mem hn; unfold szN at this; omega)
  clear hH hld
  unfold maxLen at hm
  go_enter Try.func100, Try.ntmps100
  go_wp2_with (at_make; refine wpList_make_full _ rfl _ _ 139 rfl w.heap.size 170 i0 (.agg #[.int .i64 0, .int .i64 0, .string ⟨#[]⟩]) 3 Try.underlying139 hi hz0 hz1 _ _ _ _ ns.length rfl rfl rfl rfl (by rw [hz2]; omega) (by unfold maxLen; omega) (Nat.le_refl _) ?_)
  intro w1 hown hgrow
  have hb1 : Below w.heap.size w w1 := (Below.refl _ w).grown hgrow (Nat.le_refl _) (fun k e => by cases e)
  have hr1 : RowAt w1 w.heap.size (ns.length * 3) 170 (plF (plc ns 0)) := by
    refine RowAt.made hown (fun j hj => ?_)
    have hj' : j < ns.length * 3 := hj
    show _ = some (plF (fun _ => pl0) j)
    rw [← plc_zero]
    simp [madeCells, hj']
  clear hown hgrow
  go_wp2
  go_loopw [12] (fun i wr => ∃ k : Nat, k ≤ ns.length ∧ i = .int .i64 k ∧ RowAt wr w.heap.size (ns.length * 3) 170 (plF (plc ns k)) ∧ Below w.heap.size w wr) (fun i _ => ns.length - (intOf i).toNat)
  case atStart => exact ⟨0, Nat.zero_le _, rfl, hr1, hb1⟩
  case round =>
    obtain ⟨k, hk, rfl, hr, hB⟩ := hrel
    clear hr1
    by_cases hlt : k < ns.length
    · obtain ⟨g, off, lv, rfl, hg, hc, he, hml⟩ := HH.out k hlt
      have d6 := (hc.below hB hg).c6
      have HD : Hid (ns.getD k ⟨0, 0, 0, 0, 0, [], []⟩ = ns[k]) := Lib.hid (getD_at hlt)
      have HLK : Hid (∀ i, links i (ns.take (k + 1)) = links i (ns.take k) + linksE i ns[k].list) := Lib.hid (fun i => links_take i hlt)
      have HLQ : Hid (∀ e ∈ ns[k].list, 0 ≤ e.node ∧ e.node < ns.length) := Lib.hid (fun e h => HLD.out _ (List.getElem_mem hlt) e h)
      have hq2 := HLS.out _ (List.getElem_mem hlt)
      obtain ⟨q, hqq⟩ : ∃ q, q = ns[k] := ⟨_, rfl⟩
      rw [← hqq] at he HD HLK HLQ hq2
      obtain ⟨o2, c2, rfl, -, hE⟩ := id he
      have HE := Lib.hid hE
      have HNX : Hid (plc ns (k + 1) = putsP k (plc ns k) q.list) := Lib.hid (by rw [plc, HD.out])
      have HPL : Hid (∀ i, (plc ns k i).links = links i (ns.take k)) := Lib.hid (fun i => plc_links ns i k (by omega))
      have HTL : Hid (∀ i, links i (ns.take (k + 1)) ≤ 1048576) := Lib.hid (fun i => by
        have h1 : links i (ns.take (k + 1)) ≤ links i ns := tot_pre _ ns (k + 1)
        have h2 := links_le i ns
        omega)
      have HRr := Lib.hid hr
      clear hc he hml hqq hE hr
      go_wp2
      go_loopw [21] (fun i wi => ∃ j : Nat, j ≤ q.list.length ∧ i = .int .i64 j ∧ RowAt wi w.heap.size (ns.length * 3) 170 (plF (putsP k (plc ns k) (q.list.take j))) ∧ Below w.heap.size w wi) (fun i _ => q.list.length - (intOf i).toNat)
      case atStart => exact ⟨0, Nat.zero_le _, rfl, HRr.out, hB⟩
      case round =>
        obtain ⟨j, hj, rfl, hr, hB2⟩ := hrel
        by_cases hlt2 : j < q.list.length
        · obtain ⟨g2, f2, rfl, q2, x2, y2, _⟩ := HE.out j hlt2
          have a1 := (hB2.cell (p := ⟨g2, f2 + j * 2, none⟩) q2).trans x2
          have a2 := (hB2.cell (p := ⟨g2, f2 + j * 2 + 1, none⟩) q2).trans y2
          obtain ⟨l1, l2⟩ := HLQ.out _ (List.getElem_mem hlt2)
          have HPT : Hid (putsP k (plc ns k) (q.list.take (j + 1)) = putP k (putsP k (plc ns k) (q.list.take j)) q.list[j]) := Lib.hid (putsP_take hlt2)
          obtain ⟨z, hzz⟩ : ∃ z, z = q.list[j] := ⟨_, rfl⟩
          rw [← hzz] at a1 a2 l1 l2 HPT
          obtain ⟨m, hmm⟩ : ∃ m : Nat, z.node = m := ⟨z.node.toNat, by omega⟩
          have HM := Lib.hid hmm
          rw [hmm] at a2 l1 l2
          have hm2 : m < ns.length := by omega
          obtain ⟨P, hP⟩ : ∃ P, P = putsP k (plc ns k) (q.list.take j) := ⟨_, rfl⟩
          have hlk : (P m).links ≤ 1048576 := by
            rw [hP, puts_links, HPL.out]
            have h1 := HTL.out m
            rw [HLK.out] at h1
            have h2 : linksE m (q.list.take j) ≤ linksE m q.list := tot_pre _ q.list j
            omega
          rw [← hP] at hr HPT
          have HST := Lib.hid (plF_put k P z m hmm)
          obtain ⟨y, hyy⟩ : ∃ y, y = bs z.name := ⟨_, rfl⟩
          rw [← hyy] at a1 HST
          have hr2 := hr.alloc (.cells #[.string y, .int .i64 (m : Int)] 93)
          have e0 := (cell_blk (heap_alloc_new wr (.cells #[.string y, .int .i64 (m : Int)] 93)) 0).trans rfl
          have e1 := (cell_blk (heap_alloc_new wr (.cells #[.string y, .int .i64 (m : Int)] 93)) 1).trans rfl
          have b0 := hr2.cell (j := m * 3) (by omega)
          have b1 := hr2.cell (j := m * 3 + 1) (by omega)
          have b2 := hr2.cell (j := m * 3 + 2) (by omega)
          rw [plF0] at b0
          rw [plF1] at b1
          rw [plF2] at b2
          have bf := hr2.frozen
          have HR3 := Lib.hid ((((hr2.set (m * 3) (.int .i64 (((P m).links : Int) + 1))).set (m * 3 + 1) (.int .i64 (k : Int))).set (m * 3 + 2) (.string y)).congr (fun i _ => HST.out i))
          have HB3 := Lib.hid ((((hB2.alloc hB2.size (.cells #[.string y, .int .i64 (m : Int)] 93)).setCell (p := ⟨w.heap.size, m * 3, none⟩) (Nat.le_refl _) (.int .i64 (((P m).links : Int) + 1))).setCell (p := ⟨w.heap.size, m * 3 + 1, none⟩) (Nat.le_refl _) (.int .i64 (k : Int))).setCell (p := ⟨w.heap.size, m * 3 + 2, none⟩) (Nat.le_refl _) (.string y))
          clear x2 y2 hzz hmm hP hyy hr hr2
          go_wp2
          go_region
          go_wp2
          go_roundw
          case rel => exact ⟨j + 1, hlt2, by go_num, by rw [HPT.out]; exact HR3.out.of_block rfl, HB3.out.drew⟩
          case measure => simp [intOf]; omega
        · have HT : Hid (q.list.take j = q.list) := Lib.hid (List.take_of_length_le (by omega))
          go_wp2
          go_roundw
          case rel => exact ⟨k + 1, hlt, by go_num, by rw [HNX.out, ← HT.out]; exact hr, hB2⟩
          case measure => simp [intOf]; omega
    · obtain rfl : k = ns.length := by omega
      go_wp2
      go_ret
      exact ⟨_, rfl, ⟨_, _, rfl, Nat.le_refl _, by unfold maxLen; omega, Nat.le_refl _, hr⟩, hB⟩
end Go.Proofs.Ytknhacblialboaa


/-
  Contracts of the program's comesFromRoot, isWellPlaced, areWellPlaced.
  Conditions: at most 2^20 values and letters together; every entry leads to a node.
-/
namespace Go.Proofs.Ytknhacblialboaa
open Go.ChangeShapes Go.WideShapes Go.ChangeAt Go.RowKit Go.Joins
set_option linter.unusedVariables false
set_option linter.unusedSimpArgs false

set_option maxHeartbeats 2000000 in
theorem comesFromRoot_any (n : Nat) (P : Int → Pl) (B : Nat) (v : Value) (i : Int) (w : World) (hR : PlsA w B v n P) (hn : n ≤ 1048576) (hin : ∀ k, 0 ≤ upN P k i ∧ upN P k i < n) : Calls Try.prog 126 #[v, .int .i64 i] w fun e w' => e = .returned (.bool (upN P n i == 0)) ∧ w = w' := by
  obtain ⟨G, c, rfl, h1, h2, -, hr⟩ := hR
  have HR := Lib.hid hr
  have HI := Lib.hid hin
  clear hr hin
  unfold maxLen at h2
  go_enter Try.func126, Try.ntmps126
  go_wp2
  go_loop [1, 7] (fun t x => ∃ k : Nat, k ≤ n ∧ x = .int .i64 k ∧ t = .int .i64 (upN P k i)) (fun _ x => n - (intOf x).toNat)
  case atStart => exact ⟨0, Nat.zero_le _, rfl, rfl⟩
  case round =>
    obtain ⟨k, hk, rfl, rfl⟩ := hrel
    by_cases hlt : k < n
    · obtain ⟨u0, u1⟩ := HI.out k
      have HNX : Hid (upN P (k + 1) i = ((P (upN P k i)).dir : Int)) := Lib.hid rfl
      obtain ⟨m, hm⟩ : ∃ m : Nat, upN P k i = m := ⟨(upN P k i).toNat, by omega⟩
      rw [hm] at u0 u1 HNX ⊢
      have hm2 : m < n := by omega
      have b1 := HR.out.cell (j := m * 3 + 1) (by omega)
      rw [plF1] at b1
      clear hm
      go_wp2
      go_round
      case rel => exact ⟨k + 1, hlt, by go_num, by rw [HNX.out]⟩
      case measure => simp [intOf]; omega
    · obtain rfl : k = n := by omega
      go_wp2
      go_ret
      exact ⟨rfl, rfl⟩

def wellV (kind : Int) (node : Nat) (n : Nat) (P : Int → Pl) : Bool :=
  if node = 0 ∨ kind = 0 then (P node).links == 0
  else if kind = 2 then (P node).links == 1 && upN P n node == 0
  else decide (1 ≤ (P node).links)
theorem comes_is {n : Nat} {P : Int → Pl} {B : Nat} {v : Value} {i : Int} {w : World} {b : Bool} (h : (upN P n i == 0) = b) (hR : PlsA w B v n P) (hn : n ≤ 1048576) (hin : ∀ k, 0 ≤ upN P k i ∧ upN P k i < n) : Calls Try.prog 126 #[v, .int .i64 i] w fun e w' => e = .returned (.bool b) ∧ w = w' :=
  (comesFromRoot_any n P B v i w hR hn hin).mono fun e w' ⟨h1, h2⟩ => ⟨by rw [h1, h], h2⟩

set_option maxHeartbeats 2000000 in
theorem isWellPlaced_any (kind : Int) (m n : Nat) (P : Int → Pl) (B : Nat) (v : Value) (w : World) (hR : PlsA w B v n P) (hn : n ≤ 1048576) (hm : m < n) (hlk : (P m).links ≤ 1048576) (hin : ∀ k, 0 ≤ upN P k (m : Int) ∧ upN P k (m : Int) < n) : Calls Try.prog 101 #[.int .i64 kind, .int .i64 (m : Int), v] w fun e w' => e = .returned (.bool (wellV kind m n P)) ∧ w = w' := by
  have HP := Lib.hid hR
  obtain ⟨G, c, rfl, h1, h2, -, hr⟩ := hR
  have HI := Lib.hid hin
  have b0 := hr.cell (j := m * 3) (by omega)
  rw [plF0] at b0
  unfold maxLen at h2
  have HW : Hid (wellV kind m n P = if m = 0 ∨ kind = 0 then (P m).links == 0 else if kind = 2 then (P m).links == 1 && upN P n m == 0 else decide (1 ≤ (P m).links)) := Lib.hid rfl
  obtain ⟨N, hN⟩ : ∃ N, N = (P m).links := ⟨_, rfl⟩
  rw [← hN] at b0 hlk HW
  clear hr hin hN
  by_cases ha : m = 0
  · subst ha
    rw [if_pos (.inl rfl)] at HW
    go_enter Try.func101, Try.ntmps101
    go_wp2
    all_goals
      go_ret
      exact ⟨ret_bool (by rw [HW.out, Bool.eq_iff_iff]; simp), rfl⟩
  have hm0 : ¬ ((m : Int) = 0) := by omega
  by_cases hb : kind = 0
  · subst hb
    rw [if_pos (.inr rfl)] at HW
    go_enter Try.func101, Try.ntmps101
    go_wp2
    all_goals
      go_ret
      exact ⟨ret_bool (by rw [HW.out, Bool.eq_iff_iff]; simp), rfl⟩
  rw [if_neg (by rintro (h | h) <;> contradiction)] at HW
  by_cases hc : kind = 2
  · subst hc
    rw [if_pos rfl] at HW
    by_cases hd : N = 1
    · subst hd
      obtain ⟨bb, hbb⟩ : ∃ bb, (upN P n (m : Int) == 0) = bb := ⟨_, rfl⟩
      have HBB := Lib.hid hbb
      rw [hbb] at HW
      clear hbb
      go_enter Try.func101, Try.ntmps101
      go_wp2_with (go_at_call 126; refine (comes_is HBB.out HP.out hn HI.out).mono ?_; rintro e w' ⟨rfl, rfl⟩)
      all_goals
        go_ret
        exact ⟨ret_bool (by rw [HW.out]; simp), rfl⟩
    · have hd1 : ((N : Int) == 1) = false := by rw [beq_eq_false_iff_ne]; omega
      go_enter Try.func101, Try.ntmps101
      go_wp2
      all_goals
        go_ret
        exact ⟨ret_bool (by rw [HW.out]; simp [hd]), rfl⟩
  · rw [if_neg hc] at HW
    have kb : (kind == 0) = false := beq_eq_false_iff_ne.2 hb
    have kc : (kind == 2) = false := beq_eq_false_iff_ne.2 hc
    go_enter Try.func101, Try.ntmps101
    go_wp2
    all_goals
      go_ret
      refine ⟨ret_bool ?_, rfl⟩
      rw [HW.out, Bool.eq_iff_iff]
      simp
      try omega
theorem well_is {kind : Int} {m n : Nat} {P : Int → Pl} {B : Nat} {v : Value} {w : World} {b : Bool} (h : wellV kind m n P = b) (hR : PlsA w B v n P) (hn : n ≤ 1048576) (hm : m < n) (hlk : (P m).links ≤ 1048576) (hin : ∀ k, 0 ≤ upN P k (m : Int) ∧ upN P k (m : Int) < n) : Calls Try.prog 101 #[.int .i64 kind, .int .i64 (m : Int), v] w fun e w' => e = .returned (.bool b) ∧ w = w' :=
  (isWellPlaced_any kind m n P B v w hR hn hm hlk hin).mono fun e w' ⟨h1, h2⟩ => ⟨by rw [h1, h], h2⟩

/-- All nodes are where they may be. -/
def WellP (ns : List Nod) : Prop := kindAt ns 0 = 2 ∧ ∀ k, k < ns.length → wellB ns (placesF ns) k = true
open Classical in
noncomputable def wellF (ns : List Nod) : Bool := decide (WellP ns)
theorem wellF_no {ns : List Nod} (h : ¬ WellP ns) : false = wellF ns := by unfold wellF; simp [h]
theorem wellF_yes {ns : List Nod} (h : WellP ns) : true = wellF ns := by unfold wellF; simp [h]

set_option maxHeartbeats 2000000 in
theorem areWellPlaced_any (ns : List Nod) (v : Value) (w : World) (hR : NodsA w v ns) (hs : szNs ns ≤ 1048576) (hl : ns.length ≤ 1048576) (hpos : 0 < ns.length) (hld : Lead ns) : Calls Try.prog 83 #[v] w fun e w' => e = .returned (.bool (wellF ns)) ∧ Below w.heap.size w w' := by
  have HR := Lib.hid hR
  obtain ⟨o, c, rfl, hm, hH⟩ := hR
  have HH := Lib.hid hH
  clear hH
  unfold maxLen at hm
  obtain ⟨g, off, lv0, rfl, hg, hcc, -, -⟩ := HH.out 0 hpos
  have d0 := hcc.c0
  rw [Nat.zero_mul, Nat.add_zero] at d0
  obtain ⟨kd, hkd⟩ : ∃ kd, kd = ns[0].kind := ⟨_, rfl⟩
  rw [← hkd] at d0
  have HKD : Hid (kindAt ns 0 = kd) := Lib.hid (by rw [hkd]; simp [kindAt, List.getD, hpos])
  clear hcc hkd
  by_cases c4 : kd = 2
  · subst c4
    have HI : Hid (∀ m : Nat, m < ns.length → ∀ k, 0 ≤ upN (placesF ns) k (m : Int) ∧ upN (placesF ns) k (m : Int) < ns.length) := Lib.hid (fun m hm k => upN_in hpos (by omega) (by omega) k)
    have HLK : Hid (∀ i, (placesF ns i).links ≤ 1048576) := Lib.hid (fun i => by have := links_le i ns; rw [pl_links]; omega)
    go_enter Try.func83, Try.ntmps83
    go_wp2_with fail
    refine (placesIn_any ns _ _ HR.out hs hl hld).mono ?_
    rintro e w1 ⟨u, rfl, hp, hb1⟩
    have HP := Lib.hid hp
    have HB1 := Lib.hid hb1
    obtain ⟨G, cp, rfl, -, -, -, -⟩ := hp
    clear hb1 d0
    go_wp2
    go_loop [14] (fun i => ∃ k : Nat, k ≤ ns.length ∧ i = .int .i64 k ∧ ∀ j, j < k → wellB ns (placesF ns) j = true) (fun i => ns.length - (intOf i).toNat)
    case atStart => exact ⟨0, Nat.zero_le _, rfl, fun j h => absurd h (Nat.not_lt_zero _)⟩
    case round =>
      obtain ⟨k, hk, rfl, hJ⟩ := hrel
      have HJ := Lib.hid hJ
      clear hJ
      by_cases hlt : k < ns.length
      · obtain ⟨g3, f3, lv, e3, hg3, hcc, -, -⟩ := HH.out k hlt
        obtain ⟨rfl, rfl⟩ : g = g3 ∧ off = f3 := by simpa using e3
        have d0 := (hcc.below HB1.out hg3).c0
        obtain ⟨kq, hkq⟩ : ∃ kq, kq = ns[k].kind := ⟨_, rfl⟩
        rw [← hkq] at d0
        have HW : Hid (wellB ns (placesF ns) k = wellV kq k ns.length (placesF ns)) := Lib.hid (by
          have : kindAt ns (k : Int) = kq := by rw [hkq]; simp [kindAt, List.getD, hlt]
          unfold wellB wellV
          rw [this])
        clear hcc hkq e3
        by_cases hw : wellV kq k ns.length (placesF ns) = true
        · have HWV := Lib.hid hw
          have HJ2 : Hid (∀ j, j < k + 1 → wellB ns (placesF ns) j = true) := Lib.hid (by
            intro j h
            rcases Nat.lt_succ_iff_lt_or_eq.1 h with h1 | rfl
            · exact HJ.out j h1
            · rw [HW.out, hw])
          go_wp2_with (go_at_call 101; refine (well_is HWV.out HP.out hl hlt (HLK.out _) (HI.out _ hlt)).mono ?_; rintro e w' ⟨rfl, rfl⟩)
          go_round
          case rel => exact ⟨k + 1, hlt, by go_num, HJ2.out⟩
          case measure => simp [intOf]; omega
        · have HWV : Hid (wellV kq k ns.length (placesF ns) = false) := Lib.hid (by simpa using hw)
          have HF : Hid (¬ WellP ns) := Lib.hid (fun h => hw (by rw [← HW.out]; exact h.2 k hlt))
          go_wp2_with (go_at_call 101; refine (well_is HWV.out HP.out hl hlt (HLK.out _) (HI.out _ hlt)).mono ?_; rintro e w' ⟨rfl, rfl⟩)
          go_ret
          exact ⟨ret_bool (wellF_no HF.out), HB1.out⟩
      · go_wp2
        go_ret
        exact ⟨ret_bool (wellF_yes ⟨HKD.out, fun k h => HJ.out k (by omega)⟩), HB1.out⟩
  · have HF : Hid (¬ WellP ns) := Lib.hid (fun h => c4 (by rw [← HKD.out]; exact h.1))
    have c4b : (kd == 2) = false := beq_eq_false_iff_ne.2 c4
    have c4d : (kd != 2) = true := by simpa using c4
    go_enter Try.func83, Try.ntmps83
    go_wp2
    go_ret
    exact ⟨ret_bool (wellF_no HF.out), Below.refl _ _⟩
end Go.Proofs.Ytknhacblialboaa


/-
  Contracts of the program's GoodFs, isUsedNode, isDirNode, BytesIn, FreeNode, LinksOf, ParentOf: the model's answers.
  Conditions: at most 2^20 values and letters together.
-/
namespace Go.Proofs.Ytknhacblialboaa
open Go.ChangeShapes Go.WideShapes Go.ChangeAt Go.RowKit Go.Joins
set_option linter.unusedVariables false
set_option linter.unusedSimpArgs false

theorem isRoom_is {n : Int} {b : Bool} (h : inB 0 1000 n = b) (w : World) : Calls Try.prog 81 #[.int .i64 n] w fun e w' => e = .returned (.bool b) ∧ w = w' :=
  (isRoom_any n w).mono fun e w' ⟨h1, h2⟩ => ⟨by rw [h1, h], h2⟩
theorem isGoodNode_at {q : Nod} {lv : Value} {g p : Nat} {count : Int} {W w : World} {b : Bool} (h : nodOkI count q = b) (hg : g < W.heap.size) (hc : NodC W g p lv q) (hE : EntsA W lv q.list) (hs : q.list.length ≤ 1048576) (hd : q.data.length ≤ 1048576) (hb : Below W.heap.size W w) : Calls Try.prog 82 #[.pointer (some ⟨g, p, none⟩), .int .i64 count] w fun e w' => e = .returned (.bool b) ∧ Below w.heap.size w w' :=
  (isGoodNode_any q lv g p count w (Nat.lt_of_lt_of_le hg hb.size) (hc.below hb hg) (hE.below hb) hs hd).mono fun e w' ⟨h1, h2⟩ => ⟨by rw [h1, h], h2⟩
theorem areWell_is {ns : List Nod} {v : Value} {w : World} {b : Bool} (h : wellF ns = b) (hR : NodsA w v ns) (hs : szNs ns ≤ 1048576) (hl : ns.length ≤ 1048576) (hpos : 0 < ns.length) (hld : Lead ns) : Calls Try.prog 83 #[v] w fun e w' => e = .returned (.bool b) ∧ Below w.heap.size w w' :=
  (areWellPlaced_any ns v w hR hs hl hpos hld).mono fun e w' ⟨h1, h2⟩ => ⟨by rw [h1, h], h2⟩
theorem bytesOf_b {ns : List Nod} {v : Value} {w : World} (hR : NodsA w v ns) (hs : szNs ns ≤ 1048576) (hl : ns.length ≤ 1048576) : Calls Try.prog 44 #[v] w fun e w' => e = .returned (.int .i64 (sumD ns : Nat)) ∧ Below w.heap.size w w' :=
  (bytesOf_any ns v w hR hs hl).mono fun e w' ⟨h1, h2⟩ => ⟨h1, by rw [← h2]; exact Below.refl _ _⟩
theorem wellP_of {ns : List Nod} (h : wellF ns = true) : WellP ns := by unfold wellF at h; simpa using h
theorem wellP_not {ns : List Nod} (h : wellF ns = false) : ¬ WellP ns := by unfold wellF at h; simpa using h

set_option maxHeartbeats 8000000 in
theorem goodFs_any (f : FsD) (v : Value) (w : World) (hR : FsA w v f) (hs : szF f ≤ 1048576) : Calls Try.prog 59 #[v] w fun e w' => e = .returned (.bool (goodF f)) ∧ Below w.heap.size w w' := by
  obtain ⟨nv, rfl, hN⟩ := hR
  have HN := Lib.hid hN
  obtain ⟨o, c, rfl, hm, hH⟩ := hN
  have HH := Lib.hid hH
  clear hH
  unfold maxLen at hm
  have hl : f.nodes.length ≤ 1048576 := (lists_small hs).1
  have HL : Hid (∀ n ∈ f.nodes, n.list.length ≤ 1048576 ∧ n.data.length ≤ 1048576 ∧ lensE n.list ≤ 1048576) := Lib.hid (lists_small hs).2
  have HSZ : Hid (szNs f.nodes ≤ 1048576) := Lib.hid (by unfold szF at hs; omega)
  have hsum : sumD f.nodes ≤ 1048576 := by have := sumD_le f.nodes; unfold szF at hs; omega
  have hbw : Below w.heap.size w (w.alloc (.cells #[.slice o f.nodes.length c, .int .i64 f.room] 31)) := (Below.refl _ _).alloc (Nat.le_refl _) _
  have hk0 := heap_alloc_new w (.cells #[.slice o f.nodes.length c, .int .i64 f.room] 31)
  have HB1 := Lib.hid hbw
  have HK1 := Lib.hid hk0
  clear hs hbw hk0
  by_cases c2 : inB 0 1000 f.room = true
  · have HC2 := Lib.hid c2
    by_cases a1 : f.nodes.length < 1
    · have HF : Hid (¬ GoodI f) := Lib.hid (fun h => by have := inB_t h.1; omega)
      have a1' : (f.nodes.length : Int) < 1 := by omega
      go_enter Try.func59, Try.ntmps59
      go_wp2_with (go_at_call 81; refine (isRoom_is HC2.out _).mono ?_; rintro e w' ⟨rfl, rfl⟩)
      go_ret
      exact ⟨ret_bool (goodF_not HF.out), HB1.out⟩
    have hpos : 0 < f.nodes.length := by omega
    have a1' : ¬ ((f.nodes.length : Int) < 1) := by omega
    by_cases a2 : 40 < f.nodes.length
    · have HF : Hid (¬ GoodI f) := Lib.hid (fun h => by have := inB_t h.1; omega)
      have a2' : (40 : Int) < (f.nodes.length : Int) := by omega
      go_enter Try.func59, Try.ntmps59
      go_wp2_with (go_at_call 81; refine (isRoom_is HC2.out _).mono ?_; rintro e w' ⟨rfl, rfl⟩)
      go_ret
      exact ⟨ret_bool (goodF_not HF.out), HB1.out⟩
    have a2' : ¬ ((40 : Int) < (f.nodes.length : Int)) := by omega
    have HC1 : Hid (inB 1 40 (f.nodes.length : Int) = true) := Lib.hid (inB_mk (by omega) (by omega)).symm
    go_enter Try.func59, Try.ntmps59
    go_wp2_with (go_at_call 81; refine (isRoom_is HC2.out _).mono ?_; rintro e w' ⟨rfl, rfl⟩)
    go_loopw [23] (fun i wr => ∃ k : Nat, k ≤ f.nodes.length ∧ i = .int .i64 k ∧ Below w.heap.size w wr ∧ wr.heap[w.heap.size]? = some (.cells #[.slice o f.nodes.length c, .int .i64 f.room] 31) ∧ ∀ j (hj : j < f.nodes.length), j < k → nodOkI f.nodes.length f.nodes[j] = true) (fun i _ => f.nodes.length - (intOf i).toNat)
    case atStart => exact ⟨0, Nat.zero_le _, rfl, HB1.out, HK1.out, fun j hj h => absurd h (Nat.not_lt_zero _)⟩
    case round =>
      obtain ⟨k, hk, rfl, hB, hb, hJ⟩ := hrel
      have HJ := Lib.hid hJ
      have HBr := Lib.hid hB
      have HKr := Lib.hid hb
      have b0 := (cell_blk hb 0).trans rfl
      have b1 := (cell_blk hb 1).trans rfl
      have z0 := fun d os => cell_regrown (w := wr) b0 d os
      have z1 := fun d os => cell_regrown (w := wr) b1 d os
      clear hJ hb
      by_cases hlt : k < f.nodes.length
      · obtain ⟨g3, f3, lv, rfl, hg0, hcc, he, hml⟩ := HH.out k hlt
        have hg3 : g3 < wr.heap.size := Nat.lt_of_lt_of_le hg0 hB.size
        have hq2 := HL.out f.nodes[k] (List.getElem_mem hlt)
        obtain ⟨hq3, hq4, -⟩ := hq2
        have HCC := Lib.hid (hcc.below hB hg0)
        have HE0 := Lib.hid (he.below hB)
        clear hcc he hml hB
        go_wp2
        by_cases hno : nodOkI f.nodes.length f.nodes[k] = true
        · have HNO := Lib.hid hno
          have HJ2 : Hid (∀ j (hj : j < f.nodes.length), j < k + 1 → nodOkI f.nodes.length f.nodes[j] = true) := Lib.hid (by
            intro j hj h
            rcases Nat.lt_succ_iff_lt_or_eq.1 h with h1 | rfl
            · exact HJ.out j hj h1
            · exact HNO.out)
          refine wp_region_quiet_below (by kernel_rfl) (by kernel_rfl) ?_
          repeat (first | go_big_quiet_step ((go_at_call 82; exact Calls.regrown_of (isGoodNode_at HNO.out hg3 HCC.out HE0.out hq3 hq4 (below_regrown _ _ _)))) | quiet_step ((go_at_call 82; exact Calls.regrown_of (isGoodNode_at HNO.out hg3 HCC.out HE0.out hq3 hq4 (below_regrown _ _ _)))))
          refine wpQuiet_nil ?_
          intro w5 hwq
          have hb5 : Below wr.heap.size wr w5 := by
            obtain ⟨pp, rfl⟩ := hwq
            exact below_regrown _ _ _
          have HB5 := Lib.hid (HBr.out.trans (hb5.mono HBr.out.size))
          have HK5 := Lib.hid ((hb5.block w.heap.size (lt_of_heap HKr.out)).trans HKr.out)
          clear hwq hb5
          go_wp2
          go_roundw
          case rel => exact ⟨k + 1, hlt, by go_num, HB5.out, HK5.out, HJ2.out⟩
          case measure => simp [intOf]; omega
        · have HNO : Hid (nodOkI f.nodes.length f.nodes[k] = false) := Lib.hid (by simpa using hno)
          have HF : Hid (¬ GoodI f) := Lib.hid (fun h => hno (h.2.2.1 _ (List.getElem_mem hlt)))
          refine wp_region_quiet_below (by kernel_rfl) (by kernel_rfl) ?_
          repeat (first | go_big_quiet_step ((go_at_call 82; exact Calls.regrown_of (isGoodNode_at HNO.out hg3 HCC.out HE0.out hq3 hq4 (below_regrown _ _ _)))) | quiet_step ((go_at_call 82; exact Calls.regrown_of (isGoodNode_at HNO.out hg3 HCC.out HE0.out hq3 hq4 (below_regrown _ _ _)))))
          refine wpQuiet_nil ?_
          intro w5 hwq
          have hb5 : Below wr.heap.size wr w5 := by
            obtain ⟨pp, rfl⟩ := hwq
            exact below_regrown _ _ _
          have HB5 := Lib.hid (HBr.out.trans (hb5.mono HBr.out.size))
          have HK5 := Lib.hid ((hb5.block w.heap.size (lt_of_heap HKr.out)).trans HKr.out)
          clear hwq hb5
          go_wp2
          go_ret
          exact ⟨ret_bool (goodF_not HF.out), HB5.out⟩
      · have HALL : Hid (∀ n ∈ f.nodes, nodOkI f.nodes.length n = true) := Lib.hid (by
          intro n hn
          obtain ⟨j, hj, rfl⟩ := List.getElem_of_mem hn
          exact HJ.out j hj (by omega))
        have HLD := Lib.hid (leadI HALL.out)
        have HN9 := Lib.hid (HN.out.below hB)
        clear hB
        go_wp2
        by_cases hwf : wellF f.nodes = true
        · have HWF := Lib.hid hwf
          by_cases c3 : (sumD f.nodes : Int) ≤ f.room
          · have HF : Hid (GoodI f) := Lib.hid ⟨HC1.out, HC2.out, HALL.out, (wellP_of HWF.out).1, (wellP_of HWF.out).2, c3⟩
            refine wp_region_quiet_below (by kernel_rfl) (by kernel_rfl) ?_
            repeat (first | go_big_quiet_step ((first | (go_at_call 83; exact Calls.regrown_of (areWell_is HWF.out (HN9.out.below (below_regrown _ _ _)) HSZ.out hl hpos HLD.out)) | (go_at_call 44; exact Calls.regrown_of (bytesOf_b (HN9.out.below (below_regrown _ _ _)) HSZ.out hl)))) | quiet_step ((first | (go_at_call 83; exact Calls.regrown_of (areWell_is HWF.out (HN9.out.below (below_regrown _ _ _)) HSZ.out hl hpos HLD.out)) | (go_at_call 44; exact Calls.regrown_of (bytesOf_b (HN9.out.below (below_regrown _ _ _)) HSZ.out hl)))))
            refine wpQuiet_nil ?_
            intro w5 hwq
            have hb5 : Below wr.heap.size wr w5 := by
              obtain ⟨pp, rfl⟩ := hwq
              exact below_regrown _ _ _
            have HB5 := Lib.hid (HBr.out.trans (hb5.mono HBr.out.size))
            have HK5 := Lib.hid ((hb5.block w.heap.size (lt_of_heap HKr.out)).trans HKr.out)
            clear hwq hb5
            go_wp2
            go_ret
            exact ⟨ret_bool (goodF_of HF.out), HB5.out⟩
          · have HF : Hid (¬ GoodI f) := Lib.hid (fun h => c3 h.2.2.2.2.2)
            refine wp_region_quiet_below (by kernel_rfl) (by kernel_rfl) ?_
            repeat (first | go_big_quiet_step ((first | (go_at_call 83; exact Calls.regrown_of (areWell_is HWF.out (HN9.out.below (below_regrown _ _ _)) HSZ.out hl hpos HLD.out)) | (go_at_call 44; exact Calls.regrown_of (bytesOf_b (HN9.out.below (below_regrown _ _ _)) HSZ.out hl)))) | quiet_step ((first | (go_at_call 83; exact Calls.regrown_of (areWell_is HWF.out (HN9.out.below (below_regrown _ _ _)) HSZ.out hl hpos HLD.out)) | (go_at_call 44; exact Calls.regrown_of (bytesOf_b (HN9.out.below (below_regrown _ _ _)) HSZ.out hl)))))
            refine wpQuiet_nil ?_
            intro w5 hwq
            have hb5 : Below wr.heap.size wr w5 := by
              obtain ⟨pp, rfl⟩ := hwq
              exact below_regrown _ _ _
            have HB5 := Lib.hid (HBr.out.trans (hb5.mono HBr.out.size))
            have HK5 := Lib.hid ((hb5.block w.heap.size (lt_of_heap HKr.out)).trans HKr.out)
            clear hwq hb5
            go_wp2
            go_ret
            exact ⟨ret_bool (goodF_not HF.out), HB5.out⟩
        · have HWF : Hid (wellF f.nodes = false) := Lib.hid (by simpa using hwf)
          have HF : Hid (¬ GoodI f) := Lib.hid (fun h => wellP_not HWF.out ⟨h.2.2.2.1, h.2.2.2.2.1⟩)
          refine wp_region_quiet_below (by kernel_rfl) (by kernel_rfl) ?_
          repeat (first | go_big_quiet_step ((first | (go_at_call 83; exact Calls.regrown_of (areWell_is HWF.out (HN9.out.below (below_regrown _ _ _)) HSZ.out hl hpos HLD.out)) | (go_at_call 44; exact Calls.regrown_of (bytesOf_b (HN9.out.below (below_regrown _ _ _)) HSZ.out hl)))) | quiet_step ((first | (go_at_call 83; exact Calls.regrown_of (areWell_is HWF.out (HN9.out.below (below_regrown _ _ _)) HSZ.out hl hpos HLD.out)) | (go_at_call 44; exact Calls.regrown_of (bytesOf_b (HN9.out.below (below_regrown _ _ _)) HSZ.out hl)))))
          refine wpQuiet_nil ?_
          intro w5 hwq
          have hb5 : Below wr.heap.size wr w5 := by
            obtain ⟨pp, rfl⟩ := hwq
            exact below_regrown _ _ _
          have HB5 := Lib.hid (HBr.out.trans (hb5.mono HBr.out.size))
          have HK5 := Lib.hid ((hb5.block w.heap.size (lt_of_heap HKr.out)).trans HKr.out)
          clear hwq hb5
          go_wp2
          go_ret
          exact ⟨ret_bool (goodF_not HF.out), HB5.out⟩
  · have HC2 : Hid (inB 0 1000 f.room = false) := Lib.hid (by simpa using c2)
    have HF : Hid (¬ GoodI f) := Lib.hid (fun h => c2 h.2.1)
    by_cases a1 : (f.nodes.length : Int) < 1
    · go_enter Try.func59, Try.ntmps59
      go_wp2_with (go_at_call 81; refine (isRoom_is HC2.out _).mono ?_; rintro e w' ⟨rfl, rfl⟩)
      go_ret
      exact ⟨ret_bool (goodF_not HF.out), HB1.out⟩
    by_cases a2 : (40 : Int) < (f.nodes.length : Int)
    · go_enter Try.func59, Try.ntmps59
      go_wp2_with (go_at_call 81; refine (isRoom_is HC2.out _).mono ?_; rintro e w' ⟨rfl, rfl⟩)
      go_ret
      exact ⟨ret_bool (goodF_not HF.out), HB1.out⟩
    · go_enter Try.func59, Try.ntmps59
      go_wp2_with (go_at_call 81; refine (isRoom_is HC2.out _).mono ?_; rintro e w' ⟨rfl, rfl⟩)
      go_ret
      exact ⟨ret_bool (goodF_not HF.out), HB1.out⟩
end Go.Proofs.Ytknhacblialboaa


/-
  Contracts of the program's isUsedNode, isDirNode, BytesIn, FreeNode, LinksOf, ParentOf: the model's answers.
  Conditions: at most 2^20 values and letters together.
-/
namespace Go.Proofs.Ytknhacblialboaa
open Go.ChangeShapes Go.WideShapes Go.ChangeAt Go.RowKit Go.Joins
set_option linter.unusedVariables false
set_option linter.unusedSimpArgs false

theorem goodF_GoodF {f : FsD} (h : goodF f = true) : GoodF f := by unfold goodF at h; simpa using h
theorem good_lead {f : FsD} (h : goodF f = true) : Lead f.nodes := lead_of (goodF_GoodF h).2.2.2.2.1
theorem good_pos {f : FsD} (h : goodF f = true) : 0 < f.nodes.length := by have := inB_t (goodF_GoodF h).1; omega

set_option maxHeartbeats 2000000 in
theorem isUsedNode_any (f : FsD) (node : Int) (v : Value) (w : World) (hR : FsA w v f) (hs : szF f ≤ 1048576) : Calls Try.prog 31 #[v, .int .i64 node] w fun e w' => e = .returned (.bool (linksK f node)) ∧ Below w.heap.size w w' := by
  have HR := Lib.hid hR
  obtain ⟨nv, rfl, hN⟩ := hR
  have HN := Lib.hid hN
  obtain ⟨o, c, rfl, hm, hH⟩ := hN
  have HH := Lib.hid hH
  unfold maxLen at hm
  have hl : f.nodes.length ≤ 1048576 := (lists_small hs).1
  have HS := Lib.hid hs
  have HSZ : Hid (szNs f.nodes ≤ 1048576) := Lib.hid (by unfold szF at hs; omega)
  have hb0 : Below w.heap.size w (w.alloc (.cells #[.slice o f.nodes.length c, .int .i64 f.room] 31)) := (Below.refl _ _).alloc (Nat.le_refl _) _
  have hk0 := heap_alloc_new w (.cells #[.slice o f.nodes.length c, .int .i64 f.room] 31)
  have HB0 := Lib.hid hb0
  have HK0 := Lib.hid hk0
  clear hb0 hk0 hs hH
  by_cases hg : goodF f = true
  · have HG := Lib.hid hg
    clear hg
    by_cases h0 : 0 ≤ node
    · by_cases h1 : node < f.nodes.length
      · have HIN : Hid (inB 0 ((f.nodes.length : Int) - 1) node = true) := Lib.hid (inB_mk h0 (by omega)).symm
        obtain ⟨m, rfl⟩ : ∃ m : Nat, node = m := ⟨node.toNat, by omega⟩
        have hml : m < f.nodes.length := by omega
        obtain ⟨g, off, nl, rfl, hg, hcc, -, -⟩ := HH.out m hml
        have HC0 := Lib.hid hcc.c0
        have HKD : Hid (kindAt f.nodes (m : Int) = f.nodes[m].kind) := Lib.hid (by simp [kindAt, List.getD, hml])
        obtain ⟨kd, hkd⟩ : ∃ kd, kd = f.nodes[m].kind := ⟨_, rfl⟩
        rw [← hkd] at HC0 HKD
        clear hcc hkd
        by_cases hz : kd = 0
        · have HF : Hid (linksK f (m : Int) = false) := Lib.hid (by unfold linksK isN; rw [HG.out, HIN.out, HKD.out, hz]; rfl)
          subst hz
          go_enter Try.func31, Try.ntmps31
          go_wp2_with fail
          refine (goodFs_any f _ _ (HR.out.below HB0.out) HS.out).mono ?_
          rintro e w1 ⟨rfl, hb1⟩
          rw [HG.out]
          have HB1 := Lib.hid (HB0.out.trans (hb1.mono HB0.out.size))
          have HK1 := Lib.hid ((hb1.block w.heap.size (lt_of_heap HK0.out)).trans HK0.out)
          have x1c0 := (cell_blk HK1.out 0).trans rfl
          have x1c1 := (cell_blk HK1.out 1).trans rfl
          clear hb1
          have d0 := (HB1.out.cell (p := ⟨g, off + m * 7, none⟩) hg).trans HC0.out
          go_wp2
          go_ret
          exact ⟨ret_bool HF.out.symm, HB1.out⟩
        · have HF : Hid (linksK f (m : Int) = true) := Lib.hid (by unfold linksK isN; rw [HG.out, HIN.out, HKD.out]; simp [hz])
          have zb : (kd != 0) = true := by simpa using hz
          go_enter Try.func31, Try.ntmps31
          go_wp2_with fail
          refine (goodFs_any f _ _ (HR.out.below HB0.out) HS.out).mono ?_
          rintro e w1 ⟨rfl, hb1⟩
          rw [HG.out]
          have HB1 := Lib.hid (HB0.out.trans (hb1.mono HB0.out.size))
          have HK1 := Lib.hid ((hb1.block w.heap.size (lt_of_heap HK0.out)).trans HK0.out)
          have x1c0 := (cell_blk HK1.out 0).trans rfl
          have x1c1 := (cell_blk HK1.out 1).trans rfl
          clear hb1
          have d0 := (HB1.out.cell (p := ⟨g, off + m * 7, none⟩) hg).trans HC0.out
          go_wp2
          go_ret
          exact ⟨ret_bool HF.out.symm, HB1.out⟩
      · have HF : Hid (linksK f node = false) := Lib.hid (by unfold linksK isN; rw [← inB_no (.inr (by omega))]; simp)
        go_enter Try.func31, Try.ntmps31
        go_wp2_with fail
        refine (goodFs_any f _ _ (HR.out.below HB0.out) HS.out).mono ?_
        rintro e w1 ⟨rfl, hb1⟩
        rw [HG.out]
        have HB1 := Lib.hid (HB0.out.trans (hb1.mono HB0.out.size))
        have HK1 := Lib.hid ((hb1.block w.heap.size (lt_of_heap HK0.out)).trans HK0.out)
        have x1c0 := (cell_blk HK1.out 0).trans rfl
        have x1c1 := (cell_blk HK1.out 1).trans rfl
        clear hb1
        go_wp2
        go_ret
        exact ⟨ret_bool HF.out.symm, HB1.out⟩
    · have HF : Hid (linksK f node = false) := Lib.hid (by unfold linksK isN; rw [← inB_no (.inl (by omega))]; simp)
      go_enter Try.func31, Try.ntmps31
      go_wp2_with fail
      refine (goodFs_any f _ _ (HR.out.below HB0.out) HS.out).mono ?_
      rintro e w1 ⟨rfl, hb1⟩
      rw [HG.out]
      have HB1 := Lib.hid (HB0.out.trans (hb1.mono HB0.out.size))
      have HK1 := Lib.hid ((hb1.block w.heap.size (lt_of_heap HK0.out)).trans HK0.out)
      have x1c0 := (cell_blk HK1.out 0).trans rfl
      have x1c1 := (cell_blk HK1.out 1).trans rfl
      clear hb1
      go_wp2
      go_ret
      exact ⟨ret_bool HF.out.symm, HB1.out⟩
  · have HG : Hid (goodF f = false) := Lib.hid (by simpa using hg)
    have HF : Hid (linksK f node = false) := Lib.hid (by unfold linksK; rw [HG.out]; rfl)
    go_enter Try.func31, Try.ntmps31
    go_wp2_with fail
    refine (goodFs_any f _ _ (HR.out.below HB0.out) HS.out).mono ?_
    rintro e w1 ⟨rfl, hb1⟩
    rw [HG.out]
    have HB1 := Lib.hid (HB0.out.trans (hb1.mono HB0.out.size))
    have HK1 := Lib.hid ((hb1.block w.heap.size (lt_of_heap HK0.out)).trans HK0.out)
    have x1c0 := (cell_blk HK1.out 0).trans rfl
    have x1c1 := (cell_blk HK1.out 1).trans rfl
    clear hb1
    go_wp2
    go_ret
    exact ⟨ret_bool HF.out.symm, HB1.out⟩

theorem linksK_in {f : FsD} {node : Int} (h : linksK f node = true) : goodF f = true ∧ 0 ≤ node ∧ node < f.nodes.length := by
  unfold linksK isN at h
  simp only [Bool.and_eq_true] at h
  have := inB_t h.2.1
  exact ⟨h.1, by omega, by omega⟩
theorem parK_is (f : FsD) (node : Int) : parK f node = (linksK f node && (kindAt f.nodes node == 2)) := by
  unfold parK linksK isDirN
  rw [Bool.and_assoc]

theorem free_vals {f : FsD} (hg : goodF f = true) {k : Int} (h : freeAt f.nodes = k) : (0 ≤ k → freeF f = k ∧ freeK f = true) ∧ (k < 0 → freeF f = 0 ∧ freeK f = false) := by
  refine ⟨fun h0 => ⟨by unfold freeF; rw [hg, h]; simp; omega, by unfold freeK; rw [hg, h]; simp; omega⟩, fun h0 => ⟨by unfold freeF; rw [hg, h]; simp; omega, by unfold freeK; rw [hg, h]; simp; omega⟩⟩

/-- The number that the search tells: 0 where there is none. -/
noncomputable def freeV (ns : List Nod) : Int := if 0 ≤ freeAt ns then freeAt ns else 0
noncomputable def freeB (ns : List Nod) : Bool := decide (0 ≤ freeAt ns)
theorem free_own {ns : List Nod} {k : Int} (h : freeAt ns = k) : (0 ≤ k → freeV ns = k ∧ freeB ns = true) ∧ (k < 0 → freeV ns = 0 ∧ freeB ns = false) := by
  refine ⟨fun h0 => ⟨by unfold freeV; rw [h]; simp; omega, by unfold freeB; rw [h]; simp; omega⟩, fun h0 => ⟨by unfold freeV; rw [h]; simp; omega, by unfold freeB; rw [h]; simp; omega⟩⟩
theorem free_f {f : FsD} (hg : goodF f = true) : freeF f = freeV f.nodes ∧ freeK f = freeB f.nodes := by
  refine ⟨?_, by unfold freeK freeB; rw [hg]; rfl⟩
  unfold freeF freeV; simp [hg]

theorem parK_in {f : FsD} {node : Int} (h : parK f node = true) : goodF f = true ∧ 0 ≤ node ∧ node < f.nodes.length ∧ kindAt f.nodes node = 2 := by
  rw [parK_is, Bool.and_eq_true] at h
  obtain ⟨h1, h2, h3⟩ := linksK_in h.1
  exact ⟨h1, h2, h3, by simpa using h.2⟩
/-- Of a directory the place's directory is the parent. -/
theorem place_parent {f : FsD} {m : Nat} (h : goodF f = true) (hm : m < f.nodes.length) (hk : kindAt f.nodes m = 2) : (placesF f.nodes m).dir = parentOf m f.nodes := by
  have hG := (goodF_GoodF h).2.2.2.2.2 m hm
  rcases Nat.eq_zero_or_pos m with rfl | hp
  · have h0 : links (0 : Int) f.nodes = 0 := hG.1 rfl
    have h1 : placesF f.nodes ((0 : Nat) : Int) = pl0 := pl_none h0
    rw [h1]
    unfold parentOf
    rw [findIdx_not (p := fun n : Nod => hasE ((0 : Nat) : Int) n.list) (fun j hj => by
      cases hh : hasE ((0 : Nat) : Int) f.nodes[j].list with
      | false => rfl
      | true => have h2 : 0 < links (0 : Int) f.nodes := links_pos hj (hasE_iff.1 hh)
                omega)]
    rfl
  · have h1 : links m f.nodes = 1 := hG.2.1 hp hk
    obtain ⟨d, hd, e1, e2, -⟩ := pl_some (ns := f.nodes) (i := m) (by omega)
    rw [e1, parent_is h1 hd e2]

end Go.Proofs.Ytknhacblialboaa


/-
  What lies below a node of a good file system comes to an end: how deep it goes.
  Conditions: as each states.
-/
namespace Go.Proofs.Ytknhacblialboaa
open Go.ChangeShapes Go.WideShapes Go.ChangeAt Go.RowKit Go.Joins
set_option linter.unusedVariables false
set_option linter.unusedSimpArgs false

/-- The entries of a node. -/
def lsAt (ns : List Nod) (i : Nat) : List Ent := (ns.getD i ⟨0, 0, 0, 0, 0, [], []⟩).list
theorem lsAt_is {ns : List Nod} {i : Nat} (h : i < ns.length) : lsAt ns i = ns[i].list := by unfold lsAt; rw [getD_at h]
/-- So many steps down are enough. -/
def Down (ns : List Nod) : Nat → Nat → Prop
  | 0, i => lsAt ns i = []
  | k + 1, i => ∀ e ∈ lsAt ns i, (0 ≤ e.node ∧ e.node < ns.length) ∧ Down ns k e.node.toNat
theorem down_nil {ns : List Nod} {i : Nat} (h : lsAt ns i = []) : ∀ k, Down ns k i
  | 0 => h
  | k + 1 => fun e he => by rw [h] at he; cases he
theorem down_succ {ns : List Nod} : ∀ (k i : Nat), Down ns k i → Down ns (k + 1) i
  | 0, i, h => down_nil h 1
  | k + 1, i, h => fun e he => ⟨(h e he).1, down_succ k _ (h e he).2⟩
theorem down_mono {ns : List Nod} {i k : Nat} (h : Down ns k i) : ∀ m, Down ns (k + m) i
  | 0 => h
  | m + 1 => down_succ _ _ (down_mono h m)
theorem least {P : Nat → Prop} : ∀ n, P n → ∃ m, m ≤ n ∧ P m ∧ ∀ j, j < m → ¬ P j := by
  intro n
  induction n using Nat.strongRecOn with
  | ind n ih =>
    intro h
    by_cases hh : ∃ j, j < n ∧ P j
    · obtain ⟨j, hj, hp⟩ := hh
      obtain ⟨m, h1, h2, h3⟩ := ih j hj hp
      exact ⟨m, by omega, h2, h3⟩
    · exact ⟨n, Nat.le_refl _, h, fun j hj hp => hh ⟨j, hj, hp⟩⟩
/-- An entry of a good file system's node: a node that is there, below a directory. -/
theorem ent_facts {f : FsD} (h : goodF f = true) {i : Nat} (hi : i < f.nodes.length) {e : Ent} (he : e ∈ lsAt f.nodes i) : 0 < e.node ∧ e.node < f.nodes.length ∧ (kindAt f.nodes e.node = 2 → (placesF f.nodes e.node).dir = i) := by
  rw [lsAt_is hi] at he
  have hG := goodF_GoodF h
  have hn := hG.2.2.2.2.1 _ (List.getElem_mem hi)
  have hI := nodOk_iff.1 hn
  have h1 := nodOkI_dir hI.1 (fun x => by rw [x] at he; cases he)
  have h2 := entsOkI_in h1.2 he
  have h3 := hI.2 e he
  have hne := h3.1
  refine ⟨by omega, h2.2, fun hk => ?_⟩
  obtain ⟨c, hc⟩ : ∃ c : Nat, e.node = c := ⟨e.node.toNat, by omega⟩
  rw [hc] at hk h2 hne ⊢
  have hcl : c < f.nodes.length := by omega
  have hcp : 0 < c := by omega
  have hl : links (c : Int) f.nodes = 1 := (hG.2.2.2.2.2 c hcl).2.1 hcp hk
  have hE : 0 < linksE (c : Int) f.nodes[i].list := hasE_iff.1 (hasE_mem.2 ⟨e, he, hc⟩)
  obtain ⟨d, hd, e1, e2, -⟩ := pl_some (ns := f.nodes) (i := (c : Int)) (by omega)
  rw [e1]
  exact one_dir hl hd hi e2 hE
theorem up_all {f : FsD} (h : goodF f = true) {m : Nat} (hm : m < f.nodes.length) (hk : kindAt f.nodes m = 2) : upN (placesF f.nodes) f.nodes.length m = 0 := by
  have hI := (good_iff f).2 (goodF_GoodF h)
  have hp := good_pos h
  have h0 : links (0 : Int) f.nodes = 0 := ((goodF_GoodF h).2.2.2.2.2 0 hp).1 rfl
  rcases Nat.eq_zero_or_pos m with rfl | hpm
  · exact upN_zero (by rw [pl_none h0]; rfl) _
  · have h1 := hI.2.2.2.2.1 m hm
    unfold wellB at h1
    rw [if_neg (by rintro (h2 | h2) <;> omega), if_pos hk] at h1
    simp at h1
    exact h1.2
theorem down_dir {f : FsD} (h : goodF f = true) : ∀ (k i m : Nat), i < f.nodes.length → kindAt f.nodes i = 2 → upN (placesF f.nodes) m i = 0 → (∀ j, j < m → upN (placesF f.nodes) j i ≠ 0) → m + k = f.nodes.length + 1 → Down f.nodes k i
  | 0, i, m, hi, hk, h0, h1, hm => absurd (up_all h hi hk) (h1 _ (by omega))
  | k + 1, i, m, hi, hk, h0, h1, hm => fun e he => by
    obtain ⟨hp, hl, hd⟩ := ent_facts h hi he
    refine ⟨⟨by omega, hl⟩, ?_⟩
    obtain ⟨c, hc⟩ : ∃ c : Nat, e.node = c := ⟨e.node.toNat, by omega⟩
    rw [hc] at hp hl hd ⊢
    have hcl : c < f.nodes.length := by omega
    rw [show ((c : Int)).toNat = c by simp]
    by_cases hls : lsAt f.nodes c = []
    · exact down_nil hls k
    · have hn := (goodF_GoodF h).2.2.2.2.1 _ (List.getElem_mem hcl)
      rw [lsAt_is hcl] at hls
      have hkc : kindAt f.nodes (c : Int) = 2 := by
        have h7 := (nodOkI_dir (nodOk_iff.1 hn).1 hls).1
        unfold kindAt
        rw [show ((c : Int)).toNat = c by simp, getD_at hcl]; exact h7
      have hdir := hd hkc
      refine down_dir h k c (m + 1) hcl hkc ?_ ?_ (by omega)
      · rw [upN_one, hdir]; exact h0
      · intro j hj
        cases j with
        | zero => show ((c : Int)) ≠ 0; omega
        | succ j => rw [upN_one, hdir]; exact h1 j (by omega)
/-- As many steps as there are nodes, and one, are always enough. -/
theorem down_all {f : FsD} (h : goodF f = true) {i : Nat} (hi : i < f.nodes.length) : Down f.nodes (f.nodes.length + 1) i := by
  by_cases hls : lsAt f.nodes i = []
  · exact down_nil hls _
  · have hn := (goodF_GoodF h).2.2.2.2.1 _ (List.getElem_mem hi)
    have hls2 := hls
    rw [lsAt_is hi] at hls2
    have hk : kindAt f.nodes (i : Int) = 2 := by
      have h7 := (nodOkI_dir (nodOk_iff.1 hn).1 hls2).1
      unfold kindAt
      rw [show ((i : Int)).toNat = i by simp, getD_at hi]; exact h7
    obtain ⟨m, h1, h2, h3⟩ := least (P := fun m => upN (placesF f.nodes) m i = 0) _ (up_all h hi hk)
    have := down_dir h (f.nodes.length + 1 - m) i m hi hk h2 h3 (by omega)
    have h4 := down_mono this m
    rwa [show f.nodes.length + 1 - m + m = f.nodes.length + 1 by omega] at h4

/-- How many names deep it goes below a node. -/
def dpF (ns : List Nod) : Nat → Nat → Nat
  | 0, _ => 0
  | k + 1, i => (lsAt ns i).foldl (fun d e => max d (1 + dpF ns k e.node.toNat)) 0
def dpS (ns : List Nod) (k : Nat) (es : List Ent) : Nat := es.foldl (fun d e => max d (1 + dpF ns k e.node.toNat)) 0
theorem dpS_take {ns : List Nod} {k : Nat} {es : List Ent} {j : Nat} (h : j < es.length) : dpS ns k (es.take (j + 1)) = max (dpS ns k (es.take j)) (1 + dpF ns k es[j].node.toNat) := by
  unfold dpS; rw [List.take_succ_eq_append_getElem h, List.foldl_append]; rfl
theorem dpF_le {ns : List Nod} : ∀ k i, dpF ns k i ≤ k
  | 0, _ => Nat.le_refl _
  | k + 1, i => by
    have h : ∀ (es : List Ent) (d : Nat), d ≤ k + 1 → es.foldl (fun d e => max d (1 + dpF ns k e.node.toNat)) d ≤ k + 1 := by
      intro es
      induction es with
      | nil => exact fun d h => h
      | cons e r ih => exact fun d h => ih _ (by have := dpF_le (ns := ns) k e.node.toNat; simp only; omega)
    exact h _ 0 (Nat.zero_le _)
theorem dpS_le {ns : List Nod} {k : Nat} (es : List Ent) : dpS ns k es ≤ k + 1 := by
  have h : ∀ (es : List Ent) (d : Nat), d ≤ k + 1 → es.foldl (fun d e => max d (1 + dpF ns k e.node.toNat)) d ≤ k + 1 := by
    intro es
    induction es with
    | nil => exact fun d h => h
    | cons e r ih => exact fun d h => ih _ (by have := dpF_le (ns := ns) k e.node.toNat; simp only; omega)
  exact h _ 0 (Nat.zero_le _)
theorem dpF_succ (ns : List Nod) (k i : Nat) : dpF ns (k + 1) i = dpS ns k (lsAt ns i) := rfl
end Go.Proofs.Ytknhacblialboaa
