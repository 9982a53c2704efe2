
/-
  What lies below a node of a good file system comes to an end: how deep it goes.
  Conditions: as each states.
-/
import Derived.Test.YtbmbbioanlcioaaInoG
namespace Go.Proofs.Ytbmbbioanlcioaa
open Go.ChangeShapes Go.WideShapes Go.ChangeAt Go.RowKit Go.Joins
set_option linter.unusedVariables false
set_option linter.unusedSimpArgs false

/-- The entries of a node. -/
def lsAt (ns : List Nod) (i : Nat) : List Ent := (ns.getD i ⟨0, 0, 0, 0, 0, [], []⟩).list
theorem lsAt_is {ns : List Nod} {i : Nat} (h : i < ns.length) : lsAt ns i = ns[i].list := by unfold lsAt; rw [getD_at h]
/-- So many steps down are enough. -/
def Down (ns : List Nod) : Nat → Nat → Prop
  | 0, i => lsAt ns i = []
  | k + 1, i => ∀ e ∈ lsAt ns i, (0 ≤ e.node ∧ e.node < ns.length) ∧ Down ns k e.node.toNat
theorem down_nil {ns : List Nod} {i : Nat} (h : lsAt ns i = []) : ∀ k, Down ns k i
  | 0 => h
  | k + 1 => fun e he => by rw [h] at he; cases he
theorem down_succ {ns : List Nod} : ∀ (k i : Nat), Down ns k i → Down ns (k + 1) i
  | 0, i, h => down_nil h 1
  | k + 1, i, h => fun e he => ⟨(h e he).1, down_succ k _ (h e he).2⟩
theorem down_mono {ns : List Nod} {i k : Nat} (h : Down ns k i) : ∀ m, Down ns (k + m) i
  | 0 => h
  | m + 1 => down_succ _ _ (down_mono h m)
theorem least {P : Nat → Prop} : ∀ n, P n → ∃ m, m ≤ n ∧ P m ∧ ∀ j, j < m → ¬ P j := by
  intro n
  induction n using Nat.strongRecOn with
  | ind n ih =>
    intro h
    by_cases hh : ∃ j, j < n ∧ P j
    · obtain ⟨j, hj, hp⟩ := hh
      obtain ⟨m, h1, h2, h3⟩ := ih j hj hp
      exact ⟨m, by omega, h2, h3⟩
    · exact ⟨n, Nat.le_refl _, h, fun j hj hp => hh ⟨j, hj, hp⟩⟩
/-- An entry of a good file system's node: a node that is there, below a directory. -/
theorem ent_facts {f : FsD} (h : goodF f = true) {i : Nat} (hi : i < f.nodes.length) {e : Ent} (he : e ∈ lsAt f.nodes i) : 0 < e.node ∧ e.node < f.nodes.length ∧ (kindAt f.nodes e.node = 2 → (placesF f.nodes e.node).dir = i) := by
  rw [lsAt_is hi] at he
  have hG := goodF_GoodF h
  have hn := hG.2.2.2.2.1 _ (List.getElem_mem hi)
  have hI := nodOk_iff.1 hn
  have h1 := nodOkI_dir hI.1 (fun x => by rw [x] at he; cases he)
  have h2 := entsOkI_in h1.2 he
  have h3 := hI.2 e he
  have hne := h3.1
  refine ⟨by omega, h2.2, fun hk => ?_⟩
  obtain ⟨c, hc⟩ : ∃ c : Nat, e.node = c := ⟨e.node.toNat, by omega⟩
  rw [hc] at hk h2 hne ⊢
  have hcl : c < f.nodes.length := by omega
  have hcp : 0 < c := by omega
  have hl : links (c : Int) f.nodes = 1 := (hG.2.2.2.2.2 c hcl).2.1 hcp hk
  have hE : 0 < linksE (c : Int) f.nodes[i].list := hasE_iff.1 (hasE_mem.2 ⟨e, he, hc⟩)
  obtain ⟨d, hd, e1, e2, -⟩ := pl_some (ns := f.nodes) (i := (c : Int)) (by omega)
  rw [e1]
  exact one_dir hl hd hi e2 hE
theorem up_all {f : FsD} (h : goodF f = true) {m : Nat} (hm : m < f.nodes.length) (hk : kindAt f.nodes m = 2) : upN (placesF f.nodes) f.nodes.length m = 0 := by
  have hI := (good_iff f).2 (goodF_GoodF h)
  have hp := good_pos h
  have h0 : links (0 : Int) f.nodes = 0 := ((goodF_GoodF h).2.2.2.2.2 0 hp).1 rfl
  rcases Nat.eq_zero_or_pos m with rfl | hpm
  · exact upN_zero (by rw [pl_none h0]; rfl) _
  · have h1 := hI.2.2.2.2.1 m hm
    unfold wellB at h1
    rw [if_neg (by rintro (h2 | h2) <;> omega), if_pos hk] at h1
    simp at h1
    exact h1.2
theorem down_dir {f : FsD} (h : goodF f = true) : ∀ (k i m : Nat), i < f.nodes.length → kindAt f.nodes i = 2 → upN (placesF f.nodes) m i = 0 → (∀ j, j < m → upN (placesF f.nodes) j i ≠ 0) → m + k = f.nodes.length + 1 → Down f.nodes k i
  | 0, i, m, hi, hk, h0, h1, hm => absurd (up_all h hi hk) (h1 _ (by omega))
  | k + 1, i, m, hi, hk, h0, h1, hm => fun e he => by
    obtain ⟨hp, hl, hd⟩ := ent_facts h hi he
    refine ⟨⟨by omega, hl⟩, ?_⟩
    obtain ⟨c, hc⟩ : ∃ c : Nat, e.node = c := ⟨e.node.toNat, by omega⟩
    rw [hc] at hp hl hd ⊢
    have hcl : c < f.nodes.length := by omega
    rw [show ((c : Int)).toNat = c by simp]
    by_cases hls : lsAt f.nodes c = []
    · exact down_nil hls k
    · have hn := (goodF_GoodF h).2.2.2.2.1 _ (List.getElem_mem hcl)
      rw [lsAt_is hcl] at hls
      have hkc : kindAt f.nodes (c : Int) = 2 := by
        have h7 := (nodOkI_dir (nodOk_iff.1 hn).1 hls).1
        unfold kindAt
        rw [show ((c : Int)).toNat = c by simp, getD_at hcl]; exact h7
      have hdir := hd hkc
      refine down_dir h k c (m + 1) hcl hkc ?_ ?_ (by omega)
      · rw [upN_one, hdir]; exact h0
      · intro j hj
        cases j with
        | zero => show ((c : Int)) ≠ 0; omega
        | succ j => rw [upN_one, hdir]; exact h1 j (by omega)
/-- As many steps as there are nodes, and one, are always enough. -/
theorem down_all {f : FsD} (h : goodF f = true) {i : Nat} (hi : i < f.nodes.length) : Down f.nodes (f.nodes.length + 1) i := by
  by_cases hls : lsAt f.nodes i = []
  · exact down_nil hls _
  · have hn := (goodF_GoodF h).2.2.2.2.1 _ (List.getElem_mem hi)
    have hls2 := hls
    rw [lsAt_is hi] at hls2
    have hk : kindAt f.nodes (i : Int) = 2 := by
      have h7 := (nodOkI_dir (nodOk_iff.1 hn).1 hls2).1
      unfold kindAt
      rw [show ((i : Int)).toNat = i by simp, getD_at hi]; exact h7
    obtain ⟨m, h1, h2, h3⟩ := least (P := fun m => upN (placesF f.nodes) m i = 0) _ (up_all h hi hk)
    have := down_dir h (f.nodes.length + 1 - m) i m hi hk h2 h3 (by omega)
    have h4 := down_mono this m
    rwa [show f.nodes.length + 1 - m + m = f.nodes.length + 1 by omega] at h4

/-- How many names deep it goes below a node. -/
def dpF (ns : List Nod) : Nat → Nat → Nat
  | 0, _ => 0
  | k + 1, i => (lsAt ns i).foldl (fun d e => max d (1 + dpF ns k e.node.toNat)) 0
def dpS (ns : List Nod) (k : Nat) (es : List Ent) : Nat := es.foldl (fun d e => max d (1 + dpF ns k e.node.toNat)) 0
theorem dpS_take {ns : List Nod} {k : Nat} {es : List Ent} {j : Nat} (h : j < es.length) : dpS ns k (es.take (j + 1)) = max (dpS ns k (es.take j)) (1 + dpF ns k es[j].node.toNat) := by
  unfold dpS; rw [List.take_succ_eq_append_getElem h, List.foldl_append]; rfl
theorem dpF_le {ns : List Nod} : ∀ k i, dpF ns k i ≤ k
  | 0, _ => Nat.le_refl _
  | k + 1, i => by
    have h : ∀ (es : List Ent) (d : Nat), d ≤ k + 1 → es.foldl (fun d e => max d (1 + dpF ns k e.node.toNat)) d ≤ k + 1 := by
      intro es
      induction es with
      | nil => exact fun d h => h
      | cons e r ih => exact fun d h => ih _ (by have := dpF_le (ns := ns) k e.node.toNat; simp only; omega)
    exact h _ 0 (Nat.zero_le _)
theorem dpS_le {ns : List Nod} {k : Nat} (es : List Ent) : dpS ns k es ≤ k + 1 := by
  have h : ∀ (es : List Ent) (d : Nat), d ≤ k + 1 → es.foldl (fun d e => max d (1 + dpF ns k e.node.toNat)) d ≤ k + 1 := by
    intro es
    induction es with
    | nil => exact fun d h => h
    | cons e r ih => exact fun d h => ih _ (by have := dpF_le (ns := ns) k e.node.toNat; simp only; omega)
  exact h _ 0 (Nat.zero_le _)
theorem dpF_succ (ns : List Nod) (k i : Nat) : dpF ns (k + 1) i = dpS ns k (lsAt ns i) := rfl
end Go.Proofs.Ytbmbbioanlcioaa
