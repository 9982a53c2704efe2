/-
  Joined: FsW OwnF InC NameC NameD IterC ListC HelpC MarkC.
  Conditions: as each states.
-/
import Derived.Lib.OthersKept
import Derived.RangeFuncNested
import Derived.RangeFuncBound
import Derived.RangeFuncCalls
import Derived.RangeFuncLeaves
import Derived.Shelf.Abstract
import Derived.Shelf.RegionOpen
import Derived.WalkKit
import Derived.OwnWalkIn
import Derived.TacticsInMore
import Derived.LoopNIn
import Derived.LoopIn
import Derived.Maps.AppendAt
import Derived.Laws.OwnMore
import Derived.Deep.QuietTactic
import Derived.BigQuiet
import Derived.Laws.BytesString
import Derived.Laws.IdiomStrings
import Derived.Lib.QuietBelow
import Derived.Test.YtpkmkpeabfmbiaaGreatDoorLib1

/-
  A file system that a call is building: its nodes and its entries in rows of the call's own, appended to and written into.
  Conditions: as each states.
-/
namespace Go.Proofs.YtpkmkpeabfmbiaaGreatDoor
open Go.ChangeShapes Go.WideShapes Go.ChangeAt Go.RowKit Go.Joins
set_option linter.unusedVariables false
set_option linter.unusedSimpArgs false

/-! ### Rows of one width -/
theorem flat_len {k : Nat} : ∀ {rows : List (List Value)}, (∀ r ∈ rows, r.length = k) → rows.flatten.length = rows.length * k
  | [], _ => by simp
  | r :: rs, h => by
    have h1 := flat_len (rows := rs) (fun x hx => h x (by simp [hx]))
    have h2 := h r (by simp)
    simp only [List.flatten_cons, List.length_append, List.length_cons, h1, h2, Nat.succ_mul]
    omega
theorem flat_get {k : Nat} : ∀ {rows : List (List Value)}, (∀ r ∈ rows, r.length = k) → ∀ {i j : Nat} (hi : i < rows.length), j < k → rows.flatten[i * k + j]? = rows[i][j]?
  | [], _, i, j, hi, _ => by simp at hi
  | r :: rs, h, 0, j, hi, hj => by
    have h2 := h r (by simp)
    simp only [List.flatten_cons, Nat.zero_mul, Nat.zero_add, List.getElem_cons_zero]
    rw [List.getElem?_append_left (by omega)]
  | r :: rs, h, i + 1, j, hi, hj => by
    have h2 := h r (by simp)
    simp only [List.flatten_cons, List.getElem_cons_succ]
    rw [List.getElem?_append_right (by rw [h2, Nat.succ_mul]; omega), h2, show (i + 1) * k + j - k = i * k + j by rw [Nat.succ_mul]; omega]
    exact flat_get (fun x hx => h x (by simp [hx])) (by simpa using hi) hj
theorem flat_set {k : Nat} {u : Value} : ∀ {rows : List (List Value)}, (∀ r ∈ rows, r.length = k) → ∀ {i j : Nat} (hi : i < rows.length), j < k → rows.flatten.set (i * k + j) u = (rows.set i (rows[i].set j u)).flatten
  | [], _, i, j, hi, _ => by simp at hi
  | r :: rs, h, 0, j, hi, hj => by
    have h2 := h r (by simp)
    simp only [List.flatten_cons, Nat.zero_mul, Nat.zero_add, List.getElem_cons_zero, List.set_cons_zero]
    rw [List.set_append_left _ _ (by omega)]
  | r :: rs, h, i + 1, j, hi, hj => by
    have h2 := h r (by simp)
    simp only [List.flatten_cons, List.getElem_cons_succ, List.set_cons_succ]
    rw [List.set_append_right _ _ (by rw [h2, Nat.succ_mul]; omega), h2, show (i + 1) * k + j - k = i * k + j by rw [Nat.succ_mul]; omega]
    rw [flat_set (fun x hx => h x (by simp [hx])) (by simpa using hi) hj]

/-! ### Entries -/
def entV (e : Ent) : List Value := [.string (bs e.name), .int .i64 e.node]
def entsV (es : List Ent) : List Value := (es.map entV).flatten
theorem entV_len (es : List Ent) : ∀ r ∈ es.map entV, r.length = 2 := by
  intro r hr
  obtain ⟨e, -, rfl⟩ := List.mem_map.1 hr
  rfl
theorem entsV_len (es : List Ent) : (entsV es).length = es.length * 2 := by unfold entsV; rw [flat_len (entV_len es)]; simp
theorem entsV_app (a b : List Ent) : entsV (a ++ b) = entsV a ++ entsV b := by unfold entsV; simp
theorem entsV_one (es : List Ent) : ∀ u ∈ entsV es, u.oneCell' = true := by
  intro u hu
  unfold entsV at hu
  obtain ⟨r, hr, hu⟩ := List.mem_flatten.1 hu
  obtain ⟨e, -, rfl⟩ := List.mem_map.1 hr
  unfold entV at hu
  simp at hu
  rcases hu with rfl | rfl <;> rfl
def Ents (w : World) (R : Nat) (lv : Value) (es : List Ent) : Prop := w.ownsRow R 125 2 lv es.length (entsV es)
/-- Short lists of short names. -/
def EFit (es : List Ent) : Prop := ∀ e ∈ es, e.name.length ≤ 100
theorem Ents.kept {w w' : World} {R : Nat} {lv : Value} {es : List Ent} {b : Nat} (h : Ents w R lv es) (hg : w.grownBy w' (some b)) (hb : b < R) : Ents w' R lv es := by
  refine World.ownsRow.kept h hg ?_
  rcases h.2 with ⟨rfl, _⟩ | ⟨g, cap, cur, rfl, hB, _⟩
  · exact .inl rfl
  · refine .inr ?_
    simp [Value.ownBlock]; omega
theorem Ents.read {w : World} {R : Nat} {lv : Value} {es : List Ent} (h : Ents w R lv es) (hf : EFit es) : EntsA w lv es := by
  obtain ⟨hl, hd⟩ := h
  rcases hd with ⟨rfl, h0⟩ | ⟨g, cap, cur, rfl, hB, hg, hn, hm, hs, ht⟩
  · refine ⟨none, 0, by rw [h0], by rw [h0]; exact Nat.zero_le _, fun i hi => absurd hi (by omega)⟩
  · refine ⟨some ⟨g, 0, none⟩, cap, rfl, by omega, fun i hi => ?_⟩
    have hc : ∀ j, j < 2 → w.cell? ⟨g, 0 + i * 2 + j, none⟩ = (entV es[i])[j]? := by
      intro j hj
      have h1 : cur.toList[i * 2 + j]? = (entsV es)[i * 2 + j]? := by
        rw [← ht, List.getElem?_take, if_pos (by omega)]
      have h2 : (entsV es)[i * 2 + j]? = (entV es[i])[j]? := by
        unfold entsV
        rw [flat_get (entV_len es) (by simpa using hi) hj]
        simp
      rw [Nat.zero_add]
      simp only [World.cell?, hg]
      rw [← h2, ← h1]
      simp
    refine ⟨g, 0, rfl, (Array.getElem?_eq_some_iff.1 hg).1, ?_, ?_, ?_⟩
    · have := hc 0 (by decide); simpa [entV] using this
    · have := hc 1 (by decide); simpa [entV] using this
    · have := hf es[i] (List.getElem_mem hi); unfold maxLen; omega

/-! ### Nodes -/
def nodV (p : Nod × Value) : List Value := [.int .i64 p.1.kind, .int .i64 p.1.mode, .int .i64 p.1.uid, .int .i64 p.1.gid, .int .i64 p.1.time, .string (bs p.1.data), p.2]
def nodsV (ps : List (Nod × Value)) : List Value := (ps.map nodV).flatten
theorem nodV_len (ps : List (Nod × Value)) : ∀ r ∈ ps.map nodV, r.length = 7 := by
  intro r hr
  obtain ⟨e, -, rfl⟩ := List.mem_map.1 hr
  rfl
theorem nodsV_app (a b : List (Nod × Value)) : nodsV (a ++ b) = nodsV a ++ nodsV b := by unfold nodsV; simp
def NFit (x : Nod) : Prop := x.data.length ≤ 100 ∧ x.list.length ≤ 40 ∧ EFit x.list
/-- No two lists lie in one block. -/
def Dist (ps : List (Nod × Value)) : Prop := ∀ i j (hi : i < ps.length) (hj : j < ps.length), i ≠ j → ps[i].2.ownBlock = none ∨ ps[i].2.ownBlock ≠ ps[j].2.ownBlock
theorem dist_one (p : Nod × Value) : Dist [p] := fun i j hi hj h => by simp at hi hj; omega
theorem dist_snoc {ps : List (Nod × Value)} {q : Nod × Value} (h : Dist ps) (hq : q.2.ownBlock = none) : Dist (ps ++ [q]) := by
  intro i j hi hj hne
  simp at hi hj
  by_cases hi2 : i < ps.length
  · rw [List.getElem_append_left hi2]
    by_cases hj2 : j < ps.length
    · rw [List.getElem_append_left hj2]; exact h i j hi2 hj2 hne
    · have e : (ps ++ [q])[j] = q := by rw [List.getElem_append_right (by omega)]; simp
      rw [e, hq]
      cases ps[i].2.ownBlock with
      | none => exact .inl rfl
      | some x => exact .inr (by simp)
  · have e : (ps ++ [q])[i] = q := by rw [List.getElem_append_right (by omega)]; simp
    rw [e]; exact .inl hq
theorem dist_set {ps : List (Nod × Value)} {q : Nod × Value} {k : Nat} (h : Dist ps) (hq : ∀ j (hj : j < ps.length), j ≠ k → q.2.ownBlock = none ∨ q.2.ownBlock ≠ ps[j].2.ownBlock) : Dist (ps.set k q) := by
  intro i j hi hj hne
  simp at hi hj
  simp only [List.getElem_set]
  by_cases hik : k = i
  · rw [if_pos hik, if_neg (by omega)]
    exact hq j hj (by omega)
  · rw [if_neg hik]
    by_cases hjk : k = j
    · rw [if_pos hjk]
      rcases hq i hi (by omega) with e | e
      · rw [e]
        cases ps[i].2.ownBlock with
        | none => exact .inl rfl
        | some x => exact .inr (by simp)
      · exact .inr (fun x => e x.symm)
    · rw [if_neg hjk]; exact h i j hi hj hne
structure Nods (w : World) (R : Nat) (nv : Value) (ps : List (Nod × Value)) : Prop where
  row : w.ownsRow R 91 7 nv ps.length (nodsV ps)
  ent : ∀ p ∈ ps, Ents w R p.2 p.1.list
  fit : ∀ p ∈ ps, NFit p.1
  dist : Dist ps
theorem Nods.kept {w w' : World} {R : Nat} {nv : Value} {ps : List (Nod × Value)} {b : Nat} (h : Nods w R nv ps) (hg : w.grownBy w' (some b)) (hb : b < R) : Nods w' R nv ps := by
  refine ⟨World.ownsRow.kept h.row hg ?_, fun p hp => (h.ent p hp).kept hg hb, h.fit, h.dist⟩
  rcases h.row.2 with ⟨rfl, _⟩ | ⟨g, cap, cur, rfl, hB, _⟩
  · exact .inl rfl
  · refine .inr ?_
    simp [Value.ownBlock]; omega
theorem Nods.below {w w' : World} {R : Nat} {nv : Value} {ps : List (Nod × Value)} (h : Nods w R nv ps) (hb : Below w.heap.size w w') : Nods w' R nv ps := by
  have hg : w.grownBy w' none := ⟨hb.os, hb.tape, hb.output, hb.size, fun i hi _ => hb.block i hi⟩
  refine ⟨World.ownsRow.kept h.row hg ?_, fun p hp => World.ownsRow.kept (h.ent p hp) hg ?_, h.fit, h.dist⟩
  · rcases h.row.2 with ⟨rfl, _⟩ | ⟨g, cap, cur, rfl, hB, _⟩
    · exact .inl rfl
    · exact .inr (by simp [Value.ownBlock])
  · rcases (h.ent p hp).2 with ⟨e, _⟩ | ⟨g, cap, cur, e, hB, _⟩
    · rw [e]; exact .inl rfl
    · rw [e]; exact .inr (by simp [Value.ownBlock])
/-- A node's cells. -/
theorem Nods.at {w : World} {R : Nat} {nv : Value} {ps : List (Nod × Value)} (h : Nods w R nv ps) {i : Nat} (hi : i < ps.length) :
    ∃ g cap, nv = .slice (some ⟨g, 0, none⟩) ps.length cap ∧ R ≤ g ∧ g < w.heap.size ∧ ps.length ≤ cap ∧ cap ≤ maxLen ∧ NodC w g (i * 7) ps[i].2 ps[i].1 ∧ ∀ j, w.frozen? ⟨g, j, none⟩ = false := by
  obtain ⟨hl, hd⟩ := h.row
  rcases hd with ⟨rfl, h0⟩ | ⟨g, cap, cur, rfl, hB, hg, hn, hm, hs, ht⟩
  · omega
  · have hc : ∀ j, j < 7 → w.cell? ⟨g, i * 7 + j, none⟩ = (nodV ps[i])[j]? := by
      intro j hj
      have h1 : cur.toList[i * 7 + j]? = (nodsV ps)[i * 7 + j]? := by
        rw [← ht, List.getElem?_take, if_pos (by omega)]
      have h2 : (nodsV ps)[i * 7 + j]? = (nodV ps[i])[j]? := by
        unfold nodsV
        rw [flat_get (nodV_len ps) (by simpa using hi) hj]
        simp
      simp only [World.cell?, hg]
      rw [← h2, ← h1]
      simp
    refine ⟨g, cap, rfl, hB, (Array.getElem?_eq_some_iff.1 hg).1, hn, hm, ⟨?_, ?_, ?_, ?_, ?_, ?_, ?_⟩, frozen_blk hg⟩
    · have := hc 0 (by decide); simpa [nodV] using this
    · have := hc 1 (by decide); simpa [nodV] using this
    · have := hc 2 (by decide); simpa [nodV] using this
    · have := hc 3 (by decide); simpa [nodV] using this
    · have := hc 4 (by decide); simpa [nodV] using this
    · have := hc 5 (by decide); simpa [nodV] using this
    · have := hc 6 (by decide); simpa [nodV] using this
theorem Nods.read {w : World} {R : Nat} {nv : Value} {ps : List (Nod × Value)} (h : Nods w R nv ps) (room : Int) : FsA w (.agg #[nv, .int .i64 room]) ⟨ps.map Prod.fst, room⟩ := by
  refine ⟨nv, rfl, ?_⟩
  obtain ⟨hl, hd⟩ := h.row
  rcases hd with ⟨rfl, h0⟩ | ⟨g, cap, cur, rfl, hB, hg, hn, hm, hs, ht⟩
  · refine ⟨none, 0, by simp [h0], by simp [h0], fun i hi => absurd hi (by simp [h0])⟩
  · refine ⟨some ⟨g, 0, none⟩, cap, by simp, by simp; omega, fun i hi => ?_⟩
    have hi' : i < ps.length := by simpa using hi
    obtain ⟨g2, c2, e2, hB2, hg2, -, -, hc, -⟩ := h.at hi'
    simp only [Value.slice.injEq, Option.some.injEq, Addr.mk.injEq, and_true, true_and] at e2
    obtain ⟨rfl, -⟩ := e2
    have hf := h.fit ps[i] (List.getElem_mem hi')
    have en : (ps.map Prod.fst)[i] = ps[i].1 := by simp
    refine ⟨g, 0, ps[i].2, rfl, hg2, ?_, ?_, ?_⟩
    · rw [en, Nat.zero_add]; exact hc
    · rw [en]; exact (h.ent ps[i] (List.getElem_mem hi')).read hf.2.2
    · rw [en]; have := hf.1; unfold maxLen; omega
/-- Blocks of nodes are no blocks of entries. -/
theorem ents_ne {w : World} {R S : Nat} {nv lv : Value} {n m g : Nat} {xs ys : List Value} (h : w.ownsRow R 91 7 nv n xs) (k : w.ownsRow S 125 2 lv m ys) (hg : nv.ownBlock = some g) : lv.ownBlock = none ∨ lv.ownBlock ≠ some g := by
  rcases h.2 with ⟨rfl, _⟩ | ⟨g1, cap, cur, rfl, hB, hg1, _⟩
  · simp [Value.ownBlock] at hg
  · rcases k.2 with ⟨rfl, _⟩ | ⟨g2, cap2, cur2, rfl, hB2, hg2, _⟩
    · exact .inl rfl
    · refine .inr ?_
      simp [Value.ownBlock] at hg ⊢
      subst hg
      intro e
      subst e
      rw [hg1] at hg2
      simp at hg2
theorem nodV_set6 (p : Nod × Value) (es : List Ent) (lv : Value) : (nodV p).set 6 lv = nodV ({ p.1 with list := es }, lv) := rfl
theorem nodV_set0 (p : Nod × Value) (k : Int) : (nodV p).set 0 (.int .i64 k) = nodV ({ p.1 with kind := k }, p.2) := rfl
theorem nodV_set1 (p : Nod × Value) (k : Int) : (nodV p).set 1 (.int .i64 k) = nodV ({ p.1 with mode := k }, p.2) := rfl
/-- One cell of a node written. -/
theorem Nods.put {w : World} {R : Nat} {g cap : Nat} {ps : List (Nod × Value)} (h : Nods w R (.slice (some ⟨g, 0, none⟩) ps.length cap) ps) {i j : Nat} (hi : i < ps.length) (hj : j < 7) (u : Value) (q : Nod × Value)
    (hq : (nodV ps[i]).set j u = nodV q) (he : Ents w R q.2 q.1.list) (hf : NFit q.1) (hd : Dist (ps.set i q)) :
    Nods (w.setCell ⟨g, i * 7 + j, none⟩ u) R (.slice (some ⟨g, 0, none⟩) ps.length cap) (ps.set i q) ∧ w.grownBy (w.setCell ⟨g, i * 7 + j, none⟩ u) (some g) := by
  obtain ⟨h1, h2⟩ := h.row.stored (i * 7 + j) u
  refine ⟨⟨?_, ?_, ?_, hd⟩, h2⟩
  · have e : (nodsV ps).set (i * 7 + j) u = nodsV (ps.set i q) := by
      unfold nodsV
      rw [flat_set (nodV_len ps) (by simpa using hi) hj, List.map_set]
      congr 2
      simp only [List.getElem_map]
      exact hq
    rw [e] at h1
    simpa using h1
  · intro p hp
    have hne : ∀ {lv : Value} {es : List Ent}, Ents w R lv es → Ents (w.setCell ⟨g, i * 7 + j, none⟩ u) R lv es := fun {lv es} k => World.ownsRow.kept k h2 (ents_ne h.row k rfl)
    rcases List.mem_or_eq_of_mem_set hp with hp | rfl
    · exact hne (h.ent p hp)
    · exact hne he
  · intro p hp
    rcases List.mem_or_eq_of_mem_set hp with hp | rfl
    · exact h.fit p hp
    · exact hf
/-- One node appended. -/
theorem Nods.snoc {w w1 : World} {R : Nat} {nv nv' : Value} {ps : List (Nod × Value)} {q : Nod × Value} (h : Nods w R nv ps) (hr : w1.ownsRow R 91 7 nv' (ps.length + 1) (nodsV ps ++ nodV q)) (hg : w.grownBy w1 nv.ownBlock)
    (he : Ents w R q.2 q.1.list) (hf : NFit q.1) (hd : Dist (ps ++ [q])) : Nods w1 R nv' (ps ++ [q]) := by
  have hk : ∀ {lv : Value} {es : List Ent}, Ents w R lv es → Ents w1 R lv es := fun {lv es} k => by
    cases hb : nv.ownBlock with
    | none =>
      rw [hb] at hg
      refine World.ownsRow.kept k hg ?_
      cases hl : lv.ownBlock with
      | none => exact .inl rfl
      | some x => exact .inr (by simp)
    | some g =>
      rw [hb] at hg
      exact World.ownsRow.kept k hg (ents_ne h.row k hb)
  refine ⟨?_, ?_, ?_, hd⟩
  · have : nodsV (ps ++ [q]) = nodsV ps ++ nodV q := by rw [nodsV_app]; simp [nodsV]
    rw [this]
    simpa using hr
  · intro p hp
    rcases List.mem_append.1 hp with hp | hp
    · exact hk (h.ent p hp)
    · rw [List.mem_singleton.1 hp]; exact hk he
  · intro p hp
    rcases List.mem_append.1 hp with hp | hp
    · exact h.fit p hp
    · rw [List.mem_singleton.1 hp]; exact hf
theorem Nods.low {w : World} {R S : Nat} {nv : Value} {ps : List (Nod × Value)} (h : Nods w S nv ps) (hRS : R ≤ S) : Nods w R nv ps := by
  have low : ∀ {T : TypeId} {sz n : Nat} {v : Value} {xs : List Value}, w.ownsRow S T sz v n xs → w.ownsRow R T sz v n xs := fun {T sz n v xs} k => by
    rcases k with ⟨hl, h0 | ⟨g, cap, cur, e, hB, r⟩⟩
    · exact ⟨hl, .inl h0⟩
    · exact ⟨hl, .inr ⟨g, cap, cur, e, Nat.le_trans hRS hB, r⟩⟩
  exact ⟨low h.row, fun p hp => low (h.ent p hp), h.fit, h.dist⟩
end Go.Proofs.YtpkmkpeabfmbiaaGreatDoor


/-
  A file system in rows of a call's own, of any size: its nodes and entries, read, written into, marked.
  Conditions: as each states.
-/
namespace Go.Proofs.YtpkmkpeabfmbiaaGreatDoor
open Go.ChangeShapes Go.WideShapes Go.ChangeAt Go.RowKit Go.Joins
set_option linter.unusedVariables false
set_option linter.unusedSimpArgs false

theorem Ents.readM {w : World} {R : Nat} {lv : Value} {es : List Ent} (h : Ents w R lv es) (hf : ∀ e ∈ es, e.name.length ≤ maxLen) : EntsA w lv es := by
  obtain ⟨hl, hd⟩ := h
  rcases hd with ⟨rfl, h0⟩ | ⟨g, cap, cur, rfl, hB, hg, hn, hm, hs, ht⟩
  · refine ⟨none, 0, by rw [h0], by rw [h0]; exact Nat.zero_le _, fun i hi => absurd hi (by omega)⟩
  · refine ⟨some ⟨g, 0, none⟩, cap, rfl, by omega, fun i hi => ?_⟩
    have hc : ∀ j, j < 2 → w.cell? ⟨g, 0 + i * 2 + j, none⟩ = (entV es[i])[j]? := by
      intro j hj
      have h1 : cur.toList[i * 2 + j]? = (entsV es)[i * 2 + j]? := by
        rw [← ht, List.getElem?_take, if_pos (by omega)]
      have h2 : (entsV es)[i * 2 + j]? = (entV es[i])[j]? := by
        unfold entsV
        rw [flat_get (entV_len es) (by simpa using hi) hj]
        simp
      rw [Nat.zero_add]
      simp only [World.cell?, hg]
      rw [← h2, ← h1]
      simp
    refine ⟨g, 0, rfl, (Array.getElem?_eq_some_iff.1 hg).1, ?_, ?_, ?_⟩
    · have := hc 0 (by decide); simpa [entV] using this
    · have := hc 1 (by decide); simpa [entV] using this
    · exact hf es[i] (List.getElem_mem hi)

structure Own (w : World) (R : Nat) (nv : Value) (ps : List (Nod × Value)) : Prop where
  row : w.ownsRow R 91 7 nv ps.length (nodsV ps)
  ent : ∀ p ∈ ps, Ents w R p.2 p.1.list
  dist : Dist ps
theorem Own.nil (w : World) (R : Nat) : Own w R (.slice none 0 0) [] := ⟨⟨rfl, .inl ⟨rfl, rfl⟩⟩, fun p hp => (by cases hp), fun i j hi => absurd hi (by simp)⟩
theorem Own.kept {w w' : World} {R : Nat} {nv : Value} {ps : List (Nod × Value)} {b : Nat} (h : Own w R nv ps) (hg : w.grownBy w' (some b)) (hb : b < R) : Own w' R nv ps := by
  refine ⟨World.ownsRow.kept h.row hg ?_, fun p hp => (h.ent p hp).kept hg hb, h.dist⟩
  rcases h.row.2 with ⟨rfl, _⟩ | ⟨g, cap, cur, rfl, hB, _⟩
  · exact .inl rfl
  · refine .inr ?_
    simp [Value.ownBlock]; omega
theorem Own.below {w w' : World} {R : Nat} {nv : Value} {ps : List (Nod × Value)} (h : Own w R nv ps) (hb : Below w.heap.size w w') : Own w' R nv ps := by
  have hg : w.grownBy w' none := ⟨hb.os, hb.tape, hb.output, hb.size, fun i hi _ => hb.block i hi⟩
  refine ⟨World.ownsRow.kept h.row hg ?_, fun p hp => World.ownsRow.kept (h.ent p hp) hg ?_, h.dist⟩
  · rcases h.row.2 with ⟨rfl, _⟩ | ⟨g, cap, cur, rfl, hB, _⟩
    · exact .inl rfl
    · exact .inr (by simp [Value.ownBlock])
  · rcases (h.ent p hp).2 with ⟨e, _⟩ | ⟨g, cap, cur, e, hB, _⟩
    · rw [e]; exact .inl rfl
    · rw [e]; exact .inr (by simp [Value.ownBlock])
theorem Own.at {w : World} {R : Nat} {nv : Value} {ps : List (Nod × Value)} (h : Own w R nv ps) {i : Nat} (hi : i < ps.length) :
    ∃ g cap, nv = .slice (some ⟨g, 0, none⟩) ps.length cap ∧ R ≤ g ∧ g < w.heap.size ∧ ps.length ≤ cap ∧ cap ≤ maxLen ∧ NodC w g (i * 7) ps[i].2 ps[i].1 ∧ ∀ j, w.frozen? ⟨g, j, none⟩ = false := by
  obtain ⟨hl, hd⟩ := h.row
  rcases hd with ⟨rfl, h0⟩ | ⟨g, cap, cur, rfl, hB, hg, hn, hm, hs, ht⟩
  · omega
  · have hc : ∀ j, j < 7 → w.cell? ⟨g, i * 7 + j, none⟩ = (nodV ps[i])[j]? := by
      intro j hj
      have h1 : cur.toList[i * 7 + j]? = (nodsV ps)[i * 7 + j]? := by
        rw [← ht, List.getElem?_take, if_pos (by omega)]
      have h2 : (nodsV ps)[i * 7 + j]? = (nodV ps[i])[j]? := by
        unfold nodsV
        rw [flat_get (nodV_len ps) (by simpa using hi) hj]
        simp
      simp only [World.cell?, hg]
      rw [← h2, ← h1]
      simp
    refine ⟨g, cap, rfl, hB, (Array.getElem?_eq_some_iff.1 hg).1, hn, hm, ⟨?_, ?_, ?_, ?_, ?_, ?_, ?_⟩, frozen_blk hg⟩
    · have := hc 0 (by decide); simpa [nodV] using this
    · have := hc 1 (by decide); simpa [nodV] using this
    · have := hc 2 (by decide); simpa [nodV] using this
    · have := hc 3 (by decide); simpa [nodV] using this
    · have := hc 4 (by decide); simpa [nodV] using this
    · have := hc 5 (by decide); simpa [nodV] using this
    · have := hc 6 (by decide); simpa [nodV] using this
theorem Own.read {w : World} {R : Nat} {nv : Value} {ps : List (Nod × Value)} (h : Own w R nv ps) (room : Int) (hf : NodsFit (ps.map Prod.fst)) : FsA w (.agg #[nv, .int .i64 room]) ⟨ps.map Prod.fst, room⟩ := by
  refine ⟨nv, rfl, ?_⟩
  obtain ⟨hl, hd⟩ := h.row
  rcases hd with ⟨rfl, h0⟩ | ⟨g, cap, cur, rfl, hB, hg, hn, hm, hs, ht⟩
  · refine ⟨none, 0, by simp [h0], by simp [h0], fun i hi => absurd hi (by simp [h0])⟩
  · refine ⟨some ⟨g, 0, none⟩, cap, by simp, by simp; omega, fun i hi => ?_⟩
    have hi' : i < ps.length := by simpa using hi
    obtain ⟨g2, c2, e2, hB2, hg2, -, -, hc, -⟩ := h.at hi'
    simp only [Value.slice.injEq, Option.some.injEq, Addr.mk.injEq, and_true, true_and] at e2
    obtain ⟨rfl, -⟩ := e2
    have en : (ps.map Prod.fst)[i] = ps[i].1 := by simp
    have hf1 := hf _ (List.getElem_mem hi)
    refine ⟨g, 0, ps[i].2, rfl, hg2, ?_, ?_, hf1.1⟩
    · rw [en, Nat.zero_add]; exact hc
    · rw [en] at hf1 ⊢; exact (h.ent ps[i] (List.getElem_mem hi')).readM hf1.2
theorem Own.put {w : World} {R : Nat} {g cap : Nat} {ps : List (Nod × Value)} (h : Own w R (.slice (some ⟨g, 0, none⟩) ps.length cap) ps) {i j : Nat} (hi : i < ps.length) (hj : j < 7) (u : Value) (q : Nod × Value)
    (hq : (nodV ps[i]).set j u = nodV q) (he : Ents w R q.2 q.1.list) (hd : Dist (ps.set i q)) :
    Own (w.setCell ⟨g, i * 7 + j, none⟩ u) R (.slice (some ⟨g, 0, none⟩) ps.length cap) (ps.set i q) ∧ w.grownBy (w.setCell ⟨g, i * 7 + j, none⟩ u) (some g) := by
  obtain ⟨h1, h2⟩ := h.row.stored (i * 7 + j) u
  refine ⟨⟨?_, ?_, hd⟩, h2⟩
  · have e : (nodsV ps).set (i * 7 + j) u = nodsV (ps.set i q) := by
      unfold nodsV
      rw [flat_set (nodV_len ps) (by simpa using hi) hj, List.map_set]
      congr 2
      simp only [List.getElem_map]
      exact hq
    rw [e] at h1
    simpa using h1
  · intro p hp
    have hne : ∀ {lv : Value} {es : List Ent}, Ents w R lv es → Ents (w.setCell ⟨g, i * 7 + j, none⟩ u) R lv es := fun {lv es} k => World.ownsRow.kept k h2 (ents_ne h.row k rfl)
    rcases List.mem_or_eq_of_mem_set hp with hp | rfl
    · exact hne (h.ent p hp)
    · exact hne he
theorem Own.snoc {w w1 : World} {R : Nat} {nv nv' : Value} {ps : List (Nod × Value)} {q : Nod × Value} (h : Own w R nv ps) (hr : w1.ownsRow R 91 7 nv' (ps.length + 1) (nodsV ps ++ nodV q)) (hg : w.grownBy w1 nv.ownBlock)
    (he : Ents w R q.2 q.1.list) (hd : Dist (ps ++ [q])) : Own w1 R nv' (ps ++ [q]) := by
  have hk : ∀ {lv : Value} {es : List Ent}, Ents w R lv es → Ents w1 R lv es := fun {lv es} k => by
    cases hb : nv.ownBlock with
    | none =>
      rw [hb] at hg
      refine World.ownsRow.kept k hg ?_
      cases hl : lv.ownBlock with
      | none => exact .inl rfl
      | some x => exact .inr (by simp)
    | some g =>
      rw [hb] at hg
      exact World.ownsRow.kept k hg (ents_ne h.row k hb)
  refine ⟨?_, ?_, hd⟩
  · have : nodsV (ps ++ [q]) = nodsV ps ++ nodV q := by rw [nodsV_app]; simp [nodsV]
    rw [this]
    simpa using hr
  · intro p hp
    rcases List.mem_append.1 hp with hp | hp
    · exact hk (h.ent p hp)
    · rw [List.mem_singleton.1 hp]; exact hk he
theorem Own.low {w : World} {R S : Nat} {nv : Value} {ps : List (Nod × Value)} (h : Own w S nv ps) (hRS : R ≤ S) : Own w R nv ps := by
  have low : ∀ {T : TypeId} {sz n : Nat} {v : Value} {xs : List Value}, w.ownsRow S T sz v n xs → w.ownsRow R T sz v n xs := fun {T sz n v xs} k => by
    rcases k with ⟨hl, h0 | ⟨g, cap, cur, e, hB, r⟩⟩
    · exact ⟨hl, .inl h0⟩
    · exact ⟨hl, .inr ⟨g, cap, cur, e, Nat.le_trans hRS hB, r⟩⟩
  exact ⟨low h.row, fun p hp => low (h.ent p hp), h.dist⟩
/-- What is kept from R on keeps it. -/
theorem Own.up {w w' : World} {R : Nat} {nv : Value} {ps : List (Nod × Value)} (h : Own w R nv ps) (hu : ∀ i, R ≤ i → i < w.heap.size → w'.heap[i]? = w.heap[i]?) : Own w' R nv ps := by
  have up : ∀ {T : TypeId} {sz n : Nat} {v : Value} {xs : List Value}, w.ownsRow R T sz v n xs → w'.ownsRow R T sz v n xs := fun {T sz n v xs} k => by
    rcases k with ⟨hl, h0 | ⟨g, cap, cur, e, hB, hg, r⟩⟩
    · exact ⟨hl, .inl h0⟩
    · exact ⟨hl, .inr ⟨g, cap, cur, e, hB, (hu g hB (Array.getElem?_eq_some_iff.1 hg).1).trans hg, r⟩⟩
  exact ⟨up h.row, fun p hp => up (h.ent p hp), h.dist⟩
end Go.Proofs.YtpkmkpeabfmbiaaGreatDoor


/-
  The contract of the model's range test l1In.
  Conditions: none.
-/
namespace Go.Proofs.YtpkmkpeabfmbiaaGreatDoor
open Go.ChangeShapes Go.WideShapes Go.ChangeAt Go.RowKit Go.Joins
set_option linter.unusedVariables false

set_option maxHeartbeats 400000 in
theorem l1In_any (n lo hi : Int) (w : World) : Calls Tryz.prog 60 #[.int .i64 n, .int .i64 lo, .int .i64 hi] w fun e w' => e = .returned (.bool (inB lo hi n)) ∧ w = w' := by
  by_cases h0 : lo ≤ n
  · by_cases h1 : n ≤ hi
    · go_enter Tryz.func60, Tryz.ntmps60
      go_wp2
      go_ret
      exact ⟨ret_bool (inB_mk h0 h1), rfl⟩
    · go_enter Tryz.func60, Tryz.ntmps60
      go_wp2
      go_ret
      exact ⟨ret_bool (inB_no (by omega)), rfl⟩
  · go_enter Tryz.func60, Tryz.ntmps60
    go_wp2
    go_ret
    exact ⟨ret_bool (inB_no (by omega)), rfl⟩
end Go.Proofs.YtpkmkpeabfmbiaaGreatDoor


/-
  Contracts of the tests of a name on both sides: impl.isNameSign, impl.isPart, impl.GoodName, spec.l1In, spec.l2Name, spec.GoodName.
  Conditions: a rune is a number of 32 bits; a text's length is a length.
-/
namespace Go.Proofs.YtpkmkpeabfmbiaaGreatDoor
open Go.ChangeShapes Go.WideShapes Go.ChangeAt Go.RowKit Go.Joins
set_option linter.unusedVariables false

theorem sign_yes {n : Nat} (h : 97 ≤ n ∧ n ≤ 122 ∨ 48 ≤ n ∧ n ≤ 57 ∨ n = 46 ∨ n = 95 ∨ n = 45) : true = signN n := by simp [signN, h]

set_option maxHeartbeats 1000000 in
theorem sign_any (n : Nat) (w : World) (h : n ≤ 2147483647) : Calls Tryz.prog 165 #[.int .i32 (n : Int)] w fun e w' => e = .returned (.bool (signN n)) ∧ w = w' := by
  go_enter Tryz.func165, Tryz.ntmps165
  go_wp2
  all_goals
    go_ret
    exact ⟨ret_bool (by rw [Bool.eq_iff_iff]; simp [signN]; omega), rfl⟩

theorem below_iter (w : World) (s : ByteArray) (p : Nat) : Below w.heap.size w (w.iter s p) := (Below.refl _ _).alloc (Nat.le_refl _) _

theorem part_no {l : List UInt8} (h : ¬ (1 ≤ l.length ∧ l.length ≤ 8)) : false = partB l := by simp [partB, h]
theorem part_in {l : List UInt8} (h : 1 ≤ l.length ∧ l.length ≤ 8) : partB l = signsB l := by simp [partB, h]
theorem signs_bad {s : ByteArray} {k : Nat} (h : k < s.size) (hb : signN (s[k]'h).toNat = false) : signsB s.data.toList = false := by
  unfold signsB
  rw [List.all_eq_false]
  exact ⟨s[k]'h, List.getElem_mem (by simpa using h), by simp [hb]⟩

set_option maxHeartbeats 1000000 in
theorem isPart_any (s : ByteArray) (w : World) : Calls Tryz.prog 158 #[.string s] w fun e w' => e = .returned (.bool (partB s.data.toList)) ∧ Below w.heap.size w w' := by
  have hl : s.data.toList.length = s.size := len_size s
  by_cases h1 : 1 ≤ s.size
  · by_cases h8 : s.size ≤ 8
    · have e0 : ¬ ((s.size : Int) < 1) := by omega
      have e8 : ¬ (8 < (s.size : Int)) := by omega
      have HP := Lib.hid (part_in (l := s.data.toList) (by omega))
      have HL := Lib.hid hl
      clear hl
      go_enter Tryz.func158, Tryz.ntmps158
      go_wp2
      go_loopw [] (fun wr => ∃ k : Nat, wr = w.iter s k ∧ k ≤ s.size ∧ signsB (s.data.toList.take k) = true) (fun wr => s.size - wr.iterPos w.heap.size)
      case atStart => exact ⟨0, rfl, Nat.zero_le _, rfl⟩
      case round =>
        obtain ⟨k, rfl, hk, hs⟩ := hrel
        have HS := Lib.hid hs
        clear hs
        by_cases hlt : k < s.size
        · by_cases hg : signN (s[k]'hlt).toNat = true
          · have HG := Lib.hid hg
            have hnx := fun ty => run_next_ascii (P := Tryz.prog) w s k ty hlt (signN_lt hg)
            clear hg
            go_wp2_with (go_at_call 165; refine (sign_any _ _ (by have := (s[k]'hlt).toNat_lt; omega)).mono ?_; rintro e w' ⟨rfl, rfl⟩; rw [HG.out])
            go_roundw
            case rel => exact ⟨k + 1, rfl, hlt, by rw [take_snoc' s k hlt, signsB_snoc, HS.out, HG.out]; rfl⟩
            case measure => simp; omega
          · have hr : signN (Utf8.decode s k).1 = false := by
              by_cases ha : (s[k]'hlt).toNat < 128
              · rw [decode_ascii s k hlt ha]; simpa using hg
              · exact signN_hi (decode_high s k hlt (by omega)).1
            have HR := Lib.hid hr
            have HB := Lib.hid (signs_bad hlt (by simpa using hg))
            have hnx := fun ty => run_next_any (P := Tryz.prog) w s k ty hlt
            have hdl := decode_le s k
            clear hg hr
            go_wp2_with (go_at_call 165; refine (sign_any _ _ hdl).mono ?_; rintro e w' ⟨rfl, rfl⟩; rw [HR.out])
            go_ret
            exact ⟨ret_bool (by rw [HP.out, HB.out]), below_iter _ _ _⟩
        · have hnx := fun ty => run_next_end (P := Tryz.prog) w s k ty hlt
          go_wp2
          go_ret
          refine ⟨ret_bool ?_, below_iter _ _ _⟩
          rw [HP.out, ← HS.out, List.take_of_length_le (by rw [HL.out]; omega)]
    · have e0 : ¬ ((s.size : Int) < 1) := by omega
      have HP := Lib.hid (part_no (l := s.data.toList) (by omega))
      clear hl
      go_enter Tryz.func158, Tryz.ntmps158
      go_wp2
      go_ret
      exact ⟨ret_bool HP.out, Below.refl _ _⟩
  · have HP := Lib.hid (part_no (l := s.data.toList) (by omega))
    clear hl
    go_enter Tryz.func158, Tryz.ntmps158
    go_wp2
    go_ret
    exact ⟨ret_bool HP.out, Below.refl _ _⟩
end Go.Proofs.YtpkmkpeabfmbiaaGreatDoor


/-
  Contracts of impl.GoodName, spec.l2Name, spec.GoodName.
  Conditions: a text's length is a length.
-/
namespace Go.Proofs.YtpkmkpeabfmbiaaGreatDoor
open Go.ChangeShapes Go.WideShapes Go.ChangeAt Go.RowKit Go.Joins
set_option linter.unusedVariables false

set_option maxHeartbeats 1000000 in
theorem goodName_any (s : ByteArray) (w : World) : Calls Tryz.prog 164 #[.string s] w fun e w' => e = .returned (.bool (nameB s.data.toList)) ∧ Below w.heap.size w w' := by
  go_enter Tryz.func164, Tryz.ntmps164
  go_wp2_with fail
  refine (isPart_any _ _).mono ?_
  rintro e w' ⟨rfl, hb⟩
  go_wp2
  all_goals
    go_ret
    refine ⟨ret_bool ?_, hb⟩
    try simp only [ByteArray.toList_eq] at *
    simp [nameB, *]

theorem name_no {l : List UInt8} (h : signsB l = false) : false = nameB l := by simp [nameB, partB, h]
theorem name_in {l : List UInt8} (h : signsB l = true) : nameB l = (inB 1 8 l.length && (!(l == [46]) && !(l == [46, 46]))) := by
  have : decide (1 ≤ l.length ∧ l.length ≤ 8) = inB 1 8 l.length := by
    rw [Bool.eq_iff_iff]; simp [inB]; omega
  simp only [nameB, partB, h, this, Bool.and_true]

set_option maxHeartbeats 1000000 in
theorem l2Name_any (s : ByteArray) (w : World) (hs : s.size ≤ maxLen) : Calls Tryz.prog 133 #[.string s] w fun e w' => e = .returned (.bool (nameB s.data.toList)) ∧ w = w' := by
  unfold maxLen at hs
  go_enter Tryz.func133, Tryz.ntmps133
  go_wp2
  go_loop [3] (fun i => ∃ k : Nat, k ≤ s.size ∧ i = .int .i64 k ∧ signsB (s.data.toList.take k) = true) (fun i => s.size - (intOf i).toNat)
  case atStart => exact ⟨0, Nat.zero_le _, rfl, rfl⟩
  case round =>
    obtain ⟨k, hk, rfl, hg⟩ := hrel
    have HG := Lib.hid hg
    clear hg
    by_cases hlt : k < s.size
    · go_wp2
      all_goals first
        | (go_round
           case rel => exact ⟨k + 1, hlt, by go_num, by rw [take_snoc' s k hlt, signsB_snoc, HG.out]; simp at *; simp [signN]; omega⟩
           case measure => simp [intOf]; omega)
        | (go_ret
           refine ⟨ret_bool (name_no (signs_bad hlt ?_)), rfl⟩
           simp at *; simp [signN]; omega)
    · have HN := Lib.hid (name_in (l := s.data.toList) (by rw [← HG.out, List.take_of_length_le (by rw [len_size]; omega)]))
      go_wp2_with (go_at_call 60; refine (l1In_any _ _ _ _).mono ?_; rintro e w' ⟨rfl, rfl⟩)
      all_goals
        go_ret
        refine ⟨ret_bool ?_, rfl⟩
        rw [HN.out]
        simp only [ByteArray.toList_eq, len_size] at *
        simp [*]

end Go.Proofs.YtpkmkpeabfmbiaaGreatDoor


/-
  The iterator impl.partsIn: it gives the parts of a text between slashes, in order, to whatever loop body keeps the text's own box and all iterators.
  Conditions: a text's length is a length.
-/
namespace Go.Proofs.YtpkmkpeabfmbiaaGreatDoor
open Go.RowKit Go.Shelf
set_option linter.unusedVariables false
attribute [local go_sem] Oper.semAt_some

/-- What a round keeps: the iterators, and the text in box b. -/
def KpB (b : Nat) (W W' : World) : Prop := KeepsWalks W W' ∧ W'.cell? ⟨b, 0, none⟩ = W.cell? ⟨b, 0, none⟩
theorem kpB_t {b : Nat} {X Y Z : World} (h : KpB b X Y) (k : KpB b Y Z) : KpB b X Z := ⟨h.1.trans k.1, k.2.trans h.2⟩
theorem kpB_b {b : Nat} {w : World} (hb : b < w.heap.size) (W : World) (l : Nat) (o o' : Obj) (hl : w.heap.size ≤ l) (h : W.heap[l]? = some o) (_ : o.isCells = false) (hw : o.isWalk = false) : KpB b W (W.putObj l o') :=
  ⟨KeepsWalks.putObj _ h hw, World.cell?_of_block (World.putObj_heap_other (show b ≠ l by omega))⟩
theorem kpB_below {b n₀ : Nat} {W W' : World} (h : KeepsOthers W W') (hb : Below n₀ W W') (hn : b < n₀) : KpB b W W' := ⟨h.walks, hb.cell (p := ⟨b, 0, none⟩) hn⟩
theorem others_below {W W' : World} (hb : Below W.heap.size W W') : KeepsOthers W W' := ⟨hb.size, fun k o hk _ => (hb.block k (Array.getElem?_eq_some_iff.1 hk).1).trans hk⟩

theorem sp_prefix (a b : List UInt8) : (sp a).1 <+: (sp (a ++ b)).1 := by
  induction b generalizing a with
  | nil => simp
  | cons c b ih =>
    have e : a ++ c :: b = (a ++ [c]) ++ b := by simp
    rw [e]
    refine List.IsPrefix.trans ?_ (ih (a ++ [c]))
    rw [sp_snoc, spStep]
    split
    · exact ⟨[(sp a).2], rfl⟩
    · exact List.prefix_refl _
theorem full_prefix {a b : List (List UInt8)} (h : a <+: b) : full a <+: full b := by
  obtain ⟨t, rfl⟩ := h
  exact ⟨full t, (full_app a t).symm⟩
theorem done_prefix (l : List UInt8) (k : Nat) : full (sp (l.take k)).1 <+: parts l := by
  have h := sp_prefix (l.take k) (l.drop k)
  rw [List.take_append_drop] at h
  refine (full_prefix h).trans ?_
  exact full_prefix ⟨[(sp l).2], rfl⟩
theorem len_of_prefix {a b : List (List UInt8)} {x : List UInt8} (h : a ++ [x] <+: b) : a.length < b.length := by
  have := h.length_le; simp at this; omega
theorem map_prefix {a b : List (List UInt8)} (h : a <+: b) : a.map bs <+: b.map bs := by
  obtain ⟨t, rfl⟩ := h
  exact ⟨t.map bs, by simp⟩

/-- How far a text has been cut, at a place between two runes. -/
structure Cut (s : ByteArray) (pos frm : Nat) : Prop where
  le : frm ≤ pos
  top : pos ≤ s.size
  cur : (sp (s.data.toList.take pos)).2 = (s.data.toList.take pos).drop frm

/-- What has been given till then. -/
def given (s : ByteArray) (pos : Nat) : List (List UInt8) := full (sp (s.data.toList.take pos)).1

theorem Cut.start (s : ByteArray) : Cut s 0 0 := ⟨Nat.le_refl _, Nat.zero_le _, by simp [sp]⟩
theorem given_start (s : ByteArray) : given s 0 = [] := by simp [given, sp, full]
theorem Cut.rune {s : ByteArray} {pos frm : Nat} (h : Cut s pos frm) (hp : pos < s.size) (hn : (Utf8.decode s pos).1 ≠ 47) : Cut s (pos + (Utf8.decode s pos).2) frm ∧ given s (pos + (Utf8.decode s pos).2) = given s pos := by
  obtain ⟨hle, h1, _⟩ := decode_bytes s pos hp
  have e := sp_rune s pos hp hn
  refine ⟨⟨by have := h.le; omega, hle, ?_⟩, by unfold given; rw [e]⟩
  rw [e]
  simp only
  rw [h.cur]
  have hl := len_size s
  have e1 := (List.take_append_drop pos (s.data.toList.take (pos + (Utf8.decode s pos).2))).symm
  rw [List.take_take, Nat.min_eq_left (by omega)] at e1
  conv => rhs; rw [e1]
  rw [List.drop_append_of_le_length (by rw [List.length_take]; have := h.le; omega)]
theorem Cut.slash {s : ByteArray} {pos frm : Nat} (h : Cut s pos frm) (hp : pos < s.size) (h47 : (s[pos]'hp) = 47) :
    Cut s (pos + 1) (pos + 1) ∧ sp (s.data.toList.take (pos + 1)) = ((sp (s.data.toList.take pos)).1 ++ [(s.data.toList.take pos).drop frm], []) := by
  have e : sp (s.data.toList.take (pos + 1)) = ((sp (s.data.toList.take pos)).1 ++ [(s.data.toList.take pos).drop frm], []) := by
    rw [take_snoc' s pos hp, sp_snoc, spStep, if_pos h47, h.cur]
  refine ⟨⟨Nat.le_refl _, hp, ?_⟩, e⟩
  rw [e]
  exact (List.drop_eq_nil_of_le (by rw [List.length_take]; omega)).symm
theorem Cut.gives {s : ByteArray} {pos frm : Nat} (h : Cut s pos frm) (hp : pos < s.size) (h47 : (s[pos]'hp) = 47) (hlt : frm < pos) : given s (pos + 1) = given s pos ++ [(s.data.toList.take pos).drop frm] := by
  unfold given
  rw [(h.slash hp h47).2, full_app]
  have : (s.data.toList.take pos).drop frm ≠ [] := by
    intro e
    have := congrArg List.length e
    have hl := len_size s
    simp only [List.length_drop, List.length_take, List.length_nil, hl] at this
    omega
  simp [full, this]
theorem Cut.skips {s : ByteArray} {pos frm : Nat} (h : Cut s pos frm) (hp : pos < s.size) (h47 : (s[pos]'hp) = 47) (hlt : ¬ frm < pos) : given s (pos + 1) = given s pos := by
  unfold given
  rw [(h.slash hp h47).2, full_app]
  have : (s.data.toList.take pos).drop frm = [] := List.drop_eq_nil_of_le (by rw [List.length_take]; have := h.le; omega)
  simp [full, this]
theorem Cut.last {s : ByteArray} {frm : Nat} (h : Cut s s.size frm) (hlt : frm < s.size) : parts s.data.toList = given s s.size ++ [(s.data.toList.take s.size).drop frm] := by
  have hl := len_size s
  have c := h.cur
  have ht : s.data.toList.take s.size = s.data.toList := List.take_of_length_le (by omega)
  unfold parts given
  rw [full_app]
  rw [ht] at c ⊢
  rw [c]
  have : s.data.toList.drop frm ≠ [] := by
    intro e
    have := congrArg List.length e
    simp only [List.length_drop, List.length_nil, hl] at this
    omega
  simp [full, this]
theorem Cut.ended {s : ByteArray} {frm : Nat} (h : Cut s s.size frm) (hlt : ¬ frm < s.size) : parts s.data.toList = given s s.size := by
  have hl := len_size s
  have c := h.cur
  have ht : s.data.toList.take s.size = s.data.toList := List.take_of_length_le (by omega)
  unfold parts given
  rw [full_app]
  rw [ht] at c ⊢
  rw [c, List.drop_eq_nil_of_le (by omega)]
  simp [full]
theorem given_prefix (s : ByteArray) (pos : Nat) : given s pos <+: parts s.data.toList := done_prefix _ _

theorem slash_byte {s : ByteArray} {pos : Nat} (hp : pos < s.size) (h : (Utf8.decode s pos).1 = 47) : (s[pos]'hp) = 47 ∧ (Utf8.decode s pos).2 = 1 := by
  obtain ⟨h1, h2⟩ := decode_low s pos hp (by omega)
  exact ⟨UInt8.toNat_inj.1 (by rw [h1, h]; rfl), h2⟩

theorem abides_next {J : List ByteArray → World → Prop} {B I : Nat} (h : AbidesFrom B J) {pre : List ByteArray} {W : World} (hj : J pre W) {s : ByteArray} {pos : Nat} (hI : W.heap[I]? = some (.stringIter s pos)) (hB : B ≤ I) (pos' : Nat) : J pre (W.iterAt I s pos') :=
  h pre W _ (some I) hj ⟨rfl, rfl, rfl, by rw [Lib.iterAt_size]; exact Nat.le_refl _, fun k _ hk => Lib.iterAt_other W I k s pos' (fun e => hk (by rw [e]))⟩ (fun r e => by cases e; exact ⟨hB, _, hI, rfl⟩)
theorem cell_iterAt {W : World} {I : Nat} {s : ByteArray} {pos : Nat} {b : Nat} {v : Value} (hI : W.heap[I]? = some (.stringIter s pos)) (h : W.cell? ⟨b, 0, none⟩ = some v) (pos' : Nat) : (W.iterAt I s pos').cell? ⟨b, 0, none⟩ = some v := by
  have hne : b ≠ I := by
    intro e
    subst e
    simp [World.cell?, hI] at h
  exact (World.cell?_of_block (a := ⟨b, 0, none⟩) (Lib.iterAt_other W I b s pos' hne)).trans h

end Go.Proofs.YtpkmkpeabfmbiaaGreatDoor


/-
  Lists of texts in memory: one that the call itself has built by append, and one that can be read; contracts of spec.l1Split (at slashes), spec.l2Parts.
  Conditions: a text of at most 2^30 bytes.
-/
namespace Go.Proofs.YtpkmkpeabfmbiaaGreatDoor
open Go.ChangeShapes Go.WideShapes Go.ChangeAt Go.RowKit Go.Joins
set_option linter.unusedVariables false

theorem strInfo : (Tryz.prog.info? 9).map (fun i => (i.zero, i.size, i.bytes)) = some (some (.string ⟨#[]⟩), 1, 16) := by kernel_rfl

def strs (ps : List (List UInt8)) : List Value := ps.map fun p => .string (bs p)
/-- The value is a list of texts that the call has built, in blocks from B on. -/
def Lst (w : World) (B : Nat) (v : Value) (ps : List (List UInt8)) : Prop := w.ownsRow B 9 1 v ps.length (strs ps)
/-- The value reads as a list of texts. -/
def Rd (w : World) (v : Value) (ps : List (List UInt8)) : Prop :=
  ∃ o c, v = .slice o ps.length c ∧ ps.length ≤ c ∧ c ≤ maxLen ∧ ∀ i (h : i < ps.length), ∃ g off, o = some ⟨g, off, none⟩ ∧ g < w.heap.size ∧ w.cell? ⟨g, off + i, none⟩ = some (.string (bs ps[i]))

theorem Lst.nil (w : World) (B : Nat) : Lst w B (.slice none 0 0) [] := World.ownsRow_nil _ _ _ _
theorem Lst.alloc {w : World} {B : Nat} {v : Value} {ps : List (List UInt8)} (h : Lst w B v ps) (o : Obj) : w.alloc o |>.ownsRow B 9 1 v ps.length (strs ps) := World.ownsRow.alloc h o
theorem Lst.snoc {w : World} {B : Nat} {v : Value} {ps : List (List UInt8)} {p : List UInt8} {x : ByteArray} (hx : x = bs p) (h : w.ownsRow B 9 1 v (ps.length + 1) (strs ps ++ [.string x])) : Lst w B v (ps ++ [p]) := by
  subst hx
  unfold Lst
  simpa [strs] using h
theorem Lst.read {w : World} {B : Nat} {v : Value} {ps : List (List UInt8)} (h : Lst w B v ps) : Rd w v ps := by
  rcases h with ⟨hl, ⟨rfl, h0⟩ | ⟨g, cap, cur, rfl, hB, hg, hn, hm, hs, ht⟩⟩
  · have : ps = [] := List.eq_nil_of_length_eq_zero h0
    subst this
    exact ⟨none, 0, rfl, Nat.le_refl _, Nat.zero_le _, fun i hi => absurd hi (by simp)⟩
  · refine ⟨_, _, rfl, hn, hm, fun i hi => ⟨g, 0, rfl, (Array.getElem?_eq_some_iff.1 hg).1, ?_⟩⟩
    have h1 : cur[i]? = some (.string (bs ps[i])) := by
      rw [← Array.getElem?_toList]
      have h2 : (cur.toList.take (ps.length * 1))[i]? = some (.string (bs ps[i])) := by
        rw [ht]; simp [strs, hi]
      rw [List.getElem?_take] at h2
      rw [if_pos (by omega)] at h2
      exact h2
    simp [World.cell?, hg, h1]
theorem Rd.below {w w' : World} {v : Value} {ps : List (List UInt8)} (h : Rd w v ps) (hb : Below w.heap.size w w') : Rd w' v ps := by
  obtain ⟨o, c, rfl, h1, h2, h3⟩ := h
  refine ⟨o, c, rfl, h1, h2, fun i hi => ?_⟩
  obtain ⟨g, off, e, hg, hc⟩ := h3 i hi
  exact ⟨g, off, e, Nat.lt_of_lt_of_le hg hb.size, (hb.cell (p := ⟨g, off + i, none⟩) hg).trans hc⟩
theorem Rd.nil (w : World) : Rd w (.slice none 0 0) [] := ⟨none, 0, rfl, Nat.le_refl _, Nat.zero_le _, fun i hi => absurd hi (by simp)⟩

theorem lst_mono {w : World} {A B : Nat} {v : Value} {ps : List (List UInt8)} (h : Lst w B v ps) (hAB : A ≤ B) : Lst w A v ps := by
  rcases h with ⟨hl, hn | ⟨g, cap, cur, e, hB, rest⟩⟩
  · exact ⟨hl, .inl hn⟩
  · exact ⟨hl, .inr ⟨g, cap, cur, e, Nat.le_trans hAB hB, rest⟩⟩

/-- What stands behind an append onto such a list. -/
theorem below_app {w wr w1 : World} {B : Nat} {v : Value} {n : Nat} {xs : List Value} {tmp : Obj} (hb : Below B w wr) (hB : B ≤ wr.heap.size) (hown : wr.ownsRow B 9 1 v n xs) (hg : (wr.alloc tmp).grownBy w1 v.ownBlock) : Below B w w1 := by
  refine (hb.alloc hB tmp).grown hg (by simp; omega) fun j ej => ?_
  rcases hown.2 with ⟨rfl, _⟩ | ⟨g, cap, cur, rfl, hgb, _, _⟩
  · simp [Value.ownBlock] at ej
  · obtain rfl : g = j := by simpa [Value.ownBlock] using ej
    exact hgb

theorem sp_one_le (l : List UInt8) : (sp l).1.length ≤ l.length := by have := sp_le l; omega

theorem not47 {c : UInt8} (h : c ≠ 47) : (c.toNat : Int) ≠ 47 := by
  intro e
  refine h (UInt8.toNat_inj.1 ?_)
  show c.toNat = 47
  omega

set_option maxHeartbeats 1000000 in
theorem l1Split_any (s : ByteArray) (w : World) (hs : s.size ≤ 1073741824) : Calls Tryz.prog 109 #[.string s, .int .u8 47] w fun e w' => ∃ v, e = .returned v ∧ Lst w' w.heap.size v ((sp s.data.toList).1 ++ [(sp s.data.toList).2]) ∧ Below w.heap.size w w' := by
  obtain ⟨i0, hi, hz0, hz1, hz2⟩ := info_parts strInfo
  go_enter Tryz.func109, Tryz.ntmps109
  go_wp2
  go_loopw [5, 6, 7] (fun v f i wr => ∃ k frm : Nat, i = .int .i64 k ∧ f = .int .i64 frm ∧ Cut s k frm ∧ Lst wr w.heap.size v (sp (s.data.toList.take k)).1 ∧ Below w.heap.size w wr) (fun _ _ i _ => s.size - (intOf i).toNat)
  case atStart => exact ⟨0, 0, rfl, rfl, Cut.start s, Lst.nil _ _, Below.refl _ _⟩
  case round =>
    obtain ⟨k, frm, rfl, rfl, hC, hL, hB⟩ := hrel
    have HC := Lib.hid hC
    have hle := hC.le
    have htop := hC.top
    have hlen : (sp (s.data.toList.take k)).1.length ≤ k := Nat.le_trans (sp_one_le _) (List.length_take_le _ _)
    clear hC
    by_cases hlt : k < s.size
    · by_cases h47 : (s[k]'hlt) = 47
      · have hb : ((s[k]'hlt).toNat : Int) = 47 := by rw [h47]; rfl
        have HB := Lib.hid h47
        clear h47
        go_wp2_with (at_builtin; refine wpList_append_own _ rfl _ _ 116 rfl w.heap.size 9 i0 (.string ⟨#[]⟩) 1 16 Tryz.underlying116 hi hz0 hz1 hz2 rfl (by decide) _ _ _ rfl (hL.alloc _) ⟨wr.heap.size, 0, none⟩ 1 1 [.string (s.extract frm k)] rfl rfl (cell_one_new _ _ _) (by simp [Value.oneCell']) (by unfold maxLen; omega) (by omega) (by have := hB.size; simp; omega) ?_)
        intro v' w1 hown' hgrow _
        have hb1 := below_app hB hB.size hL hgrow
        have HL := Lib.hid (Lst.snoc (bs_ext s frm k) hown')
        clear hown' hgrow hL
        go_wp2
        go_roundw
        case rel => exact ⟨k + 1, k + 1, by go_num, by go_num, (HC.out.slash hlt HB.out).1, by rw [(HC.out.slash hlt HB.out).2]; exact HL.out, hb1⟩
        case measure => simp [intOf]; omega
      · have hb : ((s[k]'hlt).toNat : Int) ≠ 47 := not47 h47
        have hb' : (((s[k]'hlt).toNat : Int) == 47) = false := by simpa using hb
        have HB := Lib.hid h47
        clear h47 hb
        go_wp2
        go_roundw
        case rel =>
          have e1 := sp_snoc (s.data.toList.take k) (s[k]'hlt)
          rw [← take_snoc' s k hlt, spStep, if_neg HB.out] at e1
          refine ⟨k + 1, frm, by go_num, rfl, ⟨by omega, hlt, ?_⟩, by rw [e1]; exact hL, hB⟩
          rw [e1, HC.out.cur, take_snoc' s k hlt]
          have := len_size s
          rw [List.drop_append_of_le_length (by rw [List.length_take]; omega)]
        case measure => simp [intOf]; omega
    · obtain rfl : k = s.size := by omega
      go_wp2_with (at_builtin; refine wpList_append_own _ rfl _ _ 116 rfl w.heap.size 9 i0 (.string ⟨#[]⟩) 1 16 Tryz.underlying116 hi hz0 hz1 hz2 rfl (by decide) _ _ _ rfl (hL.alloc _) ⟨wr.heap.size, 0, none⟩ 1 1 [.string (s.extract frm s.size)] rfl rfl (cell_one_new _ _ _) (by simp [Value.oneCell']) (by unfold maxLen; omega) (by omega) (by have := hB.size; simp; omega) ?_)
      intro v' w1 hown' hgrow _
      have hb1 := below_app hB hB.size hL hgrow
      have HL := Lib.hid (Lst.snoc (bs_ext s frm s.size) hown')
      clear hown' hgrow hL
      go_wp2
      go_ret
      refine ⟨_, rfl, ?_, hb1⟩
      have h1 := HL.out
      have c := HC.out.cur
      rw [← c] at h1
      rwa [List.take_of_length_le (by rw [len_size]; omega)] at h1
end Go.Proofs.YtpkmkpeabfmbiaaGreatDoor


/-
  Contracts of the laws' own helpers on lists of texts: szStringS, toStringS, eqStringS.
  Conditions: lists of at most 2^20 texts for toStringS; lengths are lengths.
-/
namespace Go.Proofs.YtpkmkpeabfmbiaaGreatDoor
open Go.ChangeShapes Go.WideShapes Go.ChangeAt Go.RowKit Go.Joins
set_option linter.unusedVariables false

/-- The value reads as a list of texts, wherever it lies. -/
def RdA (w : World) (v : Value) (ps : List (List UInt8)) : Prop :=
  ∃ o c, v = .slice o ps.length c ∧ ps.length ≤ maxLen ∧ ∀ i (h : i < ps.length), ∃ ad : Addr, o = some ad ∧ ad.block < w.heap.size ∧ w.cell? (ad.add i) = some (.string (bs ps[i])) ∧ ps[i].length ≤ maxLen
theorem block_add (a : Addr) (i : Nat) : (a.add i).block = a.block := by unfold Addr.add; split <;> rfl
theorem RdA.below {w w' : World} {v : Value} {ps : List (List UInt8)} (h : RdA w v ps) (hb : Below w.heap.size w w') : RdA w' v ps := by
  obtain ⟨o, c, rfl, hm, hH⟩ := h
  refine ⟨o, c, rfl, hm, fun i hi => ?_⟩
  obtain ⟨ad, e, hg, hc, hl⟩ := hH i hi
  exact ⟨ad, e, Nat.lt_of_lt_of_le hg hb.size, (hb.cell (p := ad.add i) (by rw [block_add]; exact hg)).trans hc, hl⟩

def lens (ps : List (List UInt8)) : Nat := (ps.map List.length).sum
theorem lens_take {ps : List (List UInt8)} {k : Nat} (h : k < ps.length) : lens (ps.take (k + 1)) = lens (ps.take k) + ps[k].length := by
  unfold lens; rw [List.take_succ_eq_append_getElem h]; simp only [List.map_append, List.sum_append, List.map_cons, List.map_nil, List.sum_cons, List.sum_nil, Nat.add_zero]
theorem lens_pre (ps : List (List UInt8)) (k : Nat) : lens (ps.take k) ≤ lens ps := by
  conv => rhs; rw [← List.take_append_drop k ps]
  unfold lens; rw [List.map_append, List.sum_append]; omega

/-- What szStringS gives. -/
def szR (ps : List (List UInt8)) (left : Int) : Int := if (ps.length : Int) + lens ps ≤ left then left - ps.length - lens ps else -1

def zs (n : Nat) : List Value := List.replicate n (.string ⟨#[]⟩)
theorem set_step {ps : List (List UInt8)} {k : Nat} (h : k < ps.length) : (strs (ps.take k) ++ zs (ps.length - k)).set k (.string (bs ps[k])) = strs (ps.take (k + 1)) ++ zs (ps.length - (k + 1)) := by
  have hl : (strs (ps.take k)).length = k := by simp [strs]; omega
  rw [List.set_append_right _ _ (by omega), hl, Nat.sub_self, List.take_succ_eq_append_getElem h]
  obtain ⟨m, hm⟩ : ∃ m, ps.length - k = m + 1 := ⟨ps.length - k - 1, by omega⟩
  have hm2 : ps.length - (k + 1) = m := by omega
  rw [hm, hm2]
  simp only [strs, zs, List.replicate_succ, List.set_cons_zero, List.map_append, List.map_cons, List.map_nil, List.append_assoc, List.cons_append, List.nil_append]
theorem old_at {ps : List (List UInt8)} {k : Nat} (h : k < ps.length) : (strs (ps.take k) ++ zs (ps.length - k))[k]? = some (.string ⟨#[]⟩) := by
  have hl : (strs (ps.take k)).length = k := by simp [strs]; omega
  obtain ⟨m, hm⟩ : ∃ m, ps.length - k = m + 1 := ⟨ps.length - k - 1, by omega⟩
  rw [List.getElem?_append_right (Nat.le_of_eq hl), hl, Nat.sub_self, hm]
  rfl

def eqB (a b : List (List UInt8)) : Bool := decide (a = b)

end Go.Proofs.YtpkmkpeabfmbiaaGreatDoor


/-
  Contracts of the laws' own helpers markText, markStringS, heldStringS.
  Conditions: marks from 1 to 100000000.
-/
namespace Go.Proofs.YtpkmkpeabfmbiaaGreatDoor
open Go.ChangeShapes Go.WideShapes Go.ChangeAt Go.RowKit Go.Joins
set_option linter.unusedVariables false

/-- The text whose bytes are these numbers. -/
def strOf (l : List Int) : ByteArray := ⟨(l.map fun n => UInt8.ofNat n.toNat).toArray⟩
theorem strOf_fold : ∀ (l : List Int) (r : ByteArray), l.foldl (fun r n => r.push (UInt8.ofNat n.toNat)) r = r ++ strOf l
  | [], r => by apply ByteArray.ext; simp [strOf]
  | n :: l, r => by
    rw [List.foldl_cons, strOf_fold l]
    apply ByteArray.ext
    simp [strOf, ByteArray.push]
theorem load_new {P : Program} (w : World) (l : List Int) (t : TypeId) :
    (loadCells ⟨w.heap.size, 0, none⟩ l.length).run P (w.alloc (.cells (l.map (Value.int .u8)).toArray t)) = .ok (l.map (Value.int .u8)).toArray (w.alloc (.cells (l.map (Value.int .u8)).toArray t)) := by
  have h := run_loadCells_list (P := P) (w.alloc (.cells (l.map (Value.int .u8)).toArray t)) ⟨w.heap.size, 0, none⟩ (l.map (Value.int .u8)) (fun j v hj => by
    have e : (⟨w.heap.size, 0, none⟩ : Addr).add j = ⟨w.heap.size, j, none⟩ := by
      unfold Addr.add
      split <;> simp_all
    rw [e, World.cell?_alloc_mark]
    simpa using hj)
  simpa using h
/-- string(b) of a new slice of bytes. -/
theorem str_new (w : World) (l : List Int) (cap : Nat) :
    (convert 146 9 (.slice (some ⟨w.heap.size, 0, none⟩) l.length cap)).run Tryz.prog (w.alloc (.cells (l.map (Value.int .u8)).toArray 5)) = .ok (.string (strOf l)) (w.alloc (.cells (l.map (Value.int .u8)).toArray 5)) := by
  rw [run_convert_bytes_string _ 146 9 5 _ _ _ Tryz.underlying146 Tryz.underlying5 Tryz.underlying9, run_bytesToString _ _ _ _ l (load_new w l 5), strOf_fold]
  congr 2
theorem str_new1 (w : World) (a : Int) : (convert 146 9 (.slice (some ⟨w.heap.size, 0, none⟩) 1 1)).run Tryz.prog (w.alloc (.cells #[.int .u8 a] 5)) = .ok (.string (strOf [a])) (w.alloc (.cells #[.int .u8 a] 5)) := str_new w [a] 1

/-- The digits of a number ahead of a text, at most so many. -/
def digsF : Nat → Nat → List UInt8 → List UInt8
  | 0, _, acc => acc
  | f + 1, k, acc => if k = 0 then acc else digsF f (k / 10) (UInt8.ofNat (48 + k % 10) :: acc)
def digs (k : Nat) (acc : List UInt8) : List UInt8 := digsF k k acc
theorem digsF_zero (f : Nat) (acc : List UInt8) : digsF f 0 acc = acc := by cases f <;> simp [digsF]
theorem digsF_step {f k : Nat} (h : k ≠ 0) (acc : List UInt8) : digsF (f + 1) k acc = digsF f (k / 10) (UInt8.ofNat (48 + k % 10) :: acc) := by simp [digsF, h]
def mt (k : Nat) : ByteArray := bs (109 :: digs k [])
theorem str_dig (k : Nat) : strOf [48 + (k : Int) % 10] = bs [UInt8.ofNat (48 + k % 10)] := by
  unfold strOf bs
  have : (48 + (k : Int) % 10).toNat = 48 + k % 10 := by omega
  simp only [List.map_cons, List.map_nil, this]

set_option maxHeartbeats 1000000 in
theorem markText_any (k : Nat) (w : World) (h0 : 1 ≤ k) (h1 : k ≤ 100000000) : Calls Tryz.prog 48 #[.int .i64 k] w fun e w' => e = .returned (.string (mt k)) ∧ Below w.heap.size w w' := by
  have hs := str_new1
  have hk0 : ¬ (k : Int) ≤ 0 := by omega
  go_enter Tryz.func48, Tryz.ntmps48
  go_wp2
  go_loopw [0, 3] (fun j t wr => ∃ (i : Nat) (acc : List UInt8), i ≤ 100000000 ∧ j = .int .i64 i ∧ t = .string (bs acc) ∧ acc.length + i ≤ 200000000 ∧ (∃ f, i ≤ f ∧ digsF f i acc = digs k []) ∧ Below w.heap.size w wr) (fun j _ _ => (intOf j).toNat)
  case atStart => exact ⟨k, [], h1, rfl, rfl, by simp; omega, ⟨k, Nat.le_refl _, rfl⟩, Below.refl _ _⟩
  case round =>
    obtain ⟨i, acc, hi, rfl, rfl, hal, ⟨f, hf, hd⟩, hB⟩ := hrel
    have HD := Lib.hid hd
    clear hd
    by_cases hp : 0 < i
    · obtain ⟨f, rfl⟩ : ∃ g, f = g + 1 := ⟨f - 1, by omega⟩
      have hz : (bs acc).size ≤ 200000000 := by rw [bs_size]; omega
      have HX : Hid (strOf [48 + (i : Int) % 10] ++ bs acc = bs (UInt8.ofNat (48 + i % 10) :: acc)) := Lib.hid (by rw [str_dig, bs_app]; rfl)
      have hz1 : (strOf [48 + (i : Int) % 10]).size = 1 := rfl
      have hp' : 0 < (i : Int) := by omega
      have hr1 : (i : Int) % 10 ≤ 9 := by omega
      have hr0 : 0 ≤ (i : Int) % 10 := by omega
      have hzz : ¬ 9223372036854775807 < (strOf [48 + (i : Int) % 10]).size + (bs acc).size := by omega
      clear hz1
      go_wp2
      go_roundw
      case rel => exact ⟨i / 10, UInt8.ofNat (48 + i % 10) :: acc, by omega, by go_num, by rw [HX.out], by simp; omega, ⟨f, by omega, by rw [← HD.out, digsF_step (k := i) (by omega)]⟩, hB.alloc hB.size _⟩
      case measure => simp [intOf]; omega
    · obtain rfl : i = 0 := by omega
      have HE : Hid (acc = digs k []) := Lib.hid (by rw [← HD.out, digsF_zero])
      have hz : (bs acc).size ≤ 200000000 := by rw [bs_size]; omega
      go_wp2
      go_ret
      refine ⟨ret_str ?_, hB⟩
      unfold mt
      rw [← HE.out]
      exact bs_app [109] acc

theorem mark_set {ps : List (List UInt8)} {k m : Nat} (h : k < ps.length) : ((List.range k).map (fun j => Value.string (mt (m + j))) ++ strs (ps.drop k)).set k (.string (mt (m + k))) = (List.range (k + 1)).map (fun j => Value.string (mt (m + j))) ++ strs (ps.drop (k + 1)) := by
  have hl : ((List.range k).map (fun j => Value.string (mt (m + j)))).length = k := by simp
  rw [List.set_append_right _ _ (Nat.le_of_eq hl), hl, Nat.sub_self, List.drop_eq_getElem_cons h, List.range_succ]
  simp only [strs, List.map_cons, List.set_cons_zero, List.map_append, List.map_nil, List.append_assoc, List.cons_append, List.nil_append]
theorem mark_old {ps : List (List UInt8)} {k m : Nat} (h : k < ps.length) : ((List.range k).map (fun j => Value.string (mt (m + j))) ++ strs (ps.drop k))[k]? = some (.string (bs ps[k])) := by
  have hl : ((List.range k).map (fun j => Value.string (mt (m + j)))).length = k := by simp
  rw [List.getElem?_append_right (Nat.le_of_eq hl), hl, Nat.sub_self, List.drop_eq_getElem_cons h]
  rfl

/-- A row of marks, from m on. -/
def marks (m n : Nat) : List (List UInt8) := (List.range n).map fun j => 109 :: digs (m + j) []
theorem strs_marks (m n : Nat) : strs (marks m n) = (List.range n).map (fun j => Value.string (mt (m + j))) := by
  unfold strs marks mt; rw [List.map_map]; rfl
theorem marks_len (m n : Nat) : (marks m n).length = n := by simp [marks]
theorem marks_at (m n k : Nat) (h : k < (marks m n).length) : (marks m n)[k] = 109 :: digs (m + k) [] := by simp [marks]

theorem below_drewN {w w1 : World} {B : Nat} (h : Below B w w1) (n : Nat) : Below B w (w1.drewN n) := ⟨h.os, h.tape, h.output, h.size, h.block⟩

theorem lst_below {w w' : World} {B : Nat} {v : Value} {ps : List (List UInt8)} (h : Lst w B v ps) (hb : Below w.heap.size w w') : Lst w' B v ps := by
  refine World.ownsRow.kept h (row := none) ⟨hb.os, hb.tape, hb.output, hb.size, fun i hi _ => hb.block i hi⟩ ?_
  rcases h.2 with ⟨rfl, _⟩ | ⟨g, cap, cur, rfl, _⟩
  · exact .inl rfl
  · exact .inr (by simp [Value.ownBlock])
end Go.Proofs.YtpkmkpeabfmbiaaGreatDoor
