/-
  Joined: FsW OwnF AppG CopF FsS FsT FsU.
  Conditions: as each states.
-/
import Derived.Laws.OwnMore
import Derived.Deep.SlicePairs
import Derived.Test.YtknhacblialboaaGreatDoorLib1
namespace Go.Proofs.YtknhacblialboaaGreatDoor
open Go.ChangeShapes Go.WideShapes Go.ChangeAt Go.RowKit Go.Joins
set_option linter.unusedVariables false
set_option linter.unusedSimpArgs false
set_option maxHeartbeats 16000000
theorem flat_len {k : Nat} : ∀ {rows : List (List Value)}, (∀ r ∈ rows, r.length = k) → rows.flatten.length = rows.length * k
 | [], _ => by simp
 | r :: rs, h => by
   have h1 := flat_len (rows := rs) (fun x hx => h x (by simp [hx]))
   have h2 := h r (by simp)
   simp only [List.flatten_cons, List.length_append, List.length_cons, h1, h2, Nat.succ_mul]
   omega
theorem flat_get {k : Nat} : ∀ {rows : List (List Value)}, (∀ r ∈ rows, r.length = k) → ∀ {i j : Nat} (hi : i < rows.length), j < k → rows.flatten[i * k + j]? = rows[i][j]?
 | [], _, i, j, hi, _ => by simp at hi
 | r :: rs, h, 0, j, hi, hj => by
   have h2 := h r (by simp)
   simp only [List.flatten_cons, Nat.zero_mul, Nat.zero_add, List.getElem_cons_zero]
   rw [List.getElem?_append_left (by omega)]
 | r :: rs, h, i + 1, j, hi, hj => by
   have h2 := h r (by simp)
   simp only [List.flatten_cons, List.getElem_cons_succ]
   rw [List.getElem?_append_right (by rw [h2, Nat.succ_mul]; omega), h2, show (i + 1) * k + j - k = i * k + j by rw [Nat.succ_mul]; omega]
   exact flat_get (fun x hx => h x (by simp [hx])) (by simpa using hi) hj
theorem flat_set {k : Nat} {u : Value} : ∀ {rows : List (List Value)}, (∀ r ∈ rows, r.length = k) → ∀ {i j : Nat} (hi : i < rows.length), j < k → rows.flatten.set (i * k + j) u = (rows.set i (rows[i].set j u)).flatten
 | [], _, i, j, hi, _ => by simp at hi
 | r :: rs, h, 0, j, hi, hj => by
   have h2 := h r (by simp)
   simp only [List.flatten_cons, Nat.zero_mul, Nat.zero_add, List.getElem_cons_zero, List.set_cons_zero]
   rw [List.set_append_left _ _ (by omega)]
 | r :: rs, h, i + 1, j, hi, hj => by
   have h2 := h r (by simp)
   simp only [List.flatten_cons, List.getElem_cons_succ, List.set_cons_succ]
   rw [List.set_append_right _ _ (by rw [h2, Nat.succ_mul]; omega), h2, show (i + 1) * k + j - k = i * k + j by rw [Nat.succ_mul]; omega]
   rw [flat_set (fun x hx => h x (by simp [hx])) (by simpa using hi) hj]
def entV (e : Ent) : List Value := [.string (bs e.name), .int .i64 e.node]
def aX9 (es : List Ent) : List Value := (es.map entV).flatten
theorem entV_len (es : List Ent) : ∀ r ∈ es.map entV, r.length = 2 := by
 intro r hr
 obtain ⟨e, -, rfl⟩ := List.mem_map.1 hr
 rfl
theorem bJ9 (es : List Ent) : (aX9 es).length = es.length * 2 := by unfold aX9; rw [flat_len (entV_len es)]; simp
theorem entsV_app (a b : List Ent) : aX9 (a ++ b) = aX9 a ++ aX9 b := by unfold aX9; simp
theorem entsV_one (es : List Ent) : ∀ u ∈ aX9 es, u.oneCell' = true := by
 intro u hu
 unfold aX9 at hu
 obtain ⟨r, hr, hu⟩ := List.mem_flatten.1 hu
 obtain ⟨e, -, rfl⟩ := List.mem_map.1 hr
 unfold entV at hu
 simp at hu
 rcases hu with rfl | rfl <;> rfl
def Ents (w : World) (R : Nat) (lv : Value) (es : List Ent) : Prop := w.ownsRow R 126 2 lv es.length (aX9 es)
def EFit (es : List Ent) : Prop := ∀ e ∈ es, e.name.length ≤ 100
theorem Ents.kept {w w' : World} {R : Nat} {lv : Value} {es : List Ent} {b : Nat} (h : Ents w R lv es) (hg : w.grownBy w' (some b)) (hb : b < R) : Ents w' R lv es := by
 refine World.ownsRow.kept h hg ?_
 rcases h.2 with ⟨rfl, _⟩ | ⟨g, cap, cur, rfl, hB, _⟩
 · exact .inl rfl
 · refine .inr ?_
   simp [Value.ownBlock]; omega
theorem Ents.read {w : World} {R : Nat} {lv : Value} {es : List Ent} (h : Ents w R lv es) (hf : EFit es) : EntsA w lv es := by
 obtain ⟨hl, hd⟩ := h
 rcases hd with ⟨rfl, h0⟩ | ⟨g, cap, cur, rfl, hB, hg, hn, hm, hs, ht⟩
 · refine ⟨none, 0, by rw [h0], by rw [h0]; exact Nat.zero_le _, fun i hi => absurd hi (by omega)⟩
 · refine ⟨some ⟨g, 0, none⟩, cap, rfl, by omega, fun i hi => ?_⟩
   have hc : ∀ j, j < 2 → w.cell? ⟨g, 0 + i * 2 + j, none⟩ = (entV es[i])[j]? := by
     intro j hj
     have h1 : cur.toList[i * 2 + j]? = (aX9 es)[i * 2 + j]? := by
       rw [← ht, List.getElem?_take, if_pos (by omega)]
     have h2 : (aX9 es)[i * 2 + j]? = (entV es[i])[j]? := by
       unfold aX9
       rw [flat_get (entV_len es) (by simpa using hi) hj]
       simp
     rw [Nat.zero_add]
     simp only [World.cell?, hg]
     rw [← h2, ← h1]
     simp
   refine ⟨g, 0, rfl, (Array.getElem?_eq_some_iff.1 hg).1, ?_, ?_, ?_⟩
   · have := hc 0 (by decide); simpa [entV] using this
   · have := hc 1 (by decide); simpa [entV] using this
   · have := hf es[i] (List.getElem_mem hi); unfold maxLen; omega
def nodV (p : Nod × Value) : List Value := [.int .i64 p.1.kind, .int .i64 p.1.mode, .int .i64 p.1.uid, .int .i64 p.1.gid, .int .i64 p.1.time, .string (bs p.1.data), p.2]
def nodsV (ps : List (Nod × Value)) : List Value := (ps.map nodV).flatten
theorem nodV_len (ps : List (Nod × Value)) : ∀ r ∈ ps.map nodV, r.length = 7 := by
 intro r hr
 obtain ⟨e, -, rfl⟩ := List.mem_map.1 hr
 rfl
theorem nodsV_app (a b : List (Nod × Value)) : nodsV (a ++ b) = nodsV a ++ nodsV b := by unfold nodsV; simp
def NFit (x : Nod) : Prop := x.data.length ≤ 100 ∧ x.list.length ≤ 40 ∧ EFit x.list
def Dist (ps : List (Nod × Value)) : Prop := ∀ i j (hi : i < ps.length) (hj : j < ps.length), i ≠ j → ps[i].2.ownBlock = none ∨ ps[i].2.ownBlock ≠ ps[j].2.ownBlock
theorem dist_snoc {ps : List (Nod × Value)} {q : Nod × Value} (h : Dist ps) (hq : q.2.ownBlock = none) : Dist (ps ++ [q]) := by
 intro i j hi hj hne
 simp at hi hj
 by_cases hi2 : i < ps.length
 · rw [List.getElem_append_left hi2]
   by_cases hj2 : j < ps.length
   · rw [List.getElem_append_left hj2]; exact h i j hi2 hj2 hne
   · have e : (ps ++ [q])[j] = q := by rw [List.getElem_append_right (by omega)]; simp
     rw [e, hq]
     cases ps[i].2.ownBlock with
     | none => exact .inl rfl
     | some x => exact .inr (by simp)
 · have e : (ps ++ [q])[i] = q := by rw [List.getElem_append_right (by omega)]; simp
   rw [e]; exact .inl hq
theorem dist_set {ps : List (Nod × Value)} {q : Nod × Value} {k : Nat} (h : Dist ps) (hq : ∀ j (hj : j < ps.length), j ≠ k → q.2.ownBlock = none ∨ q.2.ownBlock ≠ ps[j].2.ownBlock) : Dist (ps.set k q) := by
 intro i j hi hj hne
 simp at hi hj
 simp only [List.getElem_set]
 by_cases hik : k = i
 · rw [if_pos hik, if_neg (by omega)]
   exact hq j hj (by omega)
 · rw [if_neg hik]
   by_cases hjk : k = j
   · rw [if_pos hjk]
     rcases hq i hi (by omega) with e | e
     · rw [e]
       cases ps[i].2.ownBlock with
       | none => exact .inl rfl
       | some x => exact .inr (by simp)
     · exact .inr (fun x => e x.symm)
   · rw [if_neg hjk]; exact h i j hi hj hne
structure Nods (w : World) (R : Nat) (nv : Value) (ps : List (Nod × Value)) : Prop where
 row : w.ownsRow R 55 7 nv ps.length (nodsV ps)
 ent : ∀ p ∈ ps, Ents w R p.2 p.1.list
 fit : ∀ p ∈ ps, NFit p.1
 dist : Dist ps
theorem Nods.kept {w w' : World} {R : Nat} {nv : Value} {ps : List (Nod × Value)} {b : Nat} (h : Nods w R nv ps) (hg : w.grownBy w' (some b)) (hb : b < R) : Nods w' R nv ps := by
 refine ⟨World.ownsRow.kept h.row hg ?_, fun p hp => (h.ent p hp).kept hg hb, h.fit, h.dist⟩
 rcases h.row.2 with ⟨rfl, _⟩ | ⟨g, cap, cur, rfl, hB, _⟩
 · exact .inl rfl
 · refine .inr ?_
   simp [Value.ownBlock]; omega
theorem Nods.below {w w' : World} {R : Nat} {nv : Value} {ps : List (Nod × Value)} (h : Nods w R nv ps) (hb : Below w.heap.size w w') : Nods w' R nv ps := by
 have hg : w.grownBy w' none := ⟨hb.os, hb.tape, hb.output, hb.size, fun i hi _ => hb.block i hi⟩
 refine ⟨World.ownsRow.kept h.row hg ?_, fun p hp => World.ownsRow.kept (h.ent p hp) hg ?_, h.fit, h.dist⟩
 · rcases h.row.2 with ⟨rfl, _⟩ | ⟨g, cap, cur, rfl, hB, _⟩
   · exact .inl rfl
   · exact .inr (by simp [Value.ownBlock])
 · rcases (h.ent p hp).2 with ⟨e, _⟩ | ⟨g, cap, cur, e, hB, _⟩
   · rw [e]; exact .inl rfl
   · rw [e]; exact .inr (by simp [Value.ownBlock])
theorem Nods.at {w : World} {R : Nat} {nv : Value} {ps : List (Nod × Value)} (h : Nods w R nv ps) {i : Nat} (hi : i < ps.length) :
   ∃ g cap, nv = .slice (some ⟨g, 0, none⟩) ps.length cap ∧ R ≤ g ∧ g < w.heap.size ∧ ps.length ≤ cap ∧ cap ≤ maxLen ∧ NodC w g (i * 7) ps[i].2 ps[i].1 ∧ ∀ j, w.frozen? ⟨g, j, none⟩ = false := by
 obtain ⟨hl, hd⟩ := h.row
 rcases hd with ⟨rfl, h0⟩ | ⟨g, cap, cur, rfl, hB, hg, hn, hm, hs, ht⟩
 · omega
 · have hc : ∀ j, j < 7 → w.cell? ⟨g, i * 7 + j, none⟩ = (nodV ps[i])[j]? := by
     intro j hj
     have h1 : cur.toList[i * 7 + j]? = (nodsV ps)[i * 7 + j]? := by
       rw [← ht, List.getElem?_take, if_pos (by omega)]
     have h2 : (nodsV ps)[i * 7 + j]? = (nodV ps[i])[j]? := by
       unfold nodsV
       rw [flat_get (nodV_len ps) (by simpa using hi) hj]
       simp
     simp only [World.cell?, hg]
     rw [← h2, ← h1]
     simp
   refine ⟨g, cap, rfl, hB, (Array.getElem?_eq_some_iff.1 hg).1, hn, hm, ⟨?_, ?_, ?_, ?_, ?_, ?_, ?_⟩, aE9 hg⟩
   · have := hc 0 (by decide); simpa [nodV] using this
   · have := hc 1 (by decide); simpa [nodV] using this
   · have := hc 2 (by decide); simpa [nodV] using this
   · have := hc 3 (by decide); simpa [nodV] using this
   · have := hc 4 (by decide); simpa [nodV] using this
   · have := hc 5 (by decide); simpa [nodV] using this
   · have := hc 6 (by decide); simpa [nodV] using this
theorem Nods.read {w : World} {R : Nat} {nv : Value} {ps : List (Nod × Value)} (h : Nods w R nv ps) (room : Int) : FsA w (.agg #[nv, .int .i64 room]) ⟨ps.map Prod.fst, room⟩ := by
 refine ⟨nv, rfl, ?_⟩
 obtain ⟨hl, hd⟩ := h.row
 rcases hd with ⟨rfl, h0⟩ | ⟨g, cap, cur, rfl, hB, hg, hn, hm, hs, ht⟩
 · refine ⟨none, 0, by simp [h0], by simp [h0], fun i hi => absurd hi (by simp [h0])⟩
 · refine ⟨some ⟨g, 0, none⟩, cap, by simp, by simp; omega, fun i hi => ?_⟩
   have hi' : i < ps.length := by simpa using hi
   obtain ⟨g2, c2, e2, hB2, hg2, -, -, hc, -⟩ := h.at hi'
   simp only [Value.slice.injEq, Option.some.injEq, Addr.mk.injEq, and_true, true_and] at e2
   obtain ⟨rfl, -⟩ := e2
   have hf := h.fit ps[i] (List.getElem_mem hi')
   have en : (ps.map Prod.fst)[i] = ps[i].1 := by simp
   refine ⟨g, 0, ps[i].2, rfl, hg2, ?_, ?_, ?_⟩
   · rw [en, Nat.zero_add]; exact hc
   · rw [en]; exact (h.ent ps[i] (List.getElem_mem hi')).read hf.2.2
   · rw [en]; have := hf.1; unfold maxLen; omega
theorem ents_ne {w : World} {R S : Nat} {nv lv : Value} {n m g : Nat} {xs ys : List Value} (h : w.ownsRow R 55 7 nv n xs) (k : w.ownsRow S 126 2 lv m ys) (hg : nv.ownBlock = some g) : lv.ownBlock = none ∨ lv.ownBlock ≠ some g := by
 rcases h.2 with ⟨rfl, _⟩ | ⟨g1, cap, cur, rfl, hB, hg1, _⟩
 · simp [Value.ownBlock] at hg
 · rcases k.2 with ⟨rfl, _⟩ | ⟨g2, cap2, cur2, rfl, hB2, hg2, _⟩
   · exact .inl rfl
   · refine .inr ?_
     simp [Value.ownBlock] at hg ⊢
     subst hg
     intro e
     subst e
     rw [hg1] at hg2
     simp at hg2
theorem Nods.put {w : World} {R : Nat} {g cap : Nat} {ps : List (Nod × Value)} (h : Nods w R (.slice (some ⟨g, 0, none⟩) ps.length cap) ps) {i j : Nat} (hi : i < ps.length) (hj : j < 7) (u : Value) (q : Nod × Value)
   (hq : (nodV ps[i]).set j u = nodV q) (he : Ents w R q.2 q.1.list) (hf : NFit q.1) (hd : Dist (ps.set i q)) :
   Nods (w.setCell ⟨g, i * 7 + j, none⟩ u) R (.slice (some ⟨g, 0, none⟩) ps.length cap) (ps.set i q) ∧ w.grownBy (w.setCell ⟨g, i * 7 + j, none⟩ u) (some g) := by
 obtain ⟨h1, h2⟩ := h.row.stored (i * 7 + j) u
 refine ⟨⟨?_, ?_, ?_, hd⟩, h2⟩
 · have e : (nodsV ps).set (i * 7 + j) u = nodsV (ps.set i q) := by
     unfold nodsV
     rw [flat_set (nodV_len ps) (by simpa using hi) hj, List.map_set]
     congr 2
     simp only [List.getElem_map]
     exact hq
   rw [e] at h1
   simpa using h1
 · intro p hp
   have hne : ∀ {lv : Value} {es : List Ent}, Ents w R lv es → Ents (w.setCell ⟨g, i * 7 + j, none⟩ u) R lv es := fun {lv es} k => World.ownsRow.kept k h2 (ents_ne h.row k rfl)
   rcases List.mem_or_eq_of_mem_set hp with hp | rfl
   · exact hne (h.ent p hp)
   · exact hne he
 · intro p hp
   rcases List.mem_or_eq_of_mem_set hp with hp | rfl
   · exact h.fit p hp
   · exact hf
theorem Nods.snoc {w w1 : World} {R : Nat} {nv nv' : Value} {ps : List (Nod × Value)} {q : Nod × Value} (h : Nods w R nv ps) (hr : w1.ownsRow R 55 7 nv' (ps.length + 1) (nodsV ps ++ nodV q)) (hg : w.grownBy w1 nv.ownBlock)
   (he : Ents w R q.2 q.1.list) (hf : NFit q.1) (hd : Dist (ps ++ [q])) : Nods w1 R nv' (ps ++ [q]) := by
 have hk : ∀ {lv : Value} {es : List Ent}, Ents w R lv es → Ents w1 R lv es := fun {lv es} k => by
   cases hb : nv.ownBlock with
   | none =>
     rw [hb] at hg
     refine World.ownsRow.kept k hg ?_
     cases hl : lv.ownBlock with
     | none => exact .inl rfl
     | some x => exact .inr (by simp)
   | some g =>
     rw [hb] at hg
     exact World.ownsRow.kept k hg (ents_ne h.row k hb)
 refine ⟨?_, ?_, ?_, hd⟩
 · have : nodsV (ps ++ [q]) = nodsV ps ++ nodV q := by rw [nodsV_app]; simp [nodsV]
   rw [this]
   simpa using hr
 · intro p hp
   rcases List.mem_append.1 hp with hp | hp
   · exact hk (h.ent p hp)
   · rw [List.mem_singleton.1 hp]; exact hk he
 · intro p hp
   rcases List.mem_append.1 hp with hp | hp
   · exact h.fit p hp
   · rw [List.mem_singleton.1 hp]; exact hf
theorem Nods.low {w : World} {R S : Nat} {nv : Value} {ps : List (Nod × Value)} (h : Nods w S nv ps) (hRS : R ≤ S) : Nods w R nv ps := by
 have low : ∀ {T : TypeId} {sz n : Nat} {v : Value} {xs : List Value}, w.ownsRow S T sz v n xs → w.ownsRow R T sz v n xs := fun {T sz n v xs} k => by
   rcases k with ⟨hl, h0 | ⟨g, cap, cur, e, hB, r⟩⟩
   · exact ⟨hl, .inl h0⟩
   · exact ⟨hl, .inr ⟨g, cap, cur, e, Nat.le_trans hRS hB, r⟩⟩
 exact ⟨low h.row, fun p hp => low (h.ent p hp), h.fit, h.dist⟩
theorem Ents.readM {w : World} {R : Nat} {lv : Value} {es : List Ent} (h : Ents w R lv es) (hf : ∀ e ∈ es, e.name.length ≤ maxLen) : EntsA w lv es := by
 obtain ⟨hl, hd⟩ := h
 rcases hd with ⟨rfl, h0⟩ | ⟨g, cap, cur, rfl, hB, hg, hn, hm, hs, ht⟩
 · refine ⟨none, 0, by rw [h0], by rw [h0]; exact Nat.zero_le _, fun i hi => absurd hi (by omega)⟩
 · refine ⟨some ⟨g, 0, none⟩, cap, rfl, by omega, fun i hi => ?_⟩
   have hc : ∀ j, j < 2 → w.cell? ⟨g, 0 + i * 2 + j, none⟩ = (entV es[i])[j]? := by
     intro j hj
     have h1 : cur.toList[i * 2 + j]? = (aX9 es)[i * 2 + j]? := by
       rw [← ht, List.getElem?_take, if_pos (by omega)]
     have h2 : (aX9 es)[i * 2 + j]? = (entV es[i])[j]? := by
       unfold aX9
       rw [flat_get (entV_len es) (by simpa using hi) hj]
       simp
     rw [Nat.zero_add]
     simp only [World.cell?, hg]
     rw [← h2, ← h1]
     simp
   refine ⟨g, 0, rfl, (Array.getElem?_eq_some_iff.1 hg).1, ?_, ?_, ?_⟩
   · have := hc 0 (by decide); simpa [entV] using this
   · have := hc 1 (by decide); simpa [entV] using this
   · exact hf es[i] (List.getElem_mem hi)
structure Own (w : World) (R : Nat) (nv : Value) (ps : List (Nod × Value)) : Prop where
 row : w.ownsRow R 55 7 nv ps.length (nodsV ps)
 ent : ∀ p ∈ ps, Ents w R p.2 p.1.list
 dist : Dist ps
theorem Own.nil (w : World) (R : Nat) : Own w R (.slice none 0 0) [] := ⟨⟨rfl, .inl ⟨rfl, rfl⟩⟩, fun p hp => (by cases hp), fun i j hi => absurd hi (by simp)⟩
theorem Own.kept {w w' : World} {R : Nat} {nv : Value} {ps : List (Nod × Value)} {b : Nat} (h : Own w R nv ps) (hg : w.grownBy w' (some b)) (hb : b < R) : Own w' R nv ps := by
 refine ⟨World.ownsRow.kept h.row hg ?_, fun p hp => (h.ent p hp).kept hg hb, h.dist⟩
 rcases h.row.2 with ⟨rfl, _⟩ | ⟨g, cap, cur, rfl, hB, _⟩
 · exact .inl rfl
 · refine .inr ?_
   simp [Value.ownBlock]; omega
theorem Own.below {w w' : World} {R : Nat} {nv : Value} {ps : List (Nod × Value)} (h : Own w R nv ps) (hb : Below w.heap.size w w') : Own w' R nv ps := by
 have hg : w.grownBy w' none := ⟨hb.os, hb.tape, hb.output, hb.size, fun i hi _ => hb.block i hi⟩
 refine ⟨World.ownsRow.kept h.row hg ?_, fun p hp => World.ownsRow.kept (h.ent p hp) hg ?_, h.dist⟩
 · rcases h.row.2 with ⟨rfl, _⟩ | ⟨g, cap, cur, rfl, hB, _⟩
   · exact .inl rfl
   · exact .inr (by simp [Value.ownBlock])
 · rcases (h.ent p hp).2 with ⟨e, _⟩ | ⟨g, cap, cur, e, hB, _⟩
   · rw [e]; exact .inl rfl
   · rw [e]; exact .inr (by simp [Value.ownBlock])
theorem Own.at {w : World} {R : Nat} {nv : Value} {ps : List (Nod × Value)} (h : Own w R nv ps) {i : Nat} (hi : i < ps.length) :
   ∃ g cap, nv = .slice (some ⟨g, 0, none⟩) ps.length cap ∧ R ≤ g ∧ g < w.heap.size ∧ ps.length ≤ cap ∧ cap ≤ maxLen ∧ NodC w g (i * 7) ps[i].2 ps[i].1 ∧ ∀ j, w.frozen? ⟨g, j, none⟩ = false := by
 obtain ⟨hl, hd⟩ := h.row
 rcases hd with ⟨rfl, h0⟩ | ⟨g, cap, cur, rfl, hB, hg, hn, hm, hs, ht⟩
 · omega
 · have hc : ∀ j, j < 7 → w.cell? ⟨g, i * 7 + j, none⟩ = (nodV ps[i])[j]? := by
     intro j hj
     have h1 : cur.toList[i * 7 + j]? = (nodsV ps)[i * 7 + j]? := by
       rw [← ht, List.getElem?_take, if_pos (by omega)]
     have h2 : (nodsV ps)[i * 7 + j]? = (nodV ps[i])[j]? := by
       unfold nodsV
       rw [flat_get (nodV_len ps) (by simpa using hi) hj]
       simp
     simp only [World.cell?, hg]
     rw [← h2, ← h1]
     simp
   refine ⟨g, cap, rfl, hB, (Array.getElem?_eq_some_iff.1 hg).1, hn, hm, ⟨?_, ?_, ?_, ?_, ?_, ?_, ?_⟩, aE9 hg⟩
   · have := hc 0 (by decide); simpa [nodV] using this
   · have := hc 1 (by decide); simpa [nodV] using this
   · have := hc 2 (by decide); simpa [nodV] using this
   · have := hc 3 (by decide); simpa [nodV] using this
   · have := hc 4 (by decide); simpa [nodV] using this
   · have := hc 5 (by decide); simpa [nodV] using this
   · have := hc 6 (by decide); simpa [nodV] using this
theorem Own.read {w : World} {R : Nat} {nv : Value} {ps : List (Nod × Value)} (h : Own w R nv ps) (room : Int) (hf : aV9 (ps.map Prod.fst)) : FsA w (.agg #[nv, .int .i64 room]) ⟨ps.map Prod.fst, room⟩ := by
 refine ⟨nv, rfl, ?_⟩
 obtain ⟨hl, hd⟩ := h.row
 rcases hd with ⟨rfl, h0⟩ | ⟨g, cap, cur, rfl, hB, hg, hn, hm, hs, ht⟩
 · refine ⟨none, 0, by simp [h0], by simp [h0], fun i hi => absurd hi (by simp [h0])⟩
 · refine ⟨some ⟨g, 0, none⟩, cap, by simp, by simp; omega, fun i hi => ?_⟩
   have hi' : i < ps.length := by simpa using hi
   obtain ⟨g2, c2, e2, hB2, hg2, -, -, hc, -⟩ := h.at hi'
   simp only [Value.slice.injEq, Option.some.injEq, Addr.mk.injEq, and_true, true_and] at e2
   obtain ⟨rfl, -⟩ := e2
   have en : (ps.map Prod.fst)[i] = ps[i].1 := by simp
   have hf1 := hf _ (List.getElem_mem hi)
   refine ⟨g, 0, ps[i].2, rfl, hg2, ?_, ?_, hf1.1⟩
   · rw [en, Nat.zero_add]; exact hc
   · rw [en] at hf1 ⊢; exact (h.ent ps[i] (List.getElem_mem hi')).readM hf1.2
theorem Own.put {w : World} {R : Nat} {g cap : Nat} {ps : List (Nod × Value)} (h : Own w R (.slice (some ⟨g, 0, none⟩) ps.length cap) ps) {i j : Nat} (hi : i < ps.length) (hj : j < 7) (u : Value) (q : Nod × Value)
   (hq : (nodV ps[i]).set j u = nodV q) (he : Ents w R q.2 q.1.list) (hd : Dist (ps.set i q)) :
   Own (w.setCell ⟨g, i * 7 + j, none⟩ u) R (.slice (some ⟨g, 0, none⟩) ps.length cap) (ps.set i q) ∧ w.grownBy (w.setCell ⟨g, i * 7 + j, none⟩ u) (some g) := by
 obtain ⟨h1, h2⟩ := h.row.stored (i * 7 + j) u
 refine ⟨⟨?_, ?_, hd⟩, h2⟩
 · have e : (nodsV ps).set (i * 7 + j) u = nodsV (ps.set i q) := by
     unfold nodsV
     rw [flat_set (nodV_len ps) (by simpa using hi) hj, List.map_set]
     congr 2
     simp only [List.getElem_map]
     exact hq
   rw [e] at h1
   simpa using h1
 · intro p hp
   have hne : ∀ {lv : Value} {es : List Ent}, Ents w R lv es → Ents (w.setCell ⟨g, i * 7 + j, none⟩ u) R lv es := fun {lv es} k => World.ownsRow.kept k h2 (ents_ne h.row k rfl)
   rcases List.mem_or_eq_of_mem_set hp with hp | rfl
   · exact hne (h.ent p hp)
   · exact hne he
theorem Own.snoc {w w1 : World} {R : Nat} {nv nv' : Value} {ps : List (Nod × Value)} {q : Nod × Value} (h : Own w R nv ps) (hr : w1.ownsRow R 55 7 nv' (ps.length + 1) (nodsV ps ++ nodV q)) (hg : w.grownBy w1 nv.ownBlock)
   (he : Ents w R q.2 q.1.list) (hd : Dist (ps ++ [q])) : Own w1 R nv' (ps ++ [q]) := by
 have hk : ∀ {lv : Value} {es : List Ent}, Ents w R lv es → Ents w1 R lv es := fun {lv es} k => by
   cases hb : nv.ownBlock with
   | none =>
     rw [hb] at hg
     refine World.ownsRow.kept k hg ?_
     cases hl : lv.ownBlock with
     | none => exact .inl rfl
     | some x => exact .inr (by simp)
   | some g =>
     rw [hb] at hg
     exact World.ownsRow.kept k hg (ents_ne h.row k hb)
 refine ⟨?_, ?_, hd⟩
 · have : nodsV (ps ++ [q]) = nodsV ps ++ nodV q := by rw [nodsV_app]; simp [nodsV]
   rw [this]
   simpa using hr
 · intro p hp
   rcases List.mem_append.1 hp with hp | hp
   · exact hk (h.ent p hp)
   · rw [List.mem_singleton.1 hp]; exact hk he
theorem Own.low {w : World} {R S : Nat} {nv : Value} {ps : List (Nod × Value)} (h : Own w S nv ps) (hRS : R ≤ S) : Own w R nv ps := by
 have low : ∀ {T : TypeId} {sz n : Nat} {v : Value} {xs : List Value}, w.ownsRow S T sz v n xs → w.ownsRow R T sz v n xs := fun {T sz n v xs} k => by
   rcases k with ⟨hl, h0 | ⟨g, cap, cur, e, hB, r⟩⟩
   · exact ⟨hl, .inl h0⟩
   · exact ⟨hl, .inr ⟨g, cap, cur, e, Nat.le_trans hRS hB, r⟩⟩
 exact ⟨low h.row, fun p hp => low (h.ent p hp), h.dist⟩
theorem Own.up {w w' : World} {R : Nat} {nv : Value} {ps : List (Nod × Value)} (h : Own w R nv ps) (hu : ∀ i, R ≤ i → i < w.heap.size → w'.heap[i]? = w.heap[i]?) : Own w' R nv ps := by
 have up : ∀ {T : TypeId} {sz n : Nat} {v : Value} {xs : List Value}, w.ownsRow R T sz v n xs → w'.ownsRow R T sz v n xs := fun {T sz n v xs} k => by
   rcases k with ⟨hl, h0 | ⟨g, cap, cur, e, hB, hg, r⟩⟩
   · exact ⟨hl, .inl h0⟩
   · exact ⟨hl, .inr ⟨g, cap, cur, e, hB, (hu g hB (Array.getElem?_eq_some_iff.1 hg).1).trans hg, r⟩⟩
 exact ⟨up h.row, fun p hp => up (h.ent p hp), h.dist⟩
theorem run_append_no {P : Program} (w : World) (base : Nat) (t ty e : TypeId) (i : TypeInfo) (size : Nat) (ht : P.underlying t = some (.slice e)) (hi : P.info? e = some i)
   (v : Value) (n c : Nat) (xs : List Value) (hown : w.ownsRow base e size v n xs) :
   (Builtin.append_ #[t, t] ty #[v, .slice none 0 c]).run P w = .ok v w := by
 rcases hown.2 with ⟨rfl, rfl⟩ | ⟨g, cap, cur, rfl, _, _, hnc, _⟩
 · simp [Builtin.append_, run_underlying ht, sizeOf, typeInfo, hi, Builtin.lenOf, Builtin.firstCells]
 · simp [Builtin.append_, run_underlying ht, sizeOf, typeInfo, hi, Builtin.lenOf, Builtin.firstCells, hnc, storeCells]
def SrcC (w : World) (o : Option Addr) (m : Nat) (news : List Value) : Prop := m ≠ 0 → ∃ g off, o = some ⟨g, off, none⟩ ∧ ∀ j u, news[j]? = some u → w.cell? ⟨g, off + j, none⟩ = some u
theorem add_plainG (g off i : Nat) : (⟨g, off, none⟩ : Addr).add i = ⟨g, off + i, none⟩ := by
 unfold Addr.add; split
 · rename_i h; subst h; rfl
 · rfl
theorem run_append_src {P : Program} (w : World) (base : Nat) (t ty e : TypeId) (i : TypeInfo) (z : Value) (size bytes : Nat) (ht : P.underlying t = some (.slice e)) (hi : P.info? e = some i) (hz : i.zero = some z)
   (hsize : i.size = size) (hby : i.bytes = bytes) (hzs : z.cells.size = size) (hsz : 0 < size)
   (v : Value) (n : Nat) (xs : List Value) (hown : w.ownsRow base e size v n xs)
   (o : Option Addr) (m c : Nat) (news : List Value) (hl : news.length = m * size) (hnews : SrcC w o m news) (h1 : ∀ u ∈ news, u.oneCell' = true)
   (h63 : n + m ≤ maxLen) (hbytes : (n + m) * bytes ≤ 140737488355328) (hbase : base ≤ w.heap.size) :
   ∃ v' w', (Builtin.append_ #[t, t] ty #[v, .slice o m c]).run P w = .ok v' w' ∧ w'.ownsRow base e size v' (n + m) (xs ++ news) ∧ w.grownBy w' v.ownBlock ∧ (v' = .slice none 0 0 ↔ v = .slice none 0 0 ∧ m = 0) := by
 by_cases hm : m = 0
 · subst hm
   have hn : news = [] := List.eq_nil_of_length_eq_zero (by rw [hl]; simp)
   subst hn
   cases o with
   | none => exact ⟨v, w, run_append_no w base t ty e i size ht hi v n c xs hown, by simpa using hown, World.grownBy.refl _ _, by simp⟩
   | some ad => exact run_append_own (P := P) w base t ty e i z size bytes ht hi hz hsize hby hzs hsz v n xs hown ad 0 c [] (by simp) (fun j u h => by simp at h) h1 h63 hbytes hbase
 · obtain ⟨g, off, rfl, hc⟩ := hnews hm
   exact run_append_own (P := P) w base t ty e i z size bytes ht hi hz hsize hby hzs hsz v n xs hown ⟨g, off, none⟩ m c news hl (fun j u h => by rw [add_plainG]; exact hc j u h) h1 h63 hbytes hbase
theorem wpList_append_src {P : Program} (w : World) {ops : Array Oper} {rest : List Oper} {o : Oper} {a : Act} {Q : Exit → Act → World → Prop} (hgd : o.guard = none) (s x : Operand) (t : TypeId)
   (ho : o.op = .call { callee := .builtin .append, args := #[s, x], argTypes := #[t, t] })
   (base : Nat) (e : TypeId) (i : TypeInfo) (z : Value) (size bytes : Nat) (ht : P.underlying t = some (.slice e)) (hi : P.info? e = some i) (hz : i.zero = some z)
   (hsize : i.size = size) (hby : i.bytes = bytes) (hzs : z.cells.size = size) (hsz : 0 < size)
   (v : Value) (n : Nat) (xs : List Value) (hs : a.eval s = v) (hown : w.ownsRow base e size v n xs)
   (oo : Option Addr) (m c : Nat) (news : List Value) (hx : a.eval x = .slice oo m c) (hl : news.length = m * size) (hnews : SrcC w oo m news) (h1 : ∀ u ∈ news, u.oneCell' = true)
   (h63 : n + m ≤ maxLen) (hbytes : (n + m) * bytes ≤ 140737488355328) (hbase : base ≤ w.heap.size)
   (h : ∀ v' w', w'.ownsRow base e size v' (n + m) (xs ++ news) → w.grownBy w' v.ownBlock → (v' = .slice none 0 0 ↔ v = .slice none 0 0 ∧ m = 0) → wpList P ops Q rest (a.put o.dst v') w') : wpList P ops Q (o :: rest) a w := by
 refine wpList_plain hgd fun K hK => ?_
 obtain ⟨v', w', hr, h2, h3, h4⟩ := run_append_src (P := P) w base t o.type e i z size bytes ht hi hz hsize hby hzs hsz v n xs hown oo m c news hl hnews h1 h63 hbytes hbase
 unfold Oper.wp execOp
 simp only [ho, resolve, invoke, builtin, Sem.run_bind, Sem.run_pure, Result.andThen_ok, List.map_toArray, List.map_cons, List.map_nil, hs, hx, hr]
 exact hK _ _ (h v' w' h2 h3 h4)
theorem entsA_src {w : World} {lv : Value} {es : List Ent} (h : EntsA w lv es) : ∃ o c, lv = .slice o es.length c ∧ SrcC w o es.length (aX9 es) := by
 obtain ⟨o, c, rfl, hm, hH⟩ := h
 refine ⟨o, c, rfl, fun hne => ?_⟩
 obtain ⟨g, off, rfl, -, -, -, -⟩ := hH 0 (by omega)
 refine ⟨g, off, rfl, fun j u hj => ?_⟩
 have hlt : j < es.length * 2 := by rw [← bJ9]; exact (List.getElem?_eq_some_iff.1 hj).1
 have hi : j / 2 < es.length := by omega
 obtain ⟨g2, off2, e2, -, h1, h2, -⟩ := hH (j / 2) hi
 simp only [Option.some.injEq, Addr.mk.injEq, and_true] at e2
 obtain ⟨rfl, rfl⟩ := e2
 have e1 : (aX9 es)[j]? = (entV es[j / 2])[j % 2]? := by
   have := flat_get (entV_len es) (i := j / 2) (j := j % 2) (by simpa using hi) (Nat.mod_lt _ (by decide))
   rw [show j / 2 * 2 + j % 2 = j by omega] at this
   unfold aX9
   rw [this]; simp
 rw [e1] at hj
 rcases (show j % 2 = 0 ∨ j % 2 = 1 by omega) with h9 | h9
 · rw [h9] at hj
   rw [show off + j = off + j / 2 * 2 by omega, h1]
   exact hj
 · rw [h9] at hj
   rw [show off + j = off + j / 2 * 2 + 1 by omega, h2]
   exact hj
theorem nodsA_src {w : World} {v : Value} {ns : List Nod} (h : NodsA w v ns) : ∃ o c ps, v = .slice o ns.length c ∧ ns.length ≤ maxLen ∧ ps.map Prod.fst = ns ∧ SrcC w o ns.length (nodsV ps) ∧ ∀ p ∈ ps, EntsA w p.2 p.1.list := by
 obtain ⟨o, c, rfl, hm, hH⟩ := h
 have h1 : ∀ i, ∃ lv, ∀ (h : i < ns.length), ∃ g off, o = some ⟨g, off, none⟩ ∧ NodC w g (off + i * 7) lv ns[i] ∧ EntsA w lv ns[i].list := by
   intro i
   by_cases hi : i < ns.length
   · obtain ⟨g, off, lv, e, hg, hc, he, -⟩ := hH i hi
     exact ⟨lv, fun _ => ⟨g, off, e, hc, he⟩⟩
   · exact ⟨.slice none 0 0, fun h => absurd h hi⟩
 obtain ⟨L, hL⟩ := Classical.skolem.1 h1
 obtain ⟨ps, hps⟩ : ∃ ps, ps = (List.range ns.length).map fun i => (ns.getD i nod0, L i) := ⟨_, rfl⟩
 have hlen : ps.length = ns.length := by rw [hps]; simp
 have hat : ∀ i (h : i < ps.length), ps[i] = (ns[i]'(by omega), L i) := by
   intro i hi
   have h2 : i < ns.length := by omega
   subst hps
   simp [List.getD, h2]
 refine ⟨o, c, ps, rfl, by omega, ?_, ?_, ?_⟩
 · refine List.ext_getElem (by simpa using hlen) fun i h3 h4 => ?_
   simp only [List.getElem_map]
   rw [hat i (by simpa using h3)]
 · intro hne
   obtain ⟨g, off, rfl, -, -⟩ := hL 0 (by omega)
   refine ⟨g, off, rfl, fun j u hj => ?_⟩
   have hvl : (nodsV ps).length = ps.length * 7 := by unfold nodsV; rw [flat_len (nodV_len ps)]; simp
   have hlt : j < ps.length * 7 := by rw [← hvl]; exact (List.getElem?_eq_some_iff.1 hj).1
   have hi : j / 7 < ps.length := by omega
   obtain ⟨g2, off2, e2, hc, -⟩ := hL (j / 7) (by omega)
   simp only [Option.some.injEq, Addr.mk.injEq, and_true] at e2
   obtain ⟨rfl, rfl⟩ := e2
   have e1 : (nodsV ps)[j]? = (nodV ps[j / 7])[j % 7]? := by
     have := flat_get (nodV_len ps) (i := j / 7) (j := j % 7) (by simpa using hi) (Nat.mod_lt _ (by decide))
     rw [show j / 7 * 7 + j % 7 = j by omega] at this
     unfold nodsV
     rw [this]; simp
   rw [e1, hat _ hi] at hj
   obtain ⟨d0, d1, d2, d3, d4, d5, d6⟩ := hc
   rcases (show j % 7 = 0 ∨ j % 7 = 1 ∨ j % 7 = 2 ∨ j % 7 = 3 ∨ j % 7 = 4 ∨ j % 7 = 5 ∨ j % 7 = 6 by omega) with h9 | h9 | h9 | h9 | h9 | h9 | h9 <;> rw [h9] at hj
   · rw [show off + j = off + j / 7 * 7 by omega, d0]; exact hj
   · rw [show off + j = off + j / 7 * 7 + 1 by omega, d1]; exact hj
   · rw [show off + j = off + j / 7 * 7 + 2 by omega, d2]; exact hj
   · rw [show off + j = off + j / 7 * 7 + 3 by omega, d3]; exact hj
   · rw [show off + j = off + j / 7 * 7 + 4 by omega, d4]; exact hj
   · rw [show off + j = off + j / 7 * 7 + 5 by omega, d5]; exact hj
   · rw [show off + j = off + j / 7 * 7 + 6 by omega, d6]; exact hj
 · intro p hp
   obtain ⟨i, hi, rfl⟩ := List.getElem_of_mem hp
   rw [hat i hi]
   obtain ⟨g, off, -, -, he⟩ := hL i (by omega)
   exact he
theorem eqNode_same (k m u gi t : Int) (x : ByteArray) (es : List Ent) (l1 l2 : Value) (w : World) (hU : EntsA w l1 es) (hV : EntsA w l2 es) :
   Calls Tryz.prog 72 #[.agg #[.int .i64 k, .int .i64 m, .int .i64 u, .int .i64 gi, .int .i64 t, .string x, l1], .agg #[.int .i64 k, .int .i64 m, .int .i64 u, .int .i64 gi, .int .i64 t, .string x, l2]] w fun e w' => e = .returned (.bool true) ∧ Below w.heap.size w w' := by
 obtain ⟨o1, c1, rfl, _, _⟩ := id hU
 obtain ⟨o2, c2, rfl, _, _⟩ := id hV
 have HU := qhZ hU
 have HV := qhZ hV
 clear hU hV
 have HB : Hid (Below w.heap.size w ((w.alloc (.cells #[.int .i64 k, .int .i64 m, .int .i64 u, .int .i64 gi, .int .i64 t, .string x, .slice o1 es.length c1] 55)).alloc (.cells #[.int .i64 k, .int .i64 m, .int .i64 u, .int .i64 gi, .int .i64 t, .string x, .slice o2 es.length c2] 55))) := qhZ (((Below.refl _ _).alloc (Nat.le_refl _) _).alloc (by simp) _)
 go_enter Tryz.func72, Tryz.ntmps72
 go_wp2_with fail
 refine (eqEntryS_same es _ _ _ (HU.out.below HB.out) (HV.out.below HB.out)).mono ?_
 rintro e w1 ⟨rfl, hb1⟩
 go_wp2
 go_ret
 exact ⟨rfl, HB.out.trans (hb1.mono HB.out.size)⟩
theorem eqNodeS_same (ns : List Nod) (u v : Value) (w : World) (hU : NodsA w u ns) (hV : NodsA w v ns) : Calls Tryz.prog 40 #[u, v] w fun e w' => e = .returned (.bool true) ∧ Below w.heap.size w w' := by
 obtain ⟨o1, c1, rfl, hm1, hH1⟩ := hU
 obtain ⟨o2, c2, rfl, hm2, hH2⟩ := hV
 have HH1 := qhZ hH1
 have HH2 := qhZ hH2
 clear hH1 hH2
 unfold maxLen at hm1 hm2
 go_enter Tryz.func40, Tryz.ntmps40
 go_wp2
 go_loopw [5] (fun i wr => ∃ k : Nat, k ≤ ns.length ∧ i = .int .i64 k ∧ Below w.heap.size w wr) (fun i _ => ns.length - (intOf i).toNat)
 case atStart => exact ⟨0, Nat.zero_le _, rfl, Below.refl _ _⟩
 case round =>
   obtain ⟨k, hk, rfl, hB⟩ := hrel
   by_cases hlt : k < ns.length
   · obtain ⟨g1, f1, l1, rfl, q1, n1, e1, _⟩ := HH1.out k hlt
     obtain ⟨g2, f2, l2, rfl, q2, n2, e2, _⟩ := HH2.out k hlt
     obtain ⟨a0, a1, a2, a3, a4, a5, a6⟩ := n1.below hB q1
     obtain ⟨b0, b1, b2, b3, b4, b5, b6⟩ := n2.below hB q2
     obtain ⟨q, hqq⟩ : ∃ q, q = ns[k] := ⟨_, rfl⟩
     rw [← hqq] at a0 a1 a2 a3 a4 a5 e1 b0 b1 b2 b3 b4 b5 e2
     obtain ⟨x, hx⟩ : ∃ x, x = bs q.data := ⟨_, rfl⟩
     rw [← hx] at a5 b5
     have he1 := e1.below hB
     have he2 := e2.below hB
     have HE1 := qhZ he1
     have HE2 := qhZ he2
     obtain ⟨p1, d1, rfl, _, _⟩ := id he1
     obtain ⟨p2, d2, rfl, _, _⟩ := id he2
     clear n1 n2 e1 e2 he1 he2 hqq hx
     go_wp2
     have y0 := fun d os => cell_regrown (w := wr) a0 d os
     have y1 := fun d os => cell_regrown (w := wr) a1 d os
     have y2 := fun d os => cell_regrown (w := wr) a2 d os
     have y3 := fun d os => cell_regrown (w := wr) a3 d os
     have y4 := fun d os => cell_regrown (w := wr) a4 d os
     have y5 := fun d os => cell_regrown (w := wr) a5 d os
     have y6 := fun d os => cell_regrown (w := wr) a6 d os
     have z0 := fun d os => cell_regrown (w := wr) b0 d os
     have z1 := fun d os => cell_regrown (w := wr) b1 d os
     have z2 := fun d os => cell_regrown (w := wr) b2 d os
     have z3 := fun d os => cell_regrown (w := wr) b3 d os
     have z4 := fun d os => cell_regrown (w := wr) b4 d os
     have z5 := fun d os => cell_regrown (w := wr) b5 d os
     have z6 := fun d os => cell_regrown (w := wr) b6 d os
     refine wp_region_quiet_below (by kernel_rfl) (by kernel_rfl) ?_
     repeat (first | go_big_quiet_step ((go_at_call 72; exact Calls.regrown_of (eqNode_same _ _ _ _ _ _ _ _ _ _ (HE1.out.below (below_regrown _ _ _)) (HE2.out.below (below_regrown _ _ _))))) | quiet_step ((go_at_call 72; exact Calls.regrown_of (eqNode_same _ _ _ _ _ _ _ _ _ _ (HE1.out.below (below_regrown _ _ _)) (HE2.out.below (below_regrown _ _ _))))))
     refine wpQuiet_nil ?_
     intro w5 hwq
     have hb5 : Below wr.heap.size wr w5 := by
       obtain ⟨pp, rfl⟩ := hwq
       exact below_regrown _ _ _
     clear hwq y0 y1 y2 y3 y4 y5 y6 z0 z1 z2 z3 z4 z5 z6
     go_wp2
     go_roundw
     case rel => exact ⟨k + 1, hlt, by go_num, hB.trans (hb5.mono hB.size)⟩
     case measure => simp [intOf]; omega
   · go_wp2
     go_ret
     exact ⟨rfl, hB⟩
theorem eqFs_same (f : FsD) (u v : Value) (w : World) (hU : FsA w u f) (hV : FsA w v f) : Calls Tryz.prog 16 #[u, v] w fun e w' => e = .returned (.bool true) ∧ Below w.heap.size w w' := by
 obtain ⟨n1, rfl, hU⟩ := hU
 obtain ⟨n2, rfl, hV⟩ := hV
 obtain ⟨o1, c1, rfl, _, _⟩ := id hU
 obtain ⟨o2, c2, rfl, _, _⟩ := id hV
 have HU := qhZ hU
 have HV := qhZ hV
 clear hU hV
 have HB : Hid (Below w.heap.size w ((w.alloc (.cells #[.slice o1 f.nodes.length c1, .int .i64 f.room] 30)).alloc (.cells #[.slice o2 f.nodes.length c2, .int .i64 f.room] 30))) := qhZ (((Below.refl _ _).alloc (Nat.le_refl _) _).alloc (by simp) _)
 have k1 : ∀ w1, Below ((w.alloc (.cells #[.slice o1 f.nodes.length c1, .int .i64 f.room] 30)).alloc (.cells #[.slice o2 f.nodes.length c2, .int .i64 f.room] 30)).heap.size ((w.alloc (.cells #[.slice o1 f.nodes.length c1, .int .i64 f.room] 30)).alloc (.cells #[.slice o2 f.nodes.length c2, .int .i64 f.room] 30)) w1 →
     w1.cell? ⟨w.heap.size, 1, none⟩ = some (.int .i64 f.room) ∧ w1.cell? ⟨w.heap.size + 1, 1, none⟩ = some (.int .i64 f.room) := by
   intro w1 hb
   have h1 := heap_alloc_new w (.cells #[.slice o1 f.nodes.length c1, .int .i64 f.room] 30)
   have h2 := heap_alloc_new (w.alloc (.cells #[.slice o1 f.nodes.length c1, .int .i64 f.room] 30)) (.cells #[.slice o2 f.nodes.length c2, .int .i64 f.room] 30)
   have h3 := Below.heap_alloc (w.alloc (.cells #[.slice o1 f.nodes.length c1, .int .i64 f.room] 30)) (.cells #[.slice o2 f.nodes.length c2, .int .i64 f.room] 30) w.heap.size (by simp)
   rw [World.size_alloc] at h2
   exact ⟨(aA9 ((hb.block w.heap.size (by simp; omega)).trans (h3.trans h1)) 1).trans rfl, (aA9 ((hb.block (w.heap.size + 1) (by simp)).trans h2) 1).trans rfl⟩
 have HK := qhZ k1
 clear k1
 go_enter Tryz.func16, Tryz.ntmps16
 go_wp2_with fail
 refine (eqNodeS_same f.nodes _ _ _ (HU.out.below HB.out) (HV.out.below HB.out)).mono ?_
 rintro e w1 ⟨rfl, hb1⟩
 obtain ⟨r1, r2⟩ := HK.out w1 hb1
 have HB1 := qhZ (HB.out.trans (hb1.mono HB.out.size))
 clear hb1
 go_wp2
 go_ret
 exact ⟨rfl, HB1.out⟩
end Go.Proofs.YtknhacblialboaaGreatDoor
namespace Go.Proofs.YtknhacblialboaaGreatDoor
open Go.ChangeShapes Go.WideShapes Go.ChangeAt Go.RowKit Go.Joins
set_option linter.unusedVariables false
set_option linter.unusedSimpArgs false
set_option maxHeartbeats 16000000
set_option maxRecDepth 100000
def wf64 (n : Int) : Prop := (Lit.int .i64 n).wf = true
def EntW (e : Ent) : Prop := wf64 e.node
def NodW (n : Nod) : Prop := wf64 n.kind ∧ wf64 n.mode ∧ wf64 n.uid ∧ wf64 n.gid ∧ wf64 n.time ∧ ∀ e ∈ n.list, EntW e
def FsW (f : FsD) : Prop := wf64 f.room ∧ ∀ n ∈ f.nodes, NodW n
theorem spot_of_cell {w : World} {a : Addr} {v : Value} (h : w.cell? a = some v) : a.spot = none := by
 unfold World.cell? at h
 split at h
 · split at h
   · cases h
   · rename_i hs; cases hq : a.spot with
     | none => rfl
     | some y => rw [hq] at hs; exact absurd rfl hs
 · cases h
theorem add_plain (g off i : Nat) : (⟨g, off, none⟩ : Addr).add i = ⟨g, off + i, none⟩ := by
 unfold Addr.add; split
 · rename_i h; subst h; rfl
 · rfl
theorem addr_plain {w : World} {a : Addr} {v : Value} (h : w.cell? a = some v) : a = ⟨a.block, a.off, none⟩ := by
 have := spot_of_cell h
 cases a; simp_all
theorem dataLe {s : ByteArray} {n : Nat} (h : s.size ≤ n) : s.data.toList.length ≤ n := by rw [Array.length_toList]; exact h
section
variable {H : Type} {enc : TypeId × Value → H} {W : World}
theorem cellsEnt : Tryz.prog.cellsOf 178 = 2 := by kernel_rfl
theorem cellsNod : Tryz.prog.cellsOf 85 = 7 := by kernel_rfl
theorem open_ents {fuel : Nat} {cs : List Value} {x : DataW H × List MemPlace} (h : DataW.trod enc Tryz.prog W 0 (fun _ => true) true fuel 83 cs = some x) :
   ∃ v es, cs = [v] ∧ EntsA W v es ∧ ∀ e ∈ es, EntW e := by
 rcases Go.Deep.open_slice_pairs Tryz.underlying83 Tryz.underlying178 cellsEnt rfl rfl (by kernel_rfl) (by kernel_rfl) h with ⟨rfl, -⟩ | ⟨a, len, cap, m, n, V0, V1, D0, D1, P0, P1, rfl, -, hl, hm, hmm, -, hx⟩
 · exact ⟨_, [], rfl, ⟨none, 0, rfl, Nat.zero_le _, fun i hi => absurd hi (by simp)⟩, by simp⟩
 · simp only [if_true] at hmm
   subst hmm
   have each : ∀ i, i < len → ∃ e : Ent, a = ⟨a.block, a.off, none⟩ ∧ a.block < W.heap.size ∧ W.cell? ⟨a.block, a.off + i * 2, none⟩ = some (.string (bs e.name)) ∧ W.cell? ⟨a.block, a.off + i * 2 + 1, none⟩ = some (.int .i64 e.node) ∧ e.name.length ≤ maxLen ∧ EntW e := by
     intro i hi
     have hp := addr_plain (hx 0 (by omega)).1
     obtain ⟨h0, h1, t0, t1⟩ := hx i (by omega)
     obtain ⟨s, e0, -, hs⟩ := DataW.trod_string Tryz.underlying9 t0
     obtain ⟨k, e1, -, hk⟩ := DataW.trod_int Tryz.underlying3 t1
     simp only [List.cons.injEq, and_true] at e0 e1
     rw [e0] at h0
     rw [e1] at h1
     have hb := World.block_lt_of_cell? W _ h0
     rw [addBlock] at hb
     have hpz : a = ⟨a.block, a.off, none⟩ := by simpa [Addr.add] using hp
     rw [hpz, add_plain] at h0 h1
     exact ⟨⟨s.data.toList, k⟩, hpz, hb, by simpa [bs_of] using h0, h1, dataLe hs, hk⟩
   haveI : Inhabited Ent := ⟨⟨[], 0⟩⟩
   obtain ⟨E, hE⟩ := Go.Deep.choose_lt each
   refine ⟨_, (List.range len).map E, rfl, ⟨some a, m, by simp, by simp; omega, fun i hi => ?_⟩, ?_⟩
   · simp at hi
     obtain ⟨h1, h2, h3, h4, h5, h6⟩ := hE i hi
     exact ⟨a.block, a.off, by rw [← h1], h2, by simpa using h3, by simpa using h4, by simpa using h5⟩
   · intro e he
     simp at he
     obtain ⟨i, hi, rfl⟩ := he
     exact (hE i hi).2.2.2.2.2
theorem open_nods {fuel : Nat} {cs : List Value} {x : DataW H × List MemPlace} (h : DataW.trod enc Tryz.prog W 0 (fun _ => true) true fuel 22 cs = some x) :
   ∃ v ns, cs = [v] ∧ NodsA W v ns ∧ ∀ n ∈ ns, NodW n := by
 rcases Go.Deep.open_slice Tryz.underlying22 h with ⟨rfl, -⟩ | ⟨a, len, cap, m, n, D, Pl, rfl, -, hl, hm, hmm, -, hx⟩
 · exact ⟨_, [], rfl, ⟨none, 0, rfl, Nat.zero_le _, fun i hi => absurd hi (by simp)⟩, by simp⟩
 · simp only [if_true] at hmm
   subst hmm
   have each : ∀ i, i < len → ∃ q : Nod, a = ⟨a.block, a.off, none⟩ ∧ a.block < W.heap.size ∧ (∃ lv, NodC W a.block (a.off + i * 7) lv q ∧ EntsA W lv q.list) ∧ q.data.length ≤ maxLen ∧ NodW q := by
     intro i hi
     have hp : a = ⟨a.block, a.off, none⟩ := by
       obtain ⟨c, h1, -⟩ := hx 0 (by omega)
       rw [cellsNod] at h1
       obtain ⟨_, hlen, hcell⟩ := World.cells?_some h1
       have h2 := hcell 0 (by omega)
       have h3 : ∃ v, c[0]? = some v := ⟨c[0], List.getElem?_eq_getElem (by omega)⟩
       obtain ⟨v, h3⟩ := h3
       rw [h3] at h2
       simpa [Addr.add] using addr_plain h2
     obtain ⟨c, h1, h2⟩ := hx i (by omega)
     rw [cellsNod] at h1
     obtain ⟨_, hlen, hcell⟩ := World.cells?_some h1
     obtain ⟨xs, k, -, -, -, hxl, hf⟩ := DataW.trod_struct Tryz.underlying85 h2
     match xs, hxl, c, hlen with
     | [y0, y1, y2, y3, y4, y5, y6], _, [v0, v1, v2, v3, v4, v5, v6], _ =>
       have g0 := hf 0 _ rfl
       have g1 := hf 1 _ rfl
       have g2 := hf 2 _ rfl
       have g3 := hf 3 _ rfl
       have g4 := hf 4 _ rfl
       have g5 := hf 5 _ rfl
       have g6 := hf 6 _ rfl
       have ci : Tryz.prog.cellsOf 3 = 1 := by kernel_rfl
       have cS : Tryz.prog.cellsOf 9 = 1 := by kernel_rfl
       have cL : Tryz.prog.cellsOf 83 = 1 := by kernel_rfl
       simp [ci, cS, cL] at g0 g1 g2 g3 g4 g5 g6
       obtain ⟨n0, e0, -, w0⟩ := DataW.trod_int Tryz.underlying3 g0
       obtain ⟨n1, e1, -, w1⟩ := DataW.trod_int Tryz.underlying3 g1
       obtain ⟨n2, e2, -, w2⟩ := DataW.trod_int Tryz.underlying3 g2
       obtain ⟨n3, e3, -, w3⟩ := DataW.trod_int Tryz.underlying3 g3
       obtain ⟨n4, e4, -, w4⟩ := DataW.trod_int Tryz.underlying3 g4
       obtain ⟨s, e5, -, hs⟩ := DataW.trod_string Tryz.underlying9 g5
       obtain ⟨lv, es, e6, hE, hW⟩ := open_ents g6
       simp only [List.cons.injEq, and_true] at e0 e1 e2 e3 e4 e5 e6
       subst e0 e1 e2 e3 e4 e5 e6
       rw [hp] at hcell
       simp only [add_plain] at hcell
       have c0 := hcell 0 (by omega)
       have hb := World.block_lt_of_cell? W _ c0
       exact ⟨⟨n0, n1, n2, n3, n4, s.data.toList, es⟩, hp, hb, ⟨v6, ⟨c0, hcell 1 (by omega), hcell 2 (by omega), hcell 3 (by omega), hcell 4 (by omega), by rw [bs_of]; exact hcell 5 (by omega), hcell 6 (by omega)⟩, hE⟩, dataLe hs, w0, w1, w2, w3, w4, hW⟩
   haveI : Inhabited Nod := ⟨⟨0, 0, 0, 0, 0, [], []⟩⟩
   obtain ⟨E, hE⟩ := Go.Deep.choose_lt each
   refine ⟨_, (List.range len).map E, rfl, ⟨some a, m, by simp, by simp; omega, fun i hi => ?_⟩, ?_⟩
   · simp at hi
     obtain ⟨h1, h2, ⟨lv, h3, h4⟩, h5, h6⟩ := hE i hi
     exact ⟨a.block, a.off, lv, by rw [← h1], h2, by simpa using h3, by simpa using h4, by simpa using h5⟩
   · intro e he
     simp at he
     obtain ⟨i, hi, rfl⟩ := he
     exact (hE i hi).2.2.2.2
theorem open_fsA {base : Nat} {v : Value} {d : DataW H} {p : List MemPlace} (hval : Value.okWide Tryz.prog W .any base 24 v) (h : DataW.Trod enc Tryz.prog W 0 (fun _ => true) true 24 v d p) :
   ∃ f, FsA W v f ∧ FsW f := by
 obtain ⟨v0, v1, y0, y1, m, rfl, -, -, h0, h1⟩ := open_agg2 Tryz.underlying24 (by kernel_rfl) (by kernel_rfl) hval h
 obtain ⟨nv, ns, e0, hN, hW⟩ := open_nods h0
 obtain ⟨r, e1, -, hr⟩ := DataW.trod_int Tryz.underlying3 h1
 simp only [List.cons.injEq, and_true] at e0 e1
 subst e0 e1
 exact ⟨⟨ns, r⟩, ⟨_, rfl, hN⟩, hr, hW⟩
end
end Go.Proofs.YtknhacblialboaaGreatDoor
namespace Go.Proofs.YtknhacblialboaaGreatDoor
open Go.ChangeShapes Go.WideShapes Go.ChangeAt Go.RowKit Go.Joins
set_option linter.unusedVariables false
set_option linter.unusedSimpArgs false
set_option maxHeartbeats 16000000
def sumD (ns : List Nod) : Nat := (ns.map fun n => n.data.length).sum
theorem sumD_take {ns : List Nod} {k : Nat} (h : k < ns.length) : sumD (ns.take (k + 1)) = sumD (ns.take k) + ns[k].data.length := by
 unfold sumD; rw [List.take_succ_eq_append_getElem h]; simp only [List.map_append, List.sum_append, List.map_cons, List.map_nil, List.sum_cons, List.sum_nil, Nat.add_zero]
theorem sumD_pre (ns : List Nod) (k : Nat) : sumD (ns.take k) ≤ sumD ns := by
 conv => rhs; rw [← List.take_append_drop k ns]
 unfold sumD; rw [List.map_append, List.sum_append]; omega
theorem sumD_le (ns : List Nod) : sumD ns ≤ szNs ns := by
 unfold sumD szNs szN
 induction ns with
 | nil => simp
 | cons a r ih => simp only [List.map_cons, List.sum_cons]; omega
theorem l3Bytes_any (f : FsD) (v : Value) (w : World) (hR : FsA w v f) (hs : szF f ≤ 1048576) : Calls Tryz.prog 66 #[v] w fun e w' => e = .returned (.int .i64 (sumD f.nodes : Nat)) ∧ Below w.heap.size w w' := by
 obtain ⟨nv, rfl, hN⟩ := hR
 obtain ⟨o, c, rfl, hm, hH⟩ := hN
 have HH := qhZ hH
 clear hH
 unfold maxLen at hm
 have hT : sumD f.nodes ≤ 1048576 := by have := sumD_le f.nodes; unfold szF at hs; omega
 have hl : f.nodes.length ≤ 1048576 := by unfold szF at hs; omega
 clear hs
 go_enter Tryz.func66, Tryz.ntmps66
 go_wp2
 have hbw : Below w.heap.size w (w.alloc (.cells #[.slice o f.nodes.length c, .int .i64 f.room] 30)) := (Below.refl _ _).alloc (Nat.le_refl _) _
 go_loopw [3, 9] (fun t i wr => ∃ k : Nat, k ≤ f.nodes.length ∧ i = .int .i64 k ∧ t = .int .i64 (sumD (f.nodes.take k) : Nat) ∧ Below w.heap.size w wr) (fun _ i _ => f.nodes.length - (intOf i).toNat)
 case atStart => exact ⟨0, Nat.zero_le _, rfl, rfl, hbw⟩
 case round =>
   obtain ⟨k, hk, rfl, rfl, hB⟩ := hrel
   by_cases hlt : k < f.nodes.length
   · obtain ⟨g, off, lv, rfl, hg, hc, he, hml⟩ := HH.out k hlt
     have HS := qhZ (sumD_take hlt)
     have hle := sumD_pre f.nodes (k + 1)
     obtain ⟨d0, d1, d2, d3, d4, d5, d6⟩ := hc.below hB hg
     obtain ⟨q, hqq⟩ : ∃ q, q = f.nodes[k] := ⟨_, rfl⟩
     rw [← hqq] at d0 d1 d2 d3 d4 d5 he hml HS
     obtain ⟨o2, c2, rfl, _, _⟩ := id he
     have HZ : Hid ((bs q.data).size = q.data.length) := qhZ (bs_size _)
     have hT2 : sumD (f.nodes.take k) + q.data.length ≤ 1048576 := by rw [HS.out] at hle; omega
     have hx : (bs q.data).size + sumD (f.nodes.take k) ≤ 1048576 := by rw [HZ.out]; omega
     obtain ⟨x, hxx⟩ : ∃ x, x = bs q.data := ⟨_, rfl⟩
     rw [← hxx] at d5 hx HZ
     have HX := qhZ hxx
     clear hc he hml hqq hxx hle
     go_wp2
     go_roundw
     case rel =>
       refine ⟨k + 1, hlt, by go_num, by rw [HS.out, ← HZ.out]; go_num, ?_⟩
       exact hB.alloc hB.size _
     case measure => simp [intOf]; omega
   · have HT : Hid (f.nodes.take k = f.nodes) := qhZ (List.take_of_length_le (by omega))
     go_wp2
     go_ret
     exact ⟨ret_int (by rw [HT.out]), hB⟩
def tot {α : Type} (g : α → Nat) (l : List α) : Nat := (l.map g).sum
theorem tot_take {α : Type} (g : α → Nat) {l : List α} {k : Nat} (h : k < l.length) : tot g (l.take (k + 1)) = tot g (l.take k) + g l[k] := by
 unfold tot; rw [List.take_succ_eq_append_getElem h]; simp only [List.map_append, List.sum_append, List.map_cons, List.map_nil, List.sum_cons, List.sum_nil, Nat.add_zero]
theorem tot_pre {α : Type} (g : α → Nat) (l : List α) (k : Nat) : tot g (l.take k) ≤ tot g l := by
 conv => rhs; rw [← List.take_append_drop k l]
 unfold tot; rw [List.map_append, List.sum_append]; omega
theorem tot_le {α : Type} {g g' : α → Nat} (h : ∀ a, g a ≤ g' a) (l : List α) : tot g l ≤ tot g' l := by
 unfold tot
 induction l with
 | nil => simp
 | cons a r ih => simp only [List.map_cons, List.sum_cons]; have := h a; omega
def one (node : Int) (e : Ent) : Nat := if e.node = node then 1 else 0
def linksE (node : Int) (es : List Ent) : Nat := tot (one node) es
def links (node : Int) (ns : List Nod) : Nat := tot (fun n => linksE node n.list) ns
theorem linksE_le (node : Int) (es : List Ent) : linksE node es ≤ es.length := by
 unfold linksE tot
 induction es with
 | nil => simp
 | cons a r ih => 
   have : one node a ≤ 1 := by unfold one; split <;> omega
   simp only [List.map_cons, List.sum_cons, List.length_cons]; omega
theorem links_le (node : Int) (ns : List Nod) : links node ns ≤ szNs ns := by
 unfold links szNs
 exact tot_le (g' := szN) (fun n => by have := linksE_le node n.list; unfold szN; omega) ns
theorem l3Links_any (f : FsD) (node : Int) (v : Value) (w : World) (hR : FsA w v f) (hs : szF f ≤ 1048576) : Calls Tryz.prog 124 #[v, .int .i64 node] w fun e w' => e = .returned (.int .i64 (links node f.nodes : Nat)) ∧ Below w.heap.size w w' := by
 obtain ⟨nv, rfl, hN⟩ := hR
 obtain ⟨o, c, rfl, hm, hH⟩ := hN
 have HH := qhZ hH
 clear hH
 unfold maxLen at hm
 have hT : links node f.nodes ≤ 1048576 := by have := links_le node f.nodes; unfold szF at hs; omega
 have hl : f.nodes.length ≤ 1048576 := by unfold szF at hs; omega
 have hL : ∀ n ∈ f.nodes, n.list.length ≤ 1048576 := fun n hn => ((aG9 hs).2 n hn).1
 have HL := qhZ hL
 clear hs hL
 go_enter Tryz.func124, Tryz.ntmps124
 go_wp2
 have hbw : Below w.heap.size w (w.alloc (.cells #[.slice o f.nodes.length c, .int .i64 f.room] 30)) := (Below.refl _ _).alloc (Nat.le_refl _) _
 go_loopw [5, 13] (fun t i wr => ∃ k : Nat, k ≤ f.nodes.length ∧ i = .int .i64 k ∧ t = .int .i64 (links node (f.nodes.take k) : Nat) ∧ Below w.heap.size w wr) (fun _ i _ => f.nodes.length - (intOf i).toNat)
 case atStart => exact ⟨0, Nat.zero_le _, rfl, rfl, hbw⟩
 case round =>
   obtain ⟨k, hk, rfl, rfl, hB⟩ := hrel
   by_cases hlt : k < f.nodes.length
   · obtain ⟨g, off, lv, rfl, hg, hc, he, hml⟩ := HH.out k hlt
     have HS : Hid (links node (f.nodes.take (k + 1)) = links node (f.nodes.take k) + linksE node f.nodes[k].list) := qhZ (tot_take _ hlt)
     have hle : links node (f.nodes.take (k + 1)) ≤ links node f.nodes := tot_pre _ f.nodes (k + 1)
     obtain ⟨d0, d1, d2, d3, d4, d5, d6⟩ := hc.below hB hg
     have hq2 := HL.out f.nodes[k] (List.getElem_mem hlt)
     obtain ⟨q, hqq⟩ : ∃ q, q = f.nodes[k] := ⟨_, rfl⟩
     rw [← hqq] at d0 d1 d2 d3 d4 d5 he hml HS hq2
     obtain ⟨o2, c2, rfl, -, hE⟩ := id he
     have HE := qhZ hE
     have hT2 : links node (f.nodes.take k) + linksE node q.list ≤ 1048576 := by rw [HS.out] at hle; omega
     obtain ⟨x, hxx⟩ : ∃ x, x = bs q.data := ⟨_, rfl⟩
     rw [← hxx] at d5
     clear hc he hml hqq hxx hle hE
     go_wp2
     go_loopw [5, 20] (fun t i wi => ∃ j : Nat, j ≤ q.list.length ∧ i = .int .i64 j ∧ t = .int .i64 ((links node (f.nodes.take k) + linksE node (q.list.take j) : Nat) : Int) ∧ Below w.heap.size w wi) (fun _ i _ => q.list.length - (intOf i).toNat)
     case atStart =>
       exact ⟨0, Nat.zero_le _, rfl, rfl, hB.alloc hB.size _⟩
     case round =>
       obtain ⟨j, hj, rfl, rfl, hB2⟩ := hrel
       by_cases hlt2 : j < q.list.length
       · obtain ⟨g2, f2, rfl, q2, x2, y2, _⟩ := HE.out j hlt2
         have HS2 : Hid (linksE node (q.list.take (j + 1)) = linksE node (q.list.take j) + one node q.list[j]) := qhZ (tot_take _ hlt2)
         have hle2 : linksE node (q.list.take (j + 1)) ≤ linksE node q.list := tot_pre _ q.list (j + 1)
         have a1 := (hB2.cell (p := ⟨g2, f2 + j * 2, none⟩) q2).trans x2
         have a2 := (hB2.cell (p := ⟨g2, f2 + j * 2 + 1, none⟩) q2).trans y2
         obtain ⟨z, hzz⟩ : ∃ z, z = q.list[j] := ⟨_, rfl⟩
         rw [← hzz] at a1 a2 HS2
         obtain ⟨y, hyy⟩ : ∃ y, y = bs z.name := ⟨_, rfl⟩
         rw [← hyy] at a1
         obtain ⟨r, hr⟩ : ∃ r, r = z.node := ⟨_, rfl⟩
         rw [← hr] at a2
         have HZ : Hid (one node z = if r = node then 1 else 0) := qhZ (by rw [hr]; rfl)
         clear x2 y2 hzz hyy hr
         by_cases hrn : r = node
         · have HO : Hid (one node z = 1) := qhZ (by rw [HZ.out, if_pos hrn])
           have hx3 : links node (f.nodes.take k) + linksE node (q.list.take j) + 1 ≤ 1048576 := by rw [HS2.out, HO.out] at hle2; omega
           clear HZ hle2
           go_wp2
           go_roundw
           case rel =>
             exact ⟨j + 1, hlt2, by go_num, by rw [HS2.out, HO.out]; go_num, hB2.alloc hB2.size _⟩
           case measure => simp [intOf]; omega
         · have HO : Hid (one node z = 0) := qhZ (by rw [HZ.out, if_neg hrn])
           clear HZ hle2
           go_wp2
           go_roundw
           case rel =>
             exact ⟨j + 1, hlt2, by go_num, by rw [HS2.out, HO.out]; go_num, hB2.alloc hB2.size _⟩
           case measure => simp [intOf]; omega
       · have HT : Hid (q.list.take j = q.list) := qhZ (List.take_of_length_le (by omega))
         go_wp2
         go_roundw
         case rel => exact ⟨k + 1, hlt, by go_num, by rw [HS.out, HT.out], hB2⟩
         case measure => simp [intOf]; omega
   · have HT : Hid (f.nodes.take k = f.nodes) := qhZ (List.take_of_length_le (by omega))
     go_wp2
     go_ret
     exact ⟨ret_int (by rw [HT.out]), hB⟩
theorem aB9 {w : World} {b : Nat} {o : Obj} (h : w.heap[b]? = some o) : b < w.heap.size := (Array.getElem?_eq_some_iff.1 h).1
def bE9 (ns : List Nod) : Int := match ns.findIdx? (fun n => n.kind == 0) with
 | some k => k
 | none => if ns.length = 40 then -1 else ns.length
theorem findIdx_is {α : Type} {p : α → Bool} {l : List α} {k : Nat} (h : k < l.length) (hp : p l[k] = true) (hn : ∀ j (hj : j < l.length), j < k → p l[j] = false) : l.findIdx? p = some k :=
 List.findIdx?_eq_some_iff_getElem.2 ⟨h, hp, fun j hj => by rw [hn j (by omega) hj]; simp⟩
theorem findIdx_not {α : Type} {p : α → Bool} {l : List α} (hn : ∀ j (hj : j < l.length), p l[j] = false) : l.findIdx? p = none := by
 rw [List.findIdx?_eq_none_iff]
 intro x hx
 obtain ⟨j, hj, rfl⟩ := List.getElem_of_mem hx
 exact hn j hj
theorem l3Free_any (f : FsD) (v : Value) (w : World) (hR : FsA w v f) (hs : f.nodes.length ≤ 1048576) : Calls Tryz.prog 63 #[v] w fun e w' => e = .returned (.int .i64 (bE9 f.nodes)) ∧ Below w.heap.size w w' := by
 obtain ⟨nv, rfl, hN⟩ := hR
 obtain ⟨o, c, rfl, hm, hH⟩ := hN
 have HH := qhZ hH
 clear hH
 unfold maxLen at hm
 have hbw : Below w.heap.size w (w.alloc (.cells #[.slice o f.nodes.length c, .int .i64 f.room] 30)) := (Below.refl _ _).alloc (Nat.le_refl _) _
 have hk0 := heap_alloc_new w (.cells #[.slice o f.nodes.length c, .int .i64 f.room] 30)
 go_enter Tryz.func63, Tryz.ntmps63
 go_wp2
 go_loopw [8] (fun i wr => ∃ k : Nat, k ≤ f.nodes.length ∧ i = .int .i64 k ∧ Below w.heap.size w wr ∧ wr.heap[w.heap.size]? = some (.cells #[.slice o f.nodes.length c, .int .i64 f.room] 30) ∧ ∀ j (hj : j < f.nodes.length), j < k → (f.nodes[j].kind == 0) = false) (fun i _ => f.nodes.length - (intOf i).toNat)
 case atStart => exact ⟨0, Nat.zero_le _, rfl, hbw, hk0, fun j hj h => absurd h (Nat.not_lt_zero _)⟩
 case round =>
   obtain ⟨k, hk, rfl, hB, hb, hj⟩ := hrel
   have HJ := qhZ hj
   clear hj
   by_cases hlt : k < f.nodes.length
   · obtain ⟨g, off, lv, rfl, hg, hc, he, hml⟩ := HH.out k hlt
     obtain ⟨d0, d1, d2, d3, d4, d5, d6⟩ := hc.below hB hg
     obtain ⟨q, hqq⟩ : ∃ q, q = f.nodes[k] := ⟨_, rfl⟩
     have HQ := qhZ hqq
     rw [← hqq] at d0 d1 d2 d3 d4 d5 he hml
     obtain ⟨o2, c2, rfl, _, _⟩ := id he
     obtain ⟨x, hxx⟩ : ∃ x, x = bs q.data := ⟨_, rfl⟩
     rw [← hxx] at d5
     clear hc he hml hqq hxx
     by_cases hz : q.kind = 0
     · have HF : Hid (bE9 f.nodes = k) := qhZ (by
         unfold bE9
         rw [findIdx_is hlt (by rw [← HQ.out, hz]; rfl) HJ.out])
       rw [hz] at d0
       go_wp2
       go_ret
       exact ⟨ret_int HF.out.symm, hB.alloc hB.size _⟩
     · have HJ2 : Hid (∀ j (hj : j < f.nodes.length), j < k + 1 → (f.nodes[j].kind == 0) = false) := qhZ (by
         intro j hj h
         rcases Nat.lt_succ_iff_lt_or_eq.1 h with h1 | rfl
         · exact HJ.out j hj h1
         · rw [← HQ.out]; simpa using hz)
       go_wp2
       go_roundw
       case rel => exact ⟨k + 1, hlt, by go_num, hB.alloc hB.size _, (Below.heap_alloc _ _ _ (aB9 hb)).trans hb, HJ2.out⟩
       case measure => simp [intOf]; omega
   · have a0 := (aA9 hb 0).trans rfl
     have HN : Hid (f.nodes.findIdx? (fun n => n.kind == 0) = none) := qhZ (findIdx_not (fun j hj => HJ.out j hj (by omega)))
     by_cases h40 : f.nodes.length = 40
     · have HF : Hid (bE9 f.nodes = -1) := qhZ (by unfold bE9; rw [HN.out]; simp [h40])
       go_wp2
       go_ret
       exact ⟨ret_int HF.out.symm, hB⟩
     · have HF : Hid (bE9 f.nodes = f.nodes.length) := qhZ (by unfold bE9; rw [HN.out]; simp [h40])
       go_wp2
       go_ret
       exact ⟨ret_int HF.out.symm, hB⟩
def hasE (node : Int) (es : List Ent) : Bool := es.any fun e => e.node == node
def parentOf (node : Int) (ns : List Nod) : Nat := match ns.findIdx? (fun n => hasE node n.list) with
 | some k => k
 | none => 0
theorem l3Parent_any (f : FsD) (node : Int) (v : Value) (w : World) (hR : FsA w v f) (hs : szF f ≤ 1048576) : Calls Tryz.prog 127 #[v, .int .i64 node] w fun e w' => e = .returned (.int .i64 (parentOf node f.nodes : Nat)) ∧ Below w.heap.size w w' := by
 obtain ⟨nv, rfl, hN⟩ := hR
 obtain ⟨o, c, rfl, hm, hH⟩ := hN
 have HH := qhZ hH
 clear hH
 unfold maxLen at hm
 have hl : f.nodes.length ≤ 1048576 := by unfold szF at hs; omega
 have hL : ∀ n ∈ f.nodes, n.list.length ≤ 1048576 := fun n hn => ((aG9 hs).2 n hn).1
 have HL := qhZ hL
 clear hs hL
 go_enter Tryz.func127, Tryz.ntmps127
 go_wp2
 have hbw : Below w.heap.size w (w.alloc (.cells #[.slice o f.nodes.length c, .int .i64 f.room] 30)) := (Below.refl _ _).alloc (Nat.le_refl _) _
 go_loopw [12] (fun i wr => ∃ k : Nat, k ≤ f.nodes.length ∧ i = .int .i64 k ∧ Below w.heap.size w wr ∧ ∀ j (hj : j < f.nodes.length), j < k → hasE node f.nodes[j].list = false) (fun i _ => f.nodes.length - (intOf i).toNat)
 case atStart => exact ⟨0, Nat.zero_le _, rfl, hbw, fun j hj h => absurd h (Nat.not_lt_zero _)⟩
 case round =>
   obtain ⟨k, hk, rfl, hB, hj⟩ := hrel
   have HJ := qhZ hj
   clear hj
   by_cases hlt : k < f.nodes.length
   · obtain ⟨g, off, lv, rfl, hg, hc, he, hml⟩ := HH.out k hlt
     obtain ⟨d0, d1, d2, d3, d4, d5, d6⟩ := hc.below hB hg
     have hq2 := HL.out f.nodes[k] (List.getElem_mem hlt)
     obtain ⟨q, hqq⟩ : ∃ q, q = f.nodes[k] := ⟨_, rfl⟩
     have HQ := qhZ hqq
     rw [← hqq] at d0 d1 d2 d3 d4 d5 he hml hq2
     obtain ⟨o2, c2, rfl, -, hE⟩ := id he
     have HE := qhZ hE
     obtain ⟨x, hxx⟩ : ∃ x, x = bs q.data := ⟨_, rfl⟩
     rw [← hxx] at d5
     clear hc he hml hqq hxx hE
     go_wp2
     go_loopw [20] (fun i wi => ∃ j : Nat, j ≤ q.list.length ∧ i = .int .i64 j ∧ Below w.heap.size w wi ∧ ∀ m (hm : m < q.list.length), m < j → (q.list[m].node == node) = false) (fun i _ => q.list.length - (intOf i).toNat)
     case atStart =>
       exact ⟨0, Nat.zero_le _, rfl, hB.alloc hB.size _, fun j hj h => absurd h (Nat.not_lt_zero _)⟩
     case round =>
       obtain ⟨j, hj, rfl, hB2, hM⟩ := hrel
       have HM := qhZ hM
       clear hM
       by_cases hlt2 : j < q.list.length
       · obtain ⟨g2, f2, rfl, q2, x2, y2, _⟩ := HE.out j hlt2
         have a1 := (hB2.cell (p := ⟨g2, f2 + j * 2, none⟩) q2).trans x2
         have a2 := (hB2.cell (p := ⟨g2, f2 + j * 2 + 1, none⟩) q2).trans y2
         obtain ⟨z, hzz⟩ : ∃ z, z = q.list[j] := ⟨_, rfl⟩
         have HZ := qhZ hzz
         rw [← hzz] at a1 a2
         obtain ⟨y, hyy⟩ : ∃ y, y = bs z.name := ⟨_, rfl⟩
         rw [← hyy] at a1
         obtain ⟨r, hr⟩ : ∃ r, r = z.node := ⟨_, rfl⟩
         have HR := qhZ hr
         rw [← hr] at a2
         clear x2 y2 hzz hyy hr
         by_cases hrn : r = node
         · have HF : Hid (parentOf node f.nodes = k) := qhZ (by
             unfold parentOf
             rw [findIdx_is (p := fun n => hasE node n.list) hlt (by
               show hasE node f.nodes[k].list = true
               rw [← HQ.out]
               unfold hasE
               rw [List.any_eq_true]
               exact ⟨q.list[j], List.getElem_mem hlt2, by rw [← HZ.out, ← HR.out, hrn]; simp⟩) HJ.out])
           go_wp2
           go_ret
           exact ⟨ret_int (by rw [HF.out]), hB2.alloc hB2.size _⟩
         · have HM2 : Hid (∀ m (hm : m < q.list.length), m < j + 1 → (q.list[m].node == node) = false) := qhZ (by
             intro m hm h
             rcases Nat.lt_succ_iff_lt_or_eq.1 h with h1 | rfl
             · exact HM.out m hm h1
             · rw [← HZ.out, ← HR.out]; simpa using hrn)
           go_wp2
           go_roundw
           case rel =>
             exact ⟨j + 1, hlt2, by go_num, hB2.alloc hB2.size _, HM2.out⟩
           case measure => simp [intOf]; omega
       · have HJ2 : Hid (∀ j (hj : j < f.nodes.length), j < k + 1 → hasE node f.nodes[j].list = false) := qhZ (by
           intro i hi h
           rcases Nat.lt_succ_iff_lt_or_eq.1 h with h1 | rfl
           · exact HJ.out i hi h1
           · rw [← HQ.out]
             unfold hasE
             rw [List.any_eq_false]
             intro e he
             obtain ⟨m, hm, rfl⟩ := List.getElem_of_mem he
             rw [HM.out m hm (by omega)]; simp)
         go_wp2
         go_roundw
         case rel => exact ⟨k + 1, hlt, by go_num, hB2, HJ2.out⟩
         case measure => simp [intOf]; omega
   · have HF : Hid (parentOf node f.nodes = 0) := qhZ (by
       unfold parentOf
       rw [findIdx_not (p := fun n => hasE node n.list) (fun j hj => HJ.out j hj (by omega))])
     go_wp2
     go_ret
     exact ⟨ret_int (by rw [HF.out]; rfl), hB⟩
end Go.Proofs.YtknhacblialboaaGreatDoor
