/-
  Joined: LayG AppK InsA MakM DrfC.
  Conditions: as each states.
-/
import Derived.Deep.RegionLaw
import Derived.Lib.QuietBelow
import Derived.Deep.CutRange
import Derived.Deep.CutBlock
import Derived.Deep.DeepCutAuto
import Derived.Laws.OwnMore
import Derived.Shelf.Spec.SlicesInsert
import Derived.Lib.AppendZerosOnto
import Derived.Laws.NewBlocks
import Derived.Test.YtknhacblialboaaGreatDoorLib1
import Derived.Test.YtknhacblialboaaGreatDoorLib2
import Derived.Test.YtknhacblialboaaGreatDoorLib4
import Derived.Test.YtknhacblialboaaGreatDoorLib12
import Derived.Test.YtknhacblialboaaGreatDoorLib17
import Derived.Test.YtknhacblialboaaGreatDoorLib18
namespace Go.Proofs.YtknhacblialboaaGreatDoor
open Go.ChangeShapes Go.WideShapes Go.ChangeAt Go.RowKit Go.Joins
set_option linter.unusedVariables false
set_option linter.unusedSimpArgs false
set_option maxHeartbeats 16000000
theorem info_ent : ∃ i, Tryz.prog.info? 126 = some i ∧ i.zero = some (.agg #[.string ⟨#[]⟩, .int .i64 0]) ∧ i.size = 2 ∧ i.bytes = 24 := by
 have h := entInfo
 cases hq : Tryz.prog.info? 126 with
 | none => rw [hq] at h; cases h
 | some i =>
   rw [hq] at h
   simp only [Option.map_some, Option.some.injEq, Prod.mk.injEq] at h
   exact ⟨i, rfl, h.1, h.2.1, h.2.2⟩
theorem own_ent (w : World) : (w.alloc (.cells #[] 126)).ownsRow w.heap.size 126 2 (.slice (some ⟨w.heap.size, 0, none⟩) 0 0) 0 [] :=
 World.ownsRow_made w #[] 0 (Nat.le_refl _) (by unfold maxLen; omega) rfl
theorem bB9 {w wr w1 : World} {B : Nat} {v : Value} {n : Nat} {xs : List Value} (hb : Below B w wr) (hB : B ≤ wr.heap.size) (hown : wr.ownsRow B 126 2 v n xs) (hg : wr.grownBy w1 v.ownBlock) : Below B w w1 := by
 refine hb.grown hg hB fun j ej => ?_
 rcases hown.2 with ⟨rfl, _⟩ | ⟨g, cap, cur, rfl, hgb, _, _⟩
 · simp [Value.ownBlock] at ej
 · obtain rfl : g = j := by simpa [Value.ownBlock] using ej
   omega
theorem add_plainE (g off i : Nat) : (⟨g, off, none⟩ : Addr).add i = ⟨g, off + i, none⟩ := by
 unfold Addr.add; split
 · rename_i h; subst h; rfl
 · rfl
theorem ents_part {w w1 : World} {R g cap : Nat} {es : List Ent} (h : Ents w R (.slice (some ⟨g, 0, none⟩) es.length cap) es) (hb : Below w.heap.size w w1) (k m : Nat) :
   ∀ j u, (aX9 ((es.drop k).take m))[j]? = some u → w1.cell? ((⟨g, k * 2, none⟩ : Addr).add j) = some u := by
 intro j u hj
 rw [add_plainE]
 have hlt : j < ((es.drop k).take m).length * 2 := by
   rw [← bJ9]; exact (List.getElem?_eq_some_iff.1 hj).1
 have hi : j / 2 < ((es.drop k).take m).length := by omega
 have hj2 : j % 2 < 2 := Nat.mod_lt _ (by decide)
 have e1 : (aX9 ((es.drop k).take m))[j]? = (entV ((es.drop k).take m)[j / 2])[j % 2]? := by
   have := flat_get (entV_len ((es.drop k).take m)) (i := j / 2) (j := j % 2) (by simpa using hi) hj2
   rw [show j / 2 * 2 + j % 2 = j by omega] at this
   unfold aX9
   rw [this]; simp
 have hk : k + j / 2 < es.length := by simp at hi; omega
 have e2 : ((es.drop k).take m)[j / 2] = es[k + j / 2] := by simp
 have e3 : (aX9 es)[(k + j / 2) * 2 + j % 2]? = (entV es[k + j / 2])[j % 2]? := by
   unfold aX9
   rw [flat_get (entV_len es) (by simpa using hk) hj2]; simp
 have hc := World.ownsRow.cellAt h ((k + j / 2) * 2 + j % 2) (by omega)
 have hgl := (World.ownsRow.lt h g rfl).2
 rw [hb.cell (p := ⟨g, k * 2 + j, none⟩) hgl, show k * 2 + j = (k + j / 2) * 2 + j % 2 by omega, hc, e3, ← e2, ← e1]
 exact hj
theorem run_append_noneE {P : Program} (w : World) (t ty e : TypeId) (i : TypeInfo) (ht : P.underlying t = some (.slice e)) (hi : P.info? e = some i) (oo : Option Addr) (n cap c : Nat) (h : n ≤ cap) :
   (Builtin.append_ #[t, t] ty #[.slice oo n cap, .slice none 0 c]).run P w = .ok (.slice oo n cap) w := by
 cases oo <;> simp [Builtin.append_, run_underlying ht, sizeOf, typeInfo, hi, Builtin.lenOf, Builtin.firstCells, h, storeCells, run_firstCells_none]
theorem step_append_noneE {P : Program} (w : World) {ops : Array Oper} {o : Oper} {a : Act} {K : Act → World → Prop} {Q : Exit → Act → World → Prop} {E : Prop} (hgd : o.guard = none) (s x : Operand) (t : TypeId)
   (ho : o.op = .call { callee := .builtin .append, args := #[s, x], argTypes := #[t, t] }) (e : TypeId) (i : TypeInfo) (ht : P.underlying t = some (.slice e)) (hi : P.info? e = some i)
   (oo : Option Addr) (n cap c : Nat) (hs : a.eval s = .slice oo n cap) (hx : a.eval x = .slice none 0 c) (hc : n ≤ cap)
   (h : K (a.put o.dst (.slice oo n cap)) w) :
   if Region.wanted o (yielded ops a.tmps) = true then Oper.wp P o a w K Q else E := by
 have hw : Region.wanted o (yielded ops a.tmps) = true := by simp [Region.wanted, hgd]
 rw [if_pos hw]
 unfold Oper.wp execOp
 simp only [ho, resolve, invoke, builtin, Sem.run_bind, Sem.run_pure, Result.andThen_ok, List.map_toArray, List.map_cons, List.map_nil, hs, hx, run_append_noneE (P := P) w t o.type e i ht hi oo n cap c hc]
 exact h
theorem owns_cap {w : World} {B : Nat} {T : TypeId} {sz n cap : Nat} {oo : Option Addr} {xs : List Value} (h : w.ownsRow B T sz (.slice oo n cap) n xs) : n ≤ cap := by
 rcases h.2 with ⟨e, h0⟩ | ⟨g, c, cur, e, _, _, h1, _⟩
 · omega
 · simp only [Value.slice.injEq, true_and] at e
   obtain ⟨-, rfl⟩ := e
   exact h1
theorem ents_drop {w w1 : World} {R g cap : Nat} {es : List Ent} (h : Ents w R (.slice (some ⟨g, 0, none⟩) es.length cap) es) (hb : Below w.heap.size w w1) (k : Nat) :
   ∀ j u, (aX9 (es.drop k))[j]? = some u → w1.cell? ((⟨g, k * 2, none⟩ : Addr).add j) = some u := by
 have := ents_part h hb k es.length
 rw [List.take_of_length_le (by simp)] at this
 exact this
theorem ents_take {w w1 : World} {R g cap : Nat} {es : List Ent} (h : Ents w R (.slice (some ⟨g, 0, none⟩) es.length cap) es) (hb : Below w.heap.size w w1) (k : Nat) :
   ∀ j u, (aX9 (es.take k))[j]? = some u → w1.cell? ((⟨g, 0, none⟩ : Addr).add j) = some u := by
 have := ents_part h hb 0 k
 simpa using this
theorem own_entB (w : World) (B : Nat) (h : B ≤ w.heap.size) : (w.alloc (.cells #[] 126)).ownsRow B 126 2 (.slice (some ⟨w.heap.size, 0, none⟩) 0 0) 0 [] :=
 World.ownsRow_made w #[] 0 h (by unfold maxLen; omega) rfl
theorem bF9 {w : World} {A B : Nat} {T : TypeId} {sz n : Nat} {v : Value} {xs : List Value} (h : w.ownsRow B T sz v n xs) (hAB : A ≤ B) : w.ownsRow A T sz v n xs := by
 rcases h with ⟨hl, h0 | ⟨g, cap, cur, e, hB, r⟩⟩
 · exact ⟨hl, .inl h0⟩
 · exact ⟨hl, .inr ⟨g, cap, cur, e, Nat.le_trans hAB hB, r⟩⟩
theorem cell_two_new (w : World) (a b : Value) (t : TypeId) : ∀ j u, [a, b][j]? = some u → (w.alloc (.cells #[a, b] t)).cell? ((⟨w.heap.size, 0, none⟩ : Addr).add j) = some u := by
 intro j u hj
 rw [add_plainE, Nat.zero_add, World.cell?_alloc_mark]
 rcases j with _ | _ | j <;> simp_all
theorem cell_two_kept {w1 : World} {b : Nat} {x y : Value} {t : TypeId} (h : w1.heap[b]? = some (.cells #[x, y] t)) : ∀ j u, [x, y][j]? = some u → w1.cell? ((⟨b, 0, none⟩ : Addr).add j) = some u := by
 intro j u hj
 rw [add_plainE, Nat.zero_add, aA9 h]
 rcases j with _ | _ | j <;> simp_all
theorem run_append_keep {P : Program} (w : World) (base : Nat) (t ty e : TypeId) (i : TypeInfo) (z : Value) (size bytes : Nat) (ht : P.underlying t = some (.slice e)) (hi : P.info? e = some i) (hz : i.zero = some z)
   (hsize : i.size = size) (hby : i.bytes = bytes) (hzs : z.cells.size = size) (hsz : 0 < size)
   (v : Value) (n : Nat) (xs : List Value) (hown : w.ownsRow base e size v n xs)
   (a : Addr) (m c : Nat) (news : List Value) (hm0 : 0 < m) (hl : news.length = m * size) (hnews : ∀ j u, news[j]? = some u → w.cell? (a.add j) = some u) (h1 : ∀ u ∈ news, u.oneCell' = true)
   (h63 : n + m ≤ maxLen) (hbytes : (n + m) * bytes ≤ 140737488355328) (hbase : base ≤ w.heap.size) :
   ∃ v' w', (Builtin.append_ #[t, t] ty #[v, .slice (some a) m c]).run P w = .ok v' w' ∧ w'.ownsRow base e size v' (n + m) (xs ++ news) ∧ w.grownBy w' v.ownBlock ∧
     w'.ownsRow base e size v n xs ∧ ((∃ g cap, v = .slice (some ⟨g, 0, none⟩) n cap ∧ v' = .slice (some ⟨g, 0, none⟩) (n + m) cap) ∨ v'.ownBlock = some w.heap.size) := by
 subst hsize
 subst hby
 have hsmall : n + m ≤ 9223372036854775807 := by simp only [maxLen] at h63; omega
 have hlen : (xs ++ news).length = (n + m) * i.size := by rw [List.length_append, hown.1, hl, Nat.add_mul]
 have keep : ∀ o : Obj, (w.drew.alloc o).ownsRow base e i.size v n xs := fun o => by
   refine World.ownsRow.kept hown (row := none) ⟨rfl, rfl, rfl, by simp, fun k hk _ => Below.heap_alloc w.drew _ k hk⟩ ?_
   rcases hown.2 with ⟨rfl, _⟩ | ⟨g, cap, cur, rfl, _⟩
   · exact .inl rfl
   · exact .inr (by simp [Value.ownBlock])
 have grown : ∀ (old : Nat), old < n + m → ∀ (row : Option Nat),
     (w.drew.alloc (.cells (xs.toArray ++ news.toArray ++ Builtin.zeroCells z.cells (grownCap w (n + m) old e - (n + m))) e)).ownsRow base e i.size
       (.slice (some ⟨w.heap.size, 0, none⟩) (n + m) (grownCap w (n + m) old e)) (n + m) (xs ++ news) ∧
     w.grownBy (w.drew.alloc (.cells (xs.toArray ++ news.toArray ++ Builtin.zeroCells z.cells (grownCap w (n + m) old e - (n + m))) e)) row := by
   intro old ho row
   have hge := grownCap_ge w (n + m) old e
   have hcm : grownCap w (n + m) old e ≤ maxLen := grownCap_le_maxLen w (n + m) old e h63
   refine ⟨⟨hlen, .inr ⟨w.heap.size, _, _, rfl, hbase, heap_alloc_new w.drew _, hge, hcm, ?_, ?_⟩⟩, ⟨rfl, rfl, rfl, by simp, fun k hk _ => Below.heap_alloc w.drew _ k hk⟩⟩
   · simp only [Array.size_append, List.size_toArray, size_zeroCells, hzs, hown.1, hl, ← Nat.add_mul]
     congr 1
     omega
   · simp only [Array.toList_append, List.append_assoc]
     rw [← List.append_assoc, ← hlen]
     exact List.take_left
 rcases id hown.2 with ⟨rfl, rfl⟩ | ⟨g, cap, cur, rfl, hbg, hg, hnc, hcm, hcs, htake⟩
 · have hx : xs = [] := List.eq_nil_of_length_eq_zero (by simpa using hown.1)
   subst hx
   have hr := run_append_nil (P := P) w t ty e i z ht hi hz a m c news hl hnews (by omega) (by omega) (by have hb := hbytes; simp only [Nat.zero_add] at hb; omega)
   have hgr := grown 0 (by omega) (Value.ownBlock (.slice none 0 0))
   have hkp := keep (.cells (([] : List Value).toArray ++ news.toArray ++ Builtin.zeroCells z.cells (grownCap w (0 + m) 0 e - (0 + m))) e)
   simp only [Nat.zero_add, List.nil_append, Array.empty_append] at hgr hkp ⊢
   exact ⟨_, _, hr, hgr.1, hgr.2, hkp, .inr rfl⟩
 · by_cases hroom : n + m ≤ cap
   · have hfit : n * i.size + news.length ≤ cur.size := by rw [hl, hcs, ← Nat.add_mul]; exact Nat.mul_le_mul_right _ hroom
     have hr := run_append_room (P := P) w t ty e i ht hi g n cap cur hg a m c news hl hnews h1 hroom hfit
     have hsz2 : (cur.toList.take (n * i.size) ++ news ++ cur.toList.drop (n * i.size + news.length)).toArray.size = cap * i.size := by
       simp only [List.size_toArray, List.length_append, List.length_take, List.length_drop, Array.length_toList]
       omega
     refine ⟨_, _, hr, ⟨hlen, .inr ⟨g, cap, _, rfl, hbg, setRow_heap w g cur _ e _ hg, hroom, hcm, hsz2, ?_⟩⟩, ⟨rfl, rfl, rfl, by simp, fun k _ hk => setRow_other w g k _ (fun e => hk (by simp [Value.ownBlock, e]))⟩, ⟨hown.1, .inr ⟨g, cap, _, rfl, hbg, setRow_heap w g cur _ e _ hg, hnc, hcm, hsz2, ?_⟩⟩, .inl ⟨g, cap, rfl, rfl⟩⟩
     · rw [htake, ← hlen]
       exact List.take_left
     · rw [htake, List.append_assoc, ← hown.1]
       exact List.take_left
   · have holds : ∀ j u, xs[j]? = some u → w.cell? ((⟨g, 0, none⟩ : Addr).add j) = some u := hown.cells (g := g) rfl
     have hr := run_append_grow (P := P) w t ty e i z ht hi hz ⟨g, 0, none⟩ n cap xs hown.1 holds a m c news hl hnews (by omega) (by omega) (growslice_fits (by omega) hbytes)
     have hgr := grown cap (by omega) (Value.ownBlock (.slice (some ⟨g, 0, none⟩) n cap))
     exact ⟨_, _, hr, hgr.1, hgr.2, keep _, .inr rfl⟩
theorem wpList_append_keep {P : Program} (w : World) {ops : Array Oper} {rest : List Oper} {o : Oper} {a : Act} {Q : Exit → Act → World → Prop} (hgd : o.guard = none) (s x : Operand) (t : TypeId)
   (ho : o.op = .call { callee := .builtin .append, args := #[s, x], argTypes := #[t, t] })
   (base : Nat) (e : TypeId) (i : TypeInfo) (z : Value) (size bytes : Nat) (ht : P.underlying t = some (.slice e)) (hi : P.info? e = some i) (hz : i.zero = some z)
   (hsize : i.size = size) (hby : i.bytes = bytes) (hzs : z.cells.size = size) (hsz : 0 < size)
   (v : Value) (n : Nat) (xs : List Value) (hs : a.eval s = v) (hown : w.ownsRow base e size v n xs)
   (ad : Addr) (m c : Nat) (news : List Value) (hm0 : 0 < m) (hx : a.eval x = .slice (some ad) m c) (hl : news.length = m * size) (hnews : ∀ j u, news[j]? = some u → w.cell? (ad.add j) = some u) (h1 : ∀ u ∈ news, u.oneCell' = true)
   (h63 : n + m ≤ maxLen) (hbytes : (n + m) * bytes ≤ 140737488355328) (hbase : base ≤ w.heap.size)
   (h : ∀ v' w', w'.ownsRow base e size v' (n + m) (xs ++ news) → w.grownBy w' v.ownBlock → w'.ownsRow base e size v n xs → ((∃ g cap, v = .slice (some ⟨g, 0, none⟩) n cap ∧ v' = .slice (some ⟨g, 0, none⟩) (n + m) cap) ∨ v'.ownBlock = some w.heap.size) → wpList P ops Q rest (a.put o.dst v') w') : wpList P ops Q (o :: rest) a w := by
 refine wpList_plain hgd fun K hK => ?_
 obtain ⟨v', w', hr, h2, h3, h4, h5⟩ := run_append_keep (P := P) w base t o.type e i z size bytes ht hi hz hsize hby hzs hsz v n xs hown ad m c news hm0 hl hnews h1 h63 hbytes hbase
 unfold Oper.wp execOp
 simp only [ho, resolve, invoke, builtin, Sem.run_bind, Sem.run_pure, Result.andThen_ok, List.map_toArray, List.map_cons, List.map_nil, hs, hx, hr]
 exact hK _ _ (h v' w' h2 h3 h4 h5)
theorem ins_list {L A C V : List Value} {a c : Nat} (hA : A.length = a) (hV : V.length = 2) (hC : C.length = c) (hL : L.take (a + c) = A ++ C) (hl : a + c + 2 ≤ L.length) :
   ((L.take (a + 2) ++ C ++ L.drop (a + 2 + c)).take a ++ V ++ (L.take (a + 2) ++ C ++ L.drop (a + 2 + c)).drop (a + 2)).take (a + c + 2) = A ++ V ++ C := by
 have h0 : L.take a = A := by
   have := congrArg (List.take a) hL
   rw [List.take_take, Nat.min_eq_left (by omega), ← hA, List.take_left] at this
   rw [← hA]; exact this
 have hl2 : (L.take (a + 2)).length = a + 2 := by rw [List.length_take]; omega
 have h1 : (L.take (a + 2) ++ C ++ L.drop (a + 2 + c)).take a = A := by
   rw [List.append_assoc, List.take_append_of_le_length (by omega), List.take_take, Nat.min_eq_left (by omega), h0]
 have h2 : (L.take (a + 2) ++ C ++ L.drop (a + 2 + c)).drop (a + 2) = C ++ L.drop (a + 2 + c) := by
   rw [List.append_assoc, List.drop_append_of_le_length (by omega), List.drop_of_length_le (by omega), List.nil_append]
 rw [h1, h2, ← List.append_assoc]
 have h3 : (A ++ V ++ C).length = a + c + 2 := by simp only [List.length_append]; omega
 rw [← h3, List.take_left]
theorem ins_list2 {A V C Z : List Value} {a c : Nat} (hA : A.length = a) (hV : V.length = 2) (hC : C.length = c) (hZ : c + 2 ≤ Z.length) :
   (((A ++ Z).take a ++ V ++ (A ++ Z).drop (a + 2)).take (a + 2) ++ C ++ ((A ++ Z).take a ++ V ++ (A ++ Z).drop (a + 2)).drop (a + 2 + c)).take (a + c + 2) = A ++ V ++ C := by
 have h1 : (A ++ Z).take a = A := by rw [← hA, List.take_left]
 have h2 : (A ++ V).length = a + 2 := by simp only [List.length_append]; omega
 rw [h1]
 have h4 : (A ++ V ++ (A ++ Z).drop (a + 2)).take (a + 2) = A ++ V := by rw [← h2, List.take_left]
 rw [h4]
 have h3 : (A ++ V ++ C).length = a + c + 2 := by simp only [List.length_append]; omega
 rw [← h3, List.take_left]
def InsSays (w : World) (R : Nat) (lv : Value) (es : List Ent) (i : Nat) (x : Ent) (e : Ending) (w' : World) : Prop :=
 ∃ v', e = .returned v' ∧ Ents w' R v' (es.take i ++ x :: es.drop i) ∧ w.grownBy w' lv.ownBlock ∧ (v'.ownBlock = lv.ownBlock ∨ ∃ b, v'.ownBlock = some b ∧ w.heap.size ≤ b)
theorem entV_app {es : List Ent} {i : Nat} {x : Ent} : aX9 (es.take i ++ x :: es.drop i) = aX9 (es.take i) ++ [.string (bs x.name), .int .i64 x.node] ++ aX9 (es.drop i) := by
 rw [entsV_app, show x :: es.drop i = [x] ++ es.drop i from rfl, entsV_app]
 simp [aX9, entV]
theorem ins_len {es : List Ent} {i : Nat} {x : Ent} (hi : i ≤ es.length) : (es.take i ++ x :: es.drop i).length = es.length + 1 := by
 simp only [List.length_append, List.length_cons, List.length_take, List.length_drop]; omega
set_option maxRecDepth 100000 in
theorem insert_end (es : List Ent) (lv : Value) (R : Nat) (x : Ent) (vb : Nat) (TV : TypeId) (w : World) (hE : Ents w R lv es) (hR : R ≤ w.heap.size) (hs : es.length ≤ 2097152) (hV : w.heap[vb]? = some (.cells #[.string (bs x.name), .int .i64 x.node] TV)) :
   Calls Tryz.prog 123 #[lv, .int .i64 (es.length : Nat), .slice (some ⟨vb, 0, none⟩) 1 1] w fun e w' => InsSays w R lv es es.length x e w' := by
 obtain ⟨i9, hi9, hz0, hz1, hz2⟩ := info_ent
 have HE := qhZ hE
 have HV := qhZ hV
 obtain ⟨oo, cap, rfl, hoo⟩ := aM9 hE
 obtain ⟨xn, hxn⟩ : ∃ xn, xn = bs x.name := ⟨_, rfl⟩
 have HXN := qhZ hxn
 rw [← hxn] at HV
 have HEND : Hid (∀ v' (w' : World), w'.ownsRow R 126 2 v' (es.length + 1) (aX9 es ++ [.string xn, .int .i64 x.node]) → w.grownBy w' (Value.slice oo es.length cap).ownBlock → (v'.ownBlock = (Value.slice oo es.length cap).ownBlock ∨ ∃ b, v'.ownBlock = some b ∧ w.heap.size ≤ b) → InsSays w R (.slice oo es.length cap) es es.length x (.returned v') w') := qhZ (fun v' w' h1 h2 h3 => by
   refine ⟨v', rfl, ?_, h2, h3⟩
   unfold Ents
   rw [entV_app, ins_len (Nat.le_refl _), List.take_length, List.drop_length, ← HXN.out]
   simpa [aX9] using h1)
 clear hE hV hxn
 have hz : ¬ ((1 : Int) = 0) := by decide
 cases oo with
 | none =>
   go_enter Tryz.func123, Tryz.ntmps123
   go_wp2_with (at_builtin; refine wpList_append_keep _ rfl _ _ 53 rfl R 126 i9 (.agg #[.string ⟨#[]⟩, .int .i64 0]) 2 24 Tryz.underlying53 hi9 hz0 hz1 hz2 rfl (by decide) _ es.length (aX9 es) rfl HE.out ⟨vb, 0, none⟩ 1 1 [.string xn, .int .i64 x.node] (by decide) rfl rfl (cell_two_kept HV.out) (by simp [Value.oneCell']) (by unfold maxLen; omega) (by omega) hR ?_)
   all_goals
     intro v1 w1 hown1 hgrow1 _ hblk1
     have HF := qhZ (HEND.out v1 w1 hown1 hgrow1 (by
       first
         | exact .inr ⟨_, hblk1, Nat.le_refl _⟩
         | (rcases hblk1 with ⟨g', c', ⟨rfl, _⟩, rfl⟩ | h
            · exact .inl rfl
            · exact .inr ⟨_, h, Nat.le_refl _⟩)))
     clear hown1 hgrow1 hblk1
     go_wp2
     go_ret
     exact HF.out
 | some a =>
   obtain ⟨g, rfl, hg1, hg2⟩ := hoo a rfl
   go_enter Tryz.func123, Tryz.ntmps123
   go_wp2_with (at_builtin; refine wpList_append_keep _ rfl _ _ 53 rfl R 126 i9 (.agg #[.string ⟨#[]⟩, .int .i64 0]) 2 24 Tryz.underlying53 hi9 hz0 hz1 hz2 rfl (by decide) _ es.length (aX9 es) rfl HE.out ⟨vb, 0, none⟩ 1 1 [.string xn, .int .i64 x.node] (by decide) rfl rfl (cell_two_kept HV.out) (by simp [Value.oneCell']) (by unfold maxLen; omega) (by omega) hR ?_)
   all_goals
     intro v1 w1 hown1 hgrow1 _ hblk1
     have HF := qhZ (HEND.out v1 w1 hown1 hgrow1 (by
       first
         | exact .inr ⟨_, hblk1, Nat.le_refl _⟩
         | (rcases hblk1 with ⟨g', c', ⟨rfl, _⟩, rfl⟩ | h
            · exact .inl rfl
            · exact .inr ⟨_, h, Nat.le_refl _⟩)))
     clear hown1 hgrow1 hblk1
     go_wp2
     go_ret
     exact HF.out
theorem owns_forms {w : World} {base size n : Nat} {e : TypeId} {v : Value} {xs : List Value} (h : w.ownsRow base e size v n xs) : (v = .slice none 0 0 ∧ n = 0) ∨ ∃ g cap, v = .slice (some ⟨g, 0, none⟩) n cap := by
 rcases h.2 with h | ⟨g, cap, cur, e, _⟩
 · exact .inl h
 · exact .inr ⟨g, cap, e⟩
set_option maxRecDepth 100000 in
theorem insert_room (es : List Ent) (g cap : Nat) (R : Nat) (i : Nat) (x : Ent) (vb : Nat) (TV : TypeId) (w : World) (hE : Ents w R (.slice (some ⟨g, 0, none⟩) es.length cap) es) (hi : i < es.length) (hroom : es.length + 1 ≤ cap) (hs : es.length ≤ 2097152) (hV : w.heap[vb]? = some (.cells #[.string (bs x.name), .int .i64 x.node] TV)) (hvb : vb ≠ g) :
   Calls Tryz.prog 123 #[.slice (some ⟨g, 0, none⟩) es.length cap, .int .i64 i, .slice (some ⟨vb, 0, none⟩) 1 1] w fun e w' => InsSays w R (.slice (some ⟨g, 0, none⟩) es.length cap) es i x e w' := by
 obtain ⟨i9, hi9, hz0, hz1, hz2⟩ := info_ent
 have HE := qhZ hE
 obtain ⟨cur, hRg, hg, hn, hm, hsz, ht⟩ : ∃ cur, R ≤ g ∧ w.heap[g]? = some (.cells cur 126) ∧ es.length ≤ cap ∧ cap ≤ maxLen ∧ cur.size = cap * 2 ∧ cur.toList.take (es.length * 2) = aX9 es := by
   rcases hE.2 with ⟨e, _⟩ | ⟨g2, c2, cur, e, h1, h2, h3, h4, h5, h6⟩
   · cases e
   · simp only [Value.slice.injEq, Option.some.injEq, Addr.mk.injEq, and_true, true_and] at e
     obtain ⟨rfl, rfl⟩ := e
     exact ⟨cur, h1, h2, h3, h4, h5, h6⟩
 obtain ⟨xn, hxn⟩ : ∃ xn, xn = bs x.name := ⟨_, rfl⟩
 rw [← hxn] at hV
 obtain ⟨n, hnl⟩ : ∃ n, n = es.length := ⟨_, rfl⟩
 obtain ⟨cs, hcs⟩ : ∃ cs, cs = aX9 (es.drop i) := ⟨_, rfl⟩
 obtain ⟨A, hA⟩ : ∃ A, A = aX9 (es.take i) := ⟨_, rfl⟩
 obtain ⟨vs, hvs⟩ : ∃ vs : List Value, vs = [.string xn, .int .i64 x.node] := ⟨_, rfl⟩
 have hcl : cs.length = (n - i) * 2 := by rw [hcs, bJ9, List.length_drop, hnl]
 have hAl : A.length = i * 2 := by rw [hA, bJ9, List.length_take]; omega
 have hvl : vs.length = 2 := by rw [hvs]; rfl
 have hAC : cur.toList.take (i * 2 + (n - i) * 2) = A ++ cs := by
   rw [show i * 2 + (n - i) * 2 = es.length * 2 by omega, ht, hA, hcs, ← entsV_app, List.take_append_drop]
 have h1c : ∀ v ∈ cs, v.oneCell' = true := by rw [hcs]; exact entsV_one _
 have h1A : ∀ v ∈ A, v.oneCell' = true := by rw [hA]; exact entsV_one _
 have h1v : ∀ v ∈ vs, v.oneCell' = true := by rw [hvs]; simp [Value.oneCell']
 have hRES : aX9 (es.take i ++ x :: es.drop i) = A ++ vs ++ cs := by rw [entV_app, hA, hcs, hvs, hxn]
 have hRL : (es.take i ++ x :: es.drop i).length = n + 1 := by rw [ins_len (by omega), hnl]
 have hsrcv : ∀ W : World, W.heap[vb]? = some (.cells #[.string xn, .int .i64 x.node] TV) → ∀ j v, vs[j]? = some v → W.cell? ((⟨vb, 0, none⟩ : Addr).add j) = some v := fun W h => by rw [hvs]; exact cell_two_kept h
 have hsrcc : ∀ W : World, W.heap[g]? = w.heap[g]? → ∀ j v, cs[j]? = some v → W.cell? ((⟨g, i * 2, none⟩ : Addr).add j) = some v := fun W h j v hj => by
   rw [hcs] at hj
   have := ents_drop HE.out (Below.refl _ w) i j v hj
   rw [← this]
   exact World.cell?_of_block (by rw [addBlock]; exact h)
 have hsrcA : ∀ j v, A[j]? = some v → w.drew.cell? ((⟨g, 0, none⟩ : Addr).add j) = some v := fun j v hj => by
   rw [hA] at hj
   exact ents_take HE.out (Below.refl _ w).drew i j v hj
 have hgl : g < w.heap.size := aB9 hg
 have hvl2 : vb < w.heap.size := aB9 hV
 have hsi : (Tryz.prog.info? 126).map (·.size) = some 2 := by rw [hi9]; simp [hz1]
 unfold maxLen at hm
 rw [← hnl] at hn hi hs
 rw [← hnl] at hroom
 obtain ⟨cur1, hc1⟩ : ∃ cur1 : Array Value, cur1 = (cur.toList.take ((i + 1) * 2) ++ cs ++ cur.toList.drop ((i + 1) * 2 + cs.length)).toArray := ⟨_, rfl⟩
 have hcz1 : cur1.size = cap * 2 := by
   rw [hc1]; simp only [List.size_toArray, List.length_append, List.length_take, List.length_drop, Array.length_toList]; omega
 obtain ⟨cur2, hc2⟩ : ∃ cur2 : Array Value, cur2 = (cur1.toList.take (i * 2) ++ vs ++ cur1.toList.drop (i * 2 + vs.length)).toArray := ⟨_, rfl⟩
 have hcz2 : cur2.size = cap * 2 := by
   rw [hc2]; simp only [List.size_toArray, List.length_append, List.length_take, List.length_drop, Array.length_toList]; omega
 have hT2 : cur2.toList.take ((n + 1) * 2) = A ++ vs ++ cs := by
   have := ins_list (L := cur.toList) hAl hvl hcl hAC (by rw [Array.length_toList]; omega)
   rw [hc2, hc1]
   simp only [hcl, hvl] at this ⊢
   rw [show (n + 1) * 2 = i * 2 + (n - i) * 2 + 2 by omega, show (i + 1) * 2 = i * 2 + 2 by omega]
   exact this
 have hov : ∀ lb cb, (callFunc 159 #[.slice (some ⟨vb, 0, none⟩) 1 1, .slice (some ⟨g, (i + 1) * 2, none⟩) lb cb]).run Tryz.prog w = .ok (.value (.bool false)) w := fun lb cb => by
   rw [run_callFunc_extern Tryz.func159 (by kernel_rfl) (by kernel_rfl) (by kernel_rfl) (e := Extern.SlicesOverlaps.overlaps #[53, 53] #[4]) (by kernel_rfl),
     Lib.run_overlaps_apart w 53 4 126 Tryz.underlying53 2 (fun w => by simp [Go.sizeOf, typeInfo, hi9, hz1]) ⟨vb, 0, none⟩ ⟨g, (i + 1) * 2, none⟩ 1 1 lb cb hvb TV 126 2 cur.size (by simp [World.shape?, hV]) (by simp [World.shape?, hg]) (by omega) (aE9 hV 0) (aE9 hV 2)]
   rfl
 have hcp1 : ∀ ty dc sc, (Builtin.copy_ #[53, 53] ty #[.slice (some ⟨g, (i + 1) * 2, none⟩) (n - i) dc, .slice (some ⟨g, i * 2, none⟩) (n + 1 - i) sc]).run Tryz.prog w.drew = .ok (goInt (Nat.min (n + 1 - i) (n - i))) (w.drew.setRow g cur1) := fun ty dc sc => by
   rw [hc1]
   exact run_copy_rowK w.drew _ _ ty 126 2 g ((i + 1) * 2) (n - i) dc ⟨g, i * 2, none⟩ (n + 1 - i) sc cur 126 cs Tryz.underlying53 hsi hg (by rw [hcl]; simp only [Nat.min_def]; split <;> omega) (hsrcc w.drew rfl) (by omega) h1c
 have hcp2 : ∀ W : World, W.heap = (w.drew.setRow g cur1).heap → ∀ ty dc, (Builtin.copy_ #[53, 53] ty #[.slice (some ⟨g, i * 2, none⟩) (n + 1 - i) dc, .slice (some ⟨vb, 0, none⟩) 1 1]).run Tryz.prog W = .ok (goInt (Nat.min 1 (n + 1 - i))) (W.setRow g cur2) := fun W hW ty dc => by
   rw [hc2]
   exact run_copy_rowK W _ _ ty 126 2 g (i * 2) (n + 1 - i) dc ⟨vb, 0, none⟩ 1 1 cur1 126 vs Tryz.underlying53 hsi (by rw [hW]; exact setRow_heap w.drew g cur cur1 126 _ hg) (by rw [hvl]; simp only [Nat.min_def]; split <;> omega) (hsrcv W (by rw [hW, setRow_other w.drew g vb cur1 hvb]; exact hV)) (by omega) h1v
 have HEND : Hid (∀ W : World, W.os = w.os → W.tape = w.tape → W.output = w.output → W.heap = (w.drew.setRow g cur1).heap → InsSays w R (.slice (some ⟨g, 0, none⟩) n cap) es i x (.returned (.slice (some ⟨g, 0, none⟩) (n + 1) cap)) (W.setRow g cur2)) := qhZ (fun W h1 h2 h3 h4 => by
   have hWg : W.heap[g]? = some (.cells cur1 126) := by rw [h4]; exact setRow_heap w.drew g cur cur1 126 _ hg
   refine ⟨_, rfl, ?_, ⟨h1, h2, h3, ?_, fun k hk hne => ?_⟩, .inl rfl⟩
   · unfold Ents
     rw [hRL, hRES]
     refine ⟨by simp only [List.length_append]; omega, .inr ⟨g, cap, cur2, rfl, hRg, setRow_heap W g cur1 cur2 126 _ hWg, hroom, by unfold maxLen; omega, hcz2, hT2⟩⟩
   · rw [setRow_size, h4, setRow_size]; exact Nat.le_refl _
   · have hkg : k ≠ g := fun e => hne (by rw [e]; rfl)
     rw [setRow_other W g k cur2 hkg, h4, setRow_other w.drew g k cur1 hkg]; rfl)
 have hz2' : ¬ ((i : Int) = (n : Int)) := by omega
 have hr2 : ¬ ((cap : Int) < (n : Int) + 1) := by omega
 have hb2 : ¬ (cap = i + 1) := by omega
 have hb4 : ¬ (cap = i) := by omega
 have htn : ((i : Int) + 1).toNat = i + 1 := by omega
 have mixed : Tryz.prog.follows Departure.mixedOrders = true := by kernel_rfl
 have hw1 : IntKind.i64.wrap ((i : Int) + 1) = (i : Int) + 1 := by rw [IntKind.wrap_i64]; omega
 have hb1 : (0 : Int) ≤ (i : Int) + 1 := by omega
 have hin : i ≤ n := by omega
 have hb3 : (i : Int) ≤ (n : Int) + 1 := by omega
 rw [← hnl]
 clear hE hV ht hAC hRES hRL hsrcv hsrcc hsrcA hT2 hc1 hc2 hcs hA hvs hxn hnl
 go_enter Tryz.func123, Tryz.ntmps123
 go_wp2_with (simp only [hov])
 go_region_law_o (refine step_copy_runI rfl _ _ 53 53 rfl _ _ (by simp [Act.eval, Act.put]) (by simp [Act.eval, Act.put]) (hcp1 _ _ _) ?_)
 go_wp2_with (at_builtin; refine wpList_copy_runI _ rfl _ _ 53 53 rfl _ _ rfl rfl (hcp2 _ rfl _ _) ?_)
 go_ret
 exact HEND.out _ rfl rfl rfl rfl
set_option maxRecDepth 100000 in
theorem insert_grow (es : List Ent) (g cap : Nat) (R : Nat) (i : Nat) (x : Ent) (vb : Nat) (TV : TypeId) (w : World) (hE : Ents w R (.slice (some ⟨g, 0, none⟩) es.length cap) es) (hR : R ≤ w.heap.size) (hi : i < es.length) (hroom : cap < es.length + 1) (hs : es.length ≤ 2097152) (hV : w.heap[vb]? = some (.cells #[.string (bs x.name), .int .i64 x.node] TV)) :
   Calls Tryz.prog 123 #[.slice (some ⟨g, 0, none⟩) es.length cap, .int .i64 i, .slice (some ⟨vb, 0, none⟩) 1 1] w fun e w' => InsSays w R (.slice (some ⟨g, 0, none⟩) es.length cap) es i x e w' := by
 obtain ⟨i9, hi9, hz0, hz1, hz2⟩ := info_ent
 have HE := qhZ hE
 obtain ⟨cur, hRg, hg, hn, hm, hsz, ht⟩ : ∃ cur, R ≤ g ∧ w.heap[g]? = some (.cells cur 126) ∧ es.length ≤ cap ∧ cap ≤ maxLen ∧ cur.size = cap * 2 ∧ cur.toList.take (es.length * 2) = aX9 es := by
   rcases hE.2 with ⟨e, _⟩ | ⟨g2, c2, cur, e, h1, h2, h3, h4, h5, h6⟩
   · cases e
   · simp only [Value.slice.injEq, Option.some.injEq, Addr.mk.injEq, and_true, true_and] at e
     obtain ⟨rfl, rfl⟩ := e
     exact ⟨cur, h1, h2, h3, h4, h5, h6⟩
 obtain ⟨xn, hxn⟩ : ∃ xn, xn = bs x.name := ⟨_, rfl⟩
 rw [← hxn] at hV
 obtain ⟨n, hnl⟩ : ∃ n, n = es.length := ⟨_, rfl⟩
 obtain ⟨cs, hcs⟩ : ∃ cs, cs = aX9 (es.drop i) := ⟨_, rfl⟩
 obtain ⟨A, hA⟩ : ∃ A, A = aX9 (es.take i) := ⟨_, rfl⟩
 obtain ⟨vs, hvs⟩ : ∃ vs : List Value, vs = [.string xn, .int .i64 x.node] := ⟨_, rfl⟩
 have hcl : cs.length = (n - i) * 2 := by rw [hcs, bJ9, List.length_drop, hnl]
 have hAl : A.length = i * 2 := by rw [hA, bJ9, List.length_take]; omega
 have hvl : vs.length = 2 := by rw [hvs]; rfl
 have hAC : cur.toList.take (i * 2 + (n - i) * 2) = A ++ cs := by
   rw [show i * 2 + (n - i) * 2 = es.length * 2 by omega, ht, hA, hcs, ← entsV_app, List.take_append_drop]
 have h1c : ∀ v ∈ cs, v.oneCell' = true := by rw [hcs]; exact entsV_one _
 have h1A : ∀ v ∈ A, v.oneCell' = true := by rw [hA]; exact entsV_one _
 have h1v : ∀ v ∈ vs, v.oneCell' = true := by rw [hvs]; simp [Value.oneCell']
 have hRES : aX9 (es.take i ++ x :: es.drop i) = A ++ vs ++ cs := by rw [entV_app, hA, hcs, hvs, hxn]
 have hRL : (es.take i ++ x :: es.drop i).length = n + 1 := by rw [ins_len (by omega), hnl]
 have hsrcv : ∀ W : World, W.heap[vb]? = some (.cells #[.string xn, .int .i64 x.node] TV) → ∀ j v, vs[j]? = some v → W.cell? ((⟨vb, 0, none⟩ : Addr).add j) = some v := fun W h => by rw [hvs]; exact cell_two_kept h
 have hsrcc : ∀ W : World, W.heap[g]? = w.heap[g]? → ∀ j v, cs[j]? = some v → W.cell? ((⟨g, i * 2, none⟩ : Addr).add j) = some v := fun W h j v hj => by
   rw [hcs] at hj
   have := ents_drop HE.out (Below.refl _ w) i j v hj
   rw [← this]
   exact World.cell?_of_block (by rw [addBlock]; exact h)
 have hsrcA : ∀ j v, A[j]? = some v → w.drew.cell? ((⟨g, 0, none⟩ : Addr).add j) = some v := fun j v hj => by
   rw [hA] at hj
   exact ents_take HE.out (Below.refl _ w).drew i j v hj
 have hgl : g < w.heap.size := aB9 hg
 have hvl2 : vb < w.heap.size := aB9 hV
 have hsi : (Tryz.prog.info? 126).map (·.size) = some 2 := by rw [hi9]; simp [hz1]
 unfold maxLen at hm
 rw [← hnl] at hn hi hs
 rw [← hnl] at hroom
 have hik : i + (n + 1 - i) = n + 1 := by omega
 have hkk : (n : Int) + 1 - (i : Int) = ((n + 1 - i : Nat) : Int) := by omega
 obtain ⟨G, hG⟩ : ∃ G, G = grownCap w (n + 1) cap 126 := ⟨_, rfl⟩
 obtain ⟨zc, hzc⟩ : ∃ zc, zc = (Value.agg #[.string ⟨#[]⟩, .int .i64 0]).cells := ⟨_, rfl⟩
 have hzl : zc.size = 2 := by rw [hzc]; rfl
 obtain ⟨ROW, hROW⟩ : ∃ ROW : Array Value, ROW = A.toArray ++ Builtin.zeroCells zc (n + 1 - i) ++ Builtin.zeroCells zc (G - (n + 1)) := ⟨_, rfl⟩
 have hGn : n + 1 ≤ G := by rw [hG]; exact grownCap_ge w _ _ _
 have hG63 : G ≤ maxLen := by rw [hG]; exact grownCap_le_maxLen w (n + 1) cap 126 (by unfold maxLen; omega)
 have hhold : (Builtin.firstCells i9.size i (.slice (some ⟨g, 0, none⟩) i cap)).run Tryz.prog w.drew = .ok A.toArray w.drew := by
   rw [hz1]
   exact run_firstCells_some w.drew 2 i ⟨g, 0, none⟩ i cap A hAl hsrcA
 have hrz : ∀ ty, (Builtin.append_ #[53, 3] ty #[.slice (some ⟨g, 0, none⟩) i cap, .int .i64 ((n : Int) + 1 - (i : Int))]).run Tryz.prog w = .ok (.slice (some ⟨w.heap.size, 0, none⟩) (n + 1) G) (w.drew.alloc (.cells ROW 126)) := fun ty => by
   have h := Lib.run_append_grow_zeros w 53 3 ty 126 i9 _ .i64 .i64 Tryz.underlying53 Tryz.underlying3 hi9 hz0 (some ⟨g, 0, none⟩) i cap A hhold (n + 1 - i) (by omega) (by omega) (by omega) (by omega) (by rw [hz2]; omega) (by rw [hz2, hik]; exact growslice_fits hroom (by omega))
   rw [hik, ← hG, ← hzc, ← hROW] at h
   rw [hkk]
   exact h
 have hRs : ROW.size = G * 2 := by
   rw [hROW]
   simp only [Array.size_append, List.size_toArray, size_zeroCells, hzl, hAl]
   omega
 have hRt : ROW.toList = A ++ (Builtin.zeroCells zc (n + 1 - i) ++ Builtin.zeroCells zc (G - (n + 1))).toList := by
   rw [hROW]; simp
 have hZl : (Builtin.zeroCells zc (n + 1 - i) ++ Builtin.zeroCells zc (G - (n + 1))).toList.length = (n + 1 - i) * 2 + (G - (n + 1)) * 2 := by
   simp only [Array.length_toList, Array.size_append, size_zeroCells, hzl]
 obtain ⟨N, hN⟩ : ∃ N, N = w.heap.size := ⟨_, rfl⟩
 rw [← hN] at hrz
 obtain ⟨cur1, hc1⟩ : ∃ cur1 : Array Value, cur1 = (ROW.toList.take (i * 2) ++ vs ++ ROW.toList.drop (i * 2 + vs.length)).toArray := ⟨_, rfl⟩
 have hcz1 : cur1.size = G * 2 := by
   rw [hc1]; simp only [List.size_toArray, List.length_append, List.length_take, List.length_drop, Array.length_toList]; omega
 obtain ⟨cur2, hc2⟩ : ∃ cur2 : Array Value, cur2 = (cur1.toList.take ((i + 1) * 2) ++ cs ++ cur1.toList.drop ((i + 1) * 2 + cs.length)).toArray := ⟨_, rfl⟩
 have hcz2 : cur2.size = G * 2 := by
   rw [hc2]; simp only [List.size_toArray, List.length_append, List.length_take, List.length_drop, Array.length_toList]; omega
 have hT2 : cur2.toList.take ((n + 1) * 2) = A ++ vs ++ cs := by
   have := ins_list2 (Z := (Builtin.zeroCells zc (n + 1 - i) ++ Builtin.zeroCells zc (G - (n + 1))).toList) hAl hvl hcl (by rw [hZl]; omega)
   rw [hc2, hc1, hRt]
   simp only [hcl, hvl] at this ⊢
   rw [show (n + 1) * 2 = i * 2 + (n - i) * 2 + 2 by omega, show (i + 1) * 2 = i * 2 + 2 by omega]
   exact this
 have hnew : (w.drew.alloc (.cells ROW 126)).heap[N]? = some (.cells ROW 126) := by rw [hN]; exact heap_alloc_new w.drew _
 have hnv : vb ≠ N := by omega
 have hng : g ≠ N := by omega
 have hcpA : ∀ W : World, W.heap = (w.drew.alloc (.cells ROW 126)).heap → ∀ ty dc, (Builtin.copy_ #[53, 53] ty #[.slice (some ⟨N, i * 2, none⟩) (n + 1 - i) dc, .slice (some ⟨vb, 0, none⟩) 1 1]).run Tryz.prog W = .ok (goInt (Nat.min 1 (n + 1 - i))) (W.setRow N cur1) := fun W hW ty dc => by
   rw [hc1]
   exact run_copy_rowK W _ _ ty 126 2 N (i * 2) (n + 1 - i) dc ⟨vb, 0, none⟩ 1 1 ROW 126 vs Tryz.underlying53 hsi (by rw [hW]; exact hnew) (by rw [hvl]; simp only [Nat.min_def]; split <;> omega) (hsrcv W (by rw [hW, Below.heap_alloc w.drew _ vb hvl2]; exact hV)) (by omega) h1v
 have hcpB : ∀ W : World, W.heap = ((w.drew.alloc (.cells ROW 126)).setRow N cur1).heap → ∀ ty dc sc, (Builtin.copy_ #[53, 53] ty #[.slice (some ⟨N, (i + 1) * 2, none⟩) (n - i) dc, .slice (some ⟨g, i * 2, none⟩) (n - i) sc]).run Tryz.prog W = .ok (goInt (Nat.min (n - i) (n - i))) (W.setRow N cur2) := fun W hW ty dc sc => by
   rw [hc2]
   exact run_copy_rowK W _ _ ty 126 2 N ((i + 1) * 2) (n - i) dc ⟨g, i * 2, none⟩ (n - i) sc cur1 126 cs Tryz.underlying53 hsi (by rw [hW]; exact setRow_heap _ N ROW cur1 126 _ hnew) (by rw [hcl]; simp only [Nat.min_def]; split <;> omega) (hsrcc W (by rw [hW, setRow_other _ N g cur1 hng, Below.heap_alloc w.drew _ g hgl]; rfl)) (by omega) h1c
 have HEND : Hid (∀ W : World, W.os = w.os → W.tape = w.tape → W.output = w.output → W.heap = ((w.drew.alloc (.cells ROW 126)).setRow N cur1).heap → InsSays w R (.slice (some ⟨g, 0, none⟩) n cap) es i x (.returned (.slice (some ⟨N, 0, none⟩) (n + 1) G)) (W.setRow N cur2)) := qhZ (fun W h1 h2 h3 h4 => by
   have hWg : W.heap[N]? = some (.cells cur1 126) := by rw [h4]; exact setRow_heap _ N ROW cur1 126 _ hnew
   refine ⟨_, rfl, ?_, ⟨h1, h2, h3, ?_, fun k hk hne => ?_⟩, .inr ⟨N, rfl, by omega⟩⟩
   · unfold Ents
     rw [hRL, hRES]
     refine ⟨by simp only [List.length_append]; omega, .inr ⟨N, G, cur2, rfl, by omega, setRow_heap W N cur1 cur2 126 _ hWg, hGn, hG63, hcz2, hT2⟩⟩
   · rw [setRow_size, h4, setRow_size, World.size_alloc]; exact Nat.le_succ _
   · have hkN : k ≠ N := by omega
     rw [setRow_other W N k cur2 hkN, h4, setRow_other _ N k cur1 hkN, Below.heap_alloc w.drew _ k hk]; rfl)
 have hz2' : ¬ ((i : Int) = (n : Int)) := by omega
 have hr2 : (cap : Int) < (n : Int) + 1 := by omega
 have hb2 : ¬ (G = i + 1) := by omega
 have hb4 : ¬ (G = i) := by omega
 have hb5 : ¬ (cap = i) := by omega
 have htn : ((i : Int) + 1).toNat = i + 1 := by omega
 have mixed : Tryz.prog.follows Departure.mixedOrders = true := by kernel_rfl
 have hw1 : IntKind.i64.wrap ((i : Int) + 1) = (i : Int) + 1 := by rw [IntKind.wrap_i64]; omega
 have hb1 : (0 : Int) ≤ (i : Int) + 1 := by omega
 have hin : i ≤ n := by omega
 have hb3 : (i : Int) ≤ (n : Int) := by omega
 unfold maxLen at hG63
 have hE1 : ((w.alloc (.cells ROW 126)).drew).heap = (w.drew.alloc (.cells ROW 126)).heap := rfl
 have hF1 : ((((w.alloc (.cells ROW 126)).drew).setRow N cur1).drew).heap = ((w.drew.alloc (.cells ROW 126)).setRow N cur1).heap := rfl
 rw [← hnl]
 clear hE hV ht hAC hRES hRL hsrcv hsrcc hsrcA hT2 hc1 hc2 hcs hA hvs hxn hnl hhold hRt hZl hROW hG hkk hik hzc hN
 go_enter Tryz.func123, Tryz.ntmps123
 go_wp2_with (first
   | (at_builtin; refine Lib.wpList_append_run _ rfl _ _ _ _ rfl _ _ rfl rfl _ _ (hrz _) ?_)
   | (at_builtin; refine wpList_copy_runI _ rfl _ _ 53 53 rfl _ _ rfl rfl (hcpA _ hE1 _ _) ?_))
 go_region_law_o (refine step_copy_runI rfl _ _ 53 53 rfl (.slice (some ⟨N, (i + 1) * 2, none⟩) (n - i) (G - (i + 1))) (.slice (some ⟨g, i * 2, none⟩) (n - i) (cap - i)) (by simp [Act.eval, Act.put]) (by simp [Act.eval, Act.put]) (hcpB _ hF1 _ _ _) ?_)
 go_wp2
 go_ret
 exact HEND.out _ rfl rfl rfl rfl
theorem insert_any (es : List Ent) (lv : Value) (R : Nat) (i : Nat) (x : Ent) (vb : Nat) (TV : TypeId) (w : World) (hE : Ents w R lv es) (hR : R ≤ w.heap.size) (hi : i ≤ es.length) (hs : es.length ≤ 2097152) (hV : w.heap[vb]? = some (.cells #[.string (bs x.name), .int .i64 x.node] TV)) (hvb : lv.ownBlock ≠ some vb) :
   Calls Tryz.prog 123 #[lv, .int .i64 i, .slice (some ⟨vb, 0, none⟩) 1 1] w fun e w' => InsSays w R lv es i x e w' := by
 rcases Nat.lt_or_ge i es.length with h | h
 · rcases owns_forms hE with ⟨rfl, h0⟩ | ⟨g, cap, rfl⟩
   · omega
   · rcases Nat.lt_or_ge cap (es.length + 1) with h2 | h2
     · exact insert_grow es g cap R i x vb TV w hE hR h h2 hs hV
     · exact insert_room es g cap R i x vb TV w hE h h2 hs hV (fun e => hvb (by rw [e]; rfl))
 · obtain rfl : i = es.length := by omega
   exact insert_end es lv R x vb TV w hE hR hs hV
def insE (es : List Ent) (x : Ent) : List Ent := es.take (posE es x.name) ++ x :: es.drop (posE es x.name)
theorem insE_len (es : List Ent) (x : Ent) : (insE es x).length = es.length + 1 := by
 have := posE_le es x.name
 unfold insE
 simp only [List.length_append, List.length_cons, List.length_take, List.length_drop]; omega
theorem lensE_app (a b : List Ent) : lensE (a ++ b) = lensE a + lensE b := by unfold lensE; simp
theorem insE_lens (es : List Ent) (x : Ent) : lensE (insE es x) = lensE es + x.name.length := by
 have h := lensE_app (es.take (posE es x.name)) (es.drop (posE es x.name))
 rw [List.take_append_drop] at h
 unfold insE
 rw [lensE_app, h]
 show _ + lensE ([x] ++ _) = _
 rw [lensE_app]
 have : lensE [x] = x.name.length := by simp [lensE]
 omega
theorem insE_mem {es : List Ent} {x e : Ent} (h : e ∈ insE es x) : e ∈ es ∨ e = x := by
 unfold insE at h
 rcases List.mem_append.1 h with h | h
 · exact .inl (List.mem_of_mem_take h)
 · rcases List.mem_cons.1 h with h | h
   · exact .inr h
   · exact .inl (List.mem_of_mem_drop h)
def putN (nm : List UInt8) (nd : Int) (t : Int) (n : Nod) : Nod := { n with list := insE n.list ⟨nm, nd⟩, time := t }
def putFs (f : FsD) (up : Nat) (nm : List UInt8) (nd t : Int) : FsD := ⟨f.nodes.set up (putN nm nd t (aC9 f.nodes up)), f.room⟩
theorem szNs_set {ns : List Nod} {i : Nat} (h : i < ns.length) (q : Nod) : szNs (ns.set i q) + szN (aC9 ns i) = szNs ns + szN q := by
 rw [show aC9 ns i = ns[i] from aR9 h]
 unfold szNs
 induction ns generalizing i with
 | nil => simp at h
 | cons a r ih =>
   cases i with
   | zero => simp; omega
   | succ i =>
     have := ih (i := i) (by simpa using h)
     simp only [List.set_cons_succ, List.map_cons, List.sum_cons, List.getElem_cons_succ]
     omega
theorem putN_sz (nm : List UInt8) (nd t : Int) (n : Nod) : szN (putN nm nd t n) = szN n + 1 + nm.length := by
 unfold szN putN
 simp only [insE_len, insE_lens]
 omega
theorem putFs_sz {f : FsD} {up : Nat} {nm : List UInt8} {nd t : Int} (h : up < f.nodes.length) : szF (putFs f up nm nd t) = szF f + 1 + nm.length := by
 have h1 := szNs_set h (putN nm nd t (aC9 f.nodes up))
 have h2 := putN_sz nm nd t (aC9 f.nodes up)
 unfold szF putFs
 simp only [List.length_set]
 omega
theorem putFs_fit {f : FsD} {up : Nat} {nm : List UInt8} {nd t : Int} (h : up < f.nodes.length) (hf : aV9 f.nodes) (hn : nm.length ≤ maxLen) : aV9 (putFs f up nm nd t).nodes := by
 intro n hm
 rcases List.mem_or_eq_of_mem_set hm with h1 | rfl
 · exact hf _ h1
 · have h2 := hf (aC9 f.nodes up) (by rw [show aC9 f.nodes up = f.nodes[up] from aR9 h]; exact List.getElem_mem h)
   refine ⟨h2.1, fun e he => ?_⟩
   rcases insE_mem he with h3 | rfl
   · exact h2.2 e h3
   · exact hn
theorem name_len {p : List UInt8} (h : nameB p = true) : p.length ≤ 8 := by
 unfold nameB partB at h
 simp only [Bool.and_eq_true, decide_eq_true_eq] at h
 omega
theorem fp0_facts {f : FsD} (hF : LookFs f) {u g : Int} {l : List UInt8} {up : Nat} {nm : List UInt8} (h : fp0 f.nodes u g l = (0, up, nm)) : nameB nm = true ∧ up < f.nodes.length ∧ (aC9 f.nodes up).kind = 2 := by
 unfold fp0 at h
 split at h
 · unfold plF4 at h
   split at h
   · rename_i h1 h2
     simp only [Prod.mk.injEq] at h
     obtain ⟨e1, e2, e3⟩ := h
     rw [if_pos e1] at e3
     subst e3
     refine ⟨h2.2, ?_⟩
     unfold dirW at e1 e2
     split at e1
     · rename_i k; exact absurd e1 k
     · split at e1
       · rename_i k; exact absurd e1 k
       · rename_i k1 k2
         rw [if_neg k1, if_neg k2] at e2
         simp only at e2
         subst e2
         refine ⟨lkFind_lt hF u g _ true, ?_⟩
         have k3 : dirC (aC9 f.nodes (bK9 f.nodes u g (aheadL (cutD l)) true).2) u g 1 = 0 := by
           by_cases hz : dirC (aC9 f.nodes (bK9 f.nodes u g (aheadL (cutD l)) true).2) u g 1 = 0
           · exact hz
           · exact absurd hz k2
         unfold dirC at k3
         split at k3
         · cases k3
         · rename_i k4
           exact Decidable.not_not.1 k4
   · simp at h
 · simp at h
def makF (ask : Bool) (c : Int) (G f : FsD) : FsD := if ask = true then (if c = 0 then G else f) else fs0
def makC (ask : Bool) (c : Int) : Int := if ask = true then c else 0
theorem makF_no {c : Int} {G f : FsD} : makF false c G f = fs0 := rfl
theorem makF_yes {G f : FsD} : makF true 0 G f = G := rfl
theorem makF_bad {c : Int} {G f : FsD} (h : c ≠ 0) : makF true c G f = f := by unfold makF; rw [if_pos rfl, if_neg h]
theorem cnt_small {F : FsD} (h : szF F ≤ 2097152) : cntM (F.nodes.map fun n => n.list.length) ≤ 80000000 := by
 have h1 := cnt_le F.nodes
 unfold szF at h
 omega
theorem makF_cnt {ask : Bool} {c : Int} {G f : FsD} (hf : szF f ≤ 1048576) (hG : ask = true → c = 0 → szF G ≤ 2097152) : cntM ((makF ask c G f).nodes.map fun n => n.list.length) ≤ 80000000 := by
 unfold makF
 split
 · split
   · exact cnt_small (hG (by assumption) (by assumption))
   · exact cnt_small (by omega)
 · exact Nat.zero_le _
theorem makF_fit {ask : Bool} {c : Int} {G f : FsD} (hf : aV9 f.nodes) (hG : ask = true → c = 0 → aV9 G.nodes) : aV9 (makF ask c G f).nodes := by
 unfold makF
 split
 · split
   · exact hG (by assumption) (by assumption)
   · exact hf
 · intro n hn; cases hn
theorem own_not {w : World} {R : Nat} {T T' : TypeId} {sz n : Nat} {v : Value} {xs : List Value} {b : Nat} {cs : Array Value} (h : w.ownsRow R T sz v n xs) (hb : w.heap[b]? = some (.cells cs T')) (hT : T ≠ T') : v.ownBlock = none ∨ v.ownBlock ≠ some b := by
 rcases h.2 with ⟨rfl, _⟩ | ⟨g, cap, cur, rfl, _, hg, _⟩
 · exact .inl rfl
 · refine .inr fun e => ?_
   simp only [Value.ownBlock, Option.some.injEq] at e
   subst e
   rw [hg] at hb
   simp only [Option.some.injEq, Obj.cells.injEq] at hb
   exact hT hb.2.1
theorem ne_some {v : Value} {b : Nat} (h : v.ownBlock = none ∨ v.ownBlock ≠ some b) : some b ≠ v.ownBlock := by
 rcases h with h | h
 · rw [h]; simp
 · exact Ne.symm h
theorem bel_grown {w w' : World} {R : Nat} {v : Value} (hg : w.grownBy w' v.ownBlock) (hR : R ≤ w.heap.size) (hv : ∀ b, v.ownBlock = some b → R ≤ b) : Below R w w' :=
 ⟨hg.os, hg.tape, hg.output, hg.size, fun i hi => hg.block i (Nat.lt_of_lt_of_le hi hR) (fun e => by have := hv i e.symm; omega)⟩
set_option maxRecDepth 100000 in
theorem putName_any (f : FsD) (u g t : Int) (up : Nat) (nm : List UInt8) (y : Int) (hup : up < f.nodes.length) (hr : Rise (aC9 f.nodes up).list) (hpl : f.nodes.length ≤ 2097152) (hll : (aC9 f.nodes up).list.length ≤ 1048576)
   (d R : Nat) (nv : Value) (ps : List (Nod × Value)) (w : World) (hR : R ≤ w.heap.size) (hRd : R ≤ d) (hD : Drf w d R nv ps f u g t) :
   Calls Tryz.prog 85 #[.pointer (some ⟨d, 0, none⟩), .agg #[.int .i64 up, .string (bs nm)], .int .i64 y] w fun e w' => e = .returned (.tuple #[]) ∧ Below R w w' ∧ ∃ ps2, w'.heap[d]? = some (.cells #[nv, .int .i64 f.room, .int .i64 u, .int .i64 g, .int .i64 t] 75) ∧ ps2.map Prod.fst = (putFs f up nm y t).nodes ∧ Own w' R nv ps2 := by
 obtain ⟨oo, cc, rfl, -⟩ := aM9 hD.own.row
 have HD := qhZ hD
 have hul : up < ps.length := by rw [hD.len]; exact hup
 have hpl8 : ps.length ≤ 2097152 := by rw [hD.len]; exact hpl
 obtain ⟨G, cap, e0, hRG, hGl, hnc, hm, hc, hfr⟩ := hD.own.at hul
 simp only [Value.slice.injEq, true_and] at e0
 obtain ⟨rfl, rfl⟩ := e0
 have hq1 : ps[up].1 = aC9 f.nodes up := at_map hD.map hul
 have HQ1 := qhZ hq1
 have hnm : aC9 f.nodes up ∈ f.nodes := by rw [show aC9 f.nodes up = f.nodes[up] from aR9 hup]; exact List.getElem_mem hup
 have HEA : Hid (EntsA w ps[up].2 (aC9 f.nodes up).list) := qhZ (by rw [← hq1]; exact (hD.own.ent _ (List.getElem_mem hul)).readM (by rw [hq1]; exact (hD.fit _ hnm).2))
 have HNC : Hid (NodC w G (up * 7) ps[up].2 (aC9 f.nodes up)) := qhZ (by rw [← hq1]; exact hc)
 have HEN : Hid (Ents w R ps[up].2 (aC9 f.nodes up).list) := qhZ (by rw [← hq1]; exact hD.own.ent _ (List.getElem_mem hul))
 have HDG : Hid (d ≠ G) := qhZ (by
   have := ne_some (own_not hD.own.row hD.box (by decide))
   intro e; exact this (by rw [e]; rfl))
 have HDL : Hid (some d ≠ ps[up].2.ownBlock) := qhZ (ne_some (own_not HEN.out hD.box (by decide)))
 have HGL : Hid (some G ≠ ps[up].2.ownBlock) := qhZ (ne_some (ents_ne hD.own.row HEN.out rfl))
 have HRL : Hid (∀ b, ps[up].2.ownBlock = some b → R ≤ b ∧ b < w.heap.size) := qhZ (World.ownsRow.lt HEN.out)
 obtain ⟨xn, hxn⟩ : ∃ xn, xn = bs nm := ⟨_, rfl⟩
 have hxl : xn.data.toList = nm := by rw [hxn]; exact aY9 _
 obtain ⟨b, hb⟩ : ∃ b, b = isE (aC9 f.nodes up).list nm := ⟨_, rfl⟩
 obtain ⟨k, hk⟩ : ∃ k, k = posE (aC9 f.nodes up).list nm := ⟨_, rfl⟩
 have hkl : k ≤ (aC9 f.nodes up).list.length := by rw [hk]; exact posE_le _ _
 have HEB : Hid (∀ W, Below w.heap.size w W → Calls Tryz.prog 122 #[.pointer (some ⟨G, up * 7, none⟩), .string xn] W fun e w' => e = .returned (.tuple #[.int .i64 (k : Nat), .bool b]) ∧ Below W.heap.size W w') := qhZ (fun W h => by
   have := entryByName_any (aC9 f.nodes up) G (up * 7) _ xn W (Nat.lt_of_lt_of_le hGl h.size) (HNC.out.below h hGl) (HEA.out.below h) hll hr
   rw [hxl, ← hb, ← hk] at this
   exact this)
 have HKP := qhZ hk
 have HXN := qhZ hxn
 have HPS := qhZ hD.map
 rw [← hxn]
 have HK0 : Hid (Below w.heap.size w (w.alloc (.cells #[.int .i64 up, .string xn] 77))) := qhZ ((Below.refl _ _).alloc (Nat.le_refl _) _)
 have KB0 := qhZ (heap_alloc_new w (.cells #[.int .i64 up, .string xn] 77))
 obtain ⟨lv, hlv⟩ : ∃ lv, lv = ps[up].2 := ⟨_, rfl⟩
 rw [← hlv] at HEN HDL HGL HRL
 have HLV := qhZ hlv
 have x6 : w.cell? ⟨G, up * 7 + 6, none⟩ = some lv := by rw [hlv]; exact hc.c6
 obtain ⟨oe, ce, rfl, -⟩ := aM9 HEN.out
 clear hD hr hxl hxn hb hk hq1 hnm hlv hc
 go_enter Tryz.func85, Tryz.ntmps85
 have d0 : (w.alloc (.cells #[.int .i64 up, .string xn] 77)).cell? ⟨d, 0, none⟩ = some (.slice (some ⟨G, 0, none⟩) ps.length cc) := (aA9 (aD9 HK0.out HD.out.box) 0).trans rfl
 have z0 := fun dd os => cell_regrown (w := w.alloc (.cells #[.int .i64 up, .string xn] 77)) d0 dd os
 have b0 : (w.alloc (.cells #[.int .i64 up, .string xn] 77)).cell? ⟨w.heap.size, 0, none⟩ = some (.int .i64 up) := (aA9 KB0.out 0).trans rfl
 have z1 := fun dd os => cell_regrown (w := w.alloc (.cells #[.int .i64 up, .string xn] 77)) b0 dd os
 go_wp2
 refine wp_region_quiet_below (by kernel_rfl) (by kernel_rfl) ?_
 repeat (first | go_big_quiet_step (fail) | quiet_step (fail))
 refine wpQuiet_nil ?_
 intro w1 hwq
 have hb1 : Below (w.alloc (.cells #[.int .i64 up, .string xn] 77)).heap.size (w.alloc (.cells #[.int .i64 up, .string xn] 77)) w1 := by obtain ⟨pp, rfl⟩ := hwq; exact below_regrown _ _ _
 have HB1 := qhZ (aL9 HK0.out hb1)
 have KB1 := qhZ (aD9 hb1 KB0.out)
 have c1 : w1.cell? ⟨w.heap.size, 1, none⟩ = some (.string xn) := (aA9 KB1.out 1).trans rfl
 clear hwq hb1 d0 z0 b0 z1
 go_wp2_with fail
 refine (HEB.out _ HB1.out).mono ?_
 rintro e w2 ⟨rfl, hb2⟩
 have HB2 := qhZ (aL9 HB1.out hb2)
 have KB2 := qhZ (aD9 hb2 KB1.out)
 have c2 : w2.cell? ⟨w.heap.size, 1, none⟩ = some (.string xn) := (aA9 KB2.out 1).trans rfl
 have e2 : w2.cell? ⟨G, up * 7 + 6, none⟩ = some (Value.slice oe (aC9 f.nodes up).list.length ce) := (HB2.out.cell (p := ⟨G, up * 7 + 6, none⟩) hGl).trans x6
 have KD2 := qhZ (aD9 HB2.out HD.out.box)
 have HO2 := qhZ (HD.out.own.below HB2.out)
 have HE2 : Hid (Ents w2 R (Value.slice oe (aC9 f.nodes up).list.length ce) (aC9 f.nodes up).list) := qhZ (by
   have := HO2.out.ent _ (List.getElem_mem hul)
   rw [HQ1.out, ← HLV.out] at this
   exact this)
 clear hb2 c1
 obtain ⟨W, hW⟩ : ∃ W, W = w2.alloc (.cells #[.string xn, .int .i64 y] 126) := ⟨_, rfl⟩
 have hR2 : R ≤ w2.heap.size := Nat.le_trans hR HB2.out.size
 have HIN : Hid (∀ W' : World, W'.heap = W.heap → W'.os = w2.os → W'.tape = w2.tape → W'.output = w2.output → Calls Tryz.prog 123 #[.slice oe (aC9 f.nodes up).list.length ce, .int .i64 k, .slice (some ⟨w2.heap.size, 0, none⟩) 1 1] W' fun e w' => ∃ o3 n3 c3, e = .returned (.slice o3 n3 c3) ∧ Ents w' R (.slice o3 n3 c3) (insE (aC9 f.nodes up).list ⟨nm, y⟩) ∧ w2.grownBy w' (Value.slice oe (aC9 f.nodes up).list.length ce).ownBlock ∧ ((Value.slice o3 n3 c3).ownBlock = (Value.slice oe (aC9 f.nodes up).list.length ce).ownBlock ∨ ∃ b, (Value.slice o3 n3 c3).ownBlock = some b ∧ w2.heap.size ≤ b)) := qhZ (fun W' h1 h2 h3 h4 => by
   have hWs : W'.heap.size = w2.heap.size + 1 := by rw [h1, hW, World.size_alloc]
   have hup2 : ∀ i, i < w2.heap.size → W'.heap[i]? = w2.heap[i]? := fun i hi => by rw [h1, hW]; exact Below.heap_alloc w2 _ i hi
   have hEW : Ents W' R (Value.slice oe (aC9 f.nodes up).list.length ce) (aC9 f.nodes up).list := by
     refine World.ownsRow.kept HE2.out (row := none) ⟨h2, h3, h4, by omega, fun i hi _ => hup2 i hi⟩ ?_
     cases hq : (Value.slice oe (aC9 f.nodes up).list.length ce).ownBlock with
     | none => exact .inl rfl
     | some b => exact .inr (by simp)
   have hV : W'.heap[w2.heap.size]? = some (.cells #[.string (bs nm), .int .i64 y] 126) := by rw [h1, hW, HXN.out]; exact heap_alloc_new w2 _
   refine (insert_any (aC9 f.nodes up).list _ R k ⟨nm, y⟩ w2.heap.size 126 W' hEW (by omega) hkl (by omega) hV (fun e => by have := HRL.out _ e; have := HB2.out.size; omega)).mono ?_
   rintro e w' ⟨v', rfl, h5, h6, h7⟩
   obtain ⟨o3, c3, rfl, -⟩ := aM9 h5
   refine ⟨o3, _, c3, rfl, (by show Ents w' R _ ((aC9 f.nodes up).list.take (posE (aC9 f.nodes up).list nm) ++ ⟨nm, y⟩ :: (aC9 f.nodes up).list.drop (posE (aC9 f.nodes up).list nm)); rw [← HKP.out]; exact h5), ⟨h6.os.trans h2, h6.tape.trans h3, h6.output.trans h4, Nat.le_trans (by omega) h6.size, fun i hi hne => (h6.block i (by omega) hne).trans (hup2 i hi)⟩, ?_⟩
   rcases h7 with h7 | ⟨b, h7, h8⟩
   · exact .inl h7
   · exact .inr ⟨b, h7, by omega⟩)
 have HWa : Hid ((w2.drew.alloc (.cells #[.string xn, .int .i64 y] 126)).heap = W.heap) := qhZ (by rw [hW]; rfl)
 have HWb : Hid (((w2.alloc (.cells #[.string xn, .int .i64 y] 126)).drew).heap = W.heap) := qhZ (by rw [hW]; rfl)
 have HGf : Hid (∀ j, w2.frozen? ⟨G, j, none⟩ = false) := qhZ (fun j => (World.frozen?_of_block (HB2.out.block G hGl)).trans (hfr j))
 have e2z := fun oo => bM9 (o := oo) e2
 have c2z := fun oo => bM9 (o := oo) c2
 clear hW hfr
 go_wp2
 go_region_with (first
   | (go_at_call 123; (with_reducible refine (HIN.out _ HWa.out rfl rfl rfl).mono ?_); rintro e w3 ⟨o3, n3, c3, rfl, hE3, hg3, hv3⟩; have HE3 := qhZ hE3; have HG3 := qhZ hg3; have HV3 := qhZ hv3; have k6 : w3.cell? ⟨G, up * 7 + 6, none⟩ = some (Value.slice oe (aC9 f.nodes up).list.length ce) := hg3.cell e2 HGL.out; have kf : w3.frozen? ⟨G, up * 7 + 6, none⟩ = false := (World.frozen?_of_block (hg3.block G (Nat.lt_of_lt_of_le hGl HB2.out.size) HGL.out)).trans (HGf.out _); clear hE3 hg3 hv3)
   | (go_at_call 123; (with_reducible refine (HIN.out _ HWb.out rfl rfl rfl).mono ?_); rintro e w3 ⟨o3, n3, c3, rfl, hE3, hg3, hv3⟩; have HE3 := qhZ hE3; have HG3 := qhZ hg3; have HV3 := qhZ hv3; have k6 : w3.cell? ⟨G, up * 7 + 6, none⟩ = some (Value.slice oe (aC9 f.nodes up).list.length ce) := hg3.cell e2 HGL.out; have kf : w3.frozen? ⟨G, up * 7 + 6, none⟩ = false := (World.frozen?_of_block (hg3.block G (Nat.lt_of_lt_of_le hGl HB2.out.size) HGL.out)).trans (HGf.out _); clear hE3 hg3 hv3))
 all_goals
   have HOW := qhZ (HO2.out.list hul (lv' := .slice o3 n3 c3) (es' := insE (aC9 f.nodes up).list ⟨nm, y⟩) (by rw [← HLV.out]; exact HG3.out) HE3.out (by rw [← HLV.out]; exact HV3.out))
   have KDs : Hid ((w3.setCell ⟨G, up * 7 + 6, none⟩ (.slice o3 n3 c3)).heap[d]? = some (.cells #[.slice (some ⟨G, 0, none⟩) ps.length cc, .int .i64 f.room, .int .i64 u, .int .i64 g, .int .i64 t] 75)) := qhZ ((Below.heap_setCell w3 ⟨G, up * 7 + 6, none⟩ _ _ HDG.out).trans ((HG3.out.block d (aB9 KD2.out) HDL.out).trans KD2.out))
   have HBs : Hid (Below R w (w3.setCell ⟨G, up * 7 + 6, none⟩ (.slice o3 n3 c3))) := qhZ (((HB2.out.mono hR).trans (bel_grown HG3.out hR2 (fun b hb => (HRL.out b hb).1))).setCell (p := ⟨G, up * 7 + 6, none⟩) hRG _)
   obtain ⟨W4, hW4⟩ : ∃ W4, W4 = w3.setCell ⟨G, up * 7 + 6, none⟩ (.slice o3 n3 c3) := ⟨_, rfl⟩
   rw [← hW4] at HOW KDs HBs ⊢
   clear hW4 k6 kf
   obtain ⟨qs, hqs⟩ : ∃ qs, qs = ps.set up ({ ps[up].1 with list := insE (aC9 f.nodes up).list ⟨nm, y⟩ }, Value.slice o3 n3 c3) := ⟨_, rfl⟩
   have hql : qs.length = ps.length := by rw [hqs]; simp
   rw [← hqs, ← hql] at HOW
   rw [← hql] at KDs
   have hqu : up < qs.length := by omega
   have hql9 : qs.length ≤ 2097152 := by omega
   have HQL := qhZ hql
   clear hql
   have hq9 : qs[up]'hqu = ({ ps[up].1 with list := insE (aC9 f.nodes up).list ⟨nm, y⟩ }, Value.slice o3 n3 c3) := by simp [hqs]
   obtain ⟨g8, cap8, e8, hRg8, hgl8, hn8, hm8, hc8, hfr8⟩ := HOW.out.at (i := up) hqu
   simp only [Value.slice.injEq, Option.some.injEq, Addr.mk.injEq, and_true, true_and] at e8
   obtain ⟨rfl, rfl⟩ := e8
   have x4 := hc8.c4
   have y4 : W4.cell? ⟨d, 4, none⟩ = some (.int .i64 t) := (aA9 KDs.out 4).trans rfl
   have HWT := qhZ (HOW.out.turn (i := up) (j := 4) hqu (by decide) (.int .i64 t) { (qs[up]'hqu).1 with time := t } rfl rfl)
   have hMP : (qs.set up ({ (qs[up]'hqu).1 with time := t }, (qs[up]'hqu).2)).map Prod.fst = (putFs f up nm y t).nodes := by
     rw [List.map_set, hq9, hqs, List.map_set, HPS.out, HQ1.out]
     simp [putFs, putN]
   have HMP := qhZ hMP
   have KD5 : Hid ((W4.setCell ⟨G, up * 7 + 4, none⟩ (.int .i64 t)).heap[d]? = some (.cells #[.slice (some ⟨G, 0, none⟩) qs.length cc, .int .i64 f.room, .int .i64 u, .int .i64 g, .int .i64 t] 75)) := qhZ ((Below.heap_setCell W4 ⟨G, up * 7 + 4, none⟩ _ _ HDG.out).trans KDs.out)
   have HB5 : Hid (Below R w (W4.setCell ⟨G, up * 7 + 4, none⟩ (.int .i64 t))) := qhZ (HBs.out.setCell (p := ⟨G, up * 7 + 4, none⟩) hRG _)
   clear hqs hq9 hc8 hMP
   go_wp2
   go_end0
   have HKF : Hid ((W4.setCell ⟨G, up * 7 + 4, none⟩ (.int .i64 t)).heap[d]? = some (.cells #[.slice (some ⟨G, 0, none⟩) ps.length cc, .int .i64 f.room, .int .i64 u, .int .i64 g, .int .i64 t] 75)) := qhZ (by rw [← HQL.out]; exact KD5.out)
   have h9 := HWT.out
   rw [HQL.out] at h9
   first
     | exact ⟨rfl, HB5.out, HKF.out, _, HMP.out, h9⟩
     | exact ⟨rfl, HB5.out, _, HKF.out, HMP.out, h9⟩
end Go.Proofs.YtknhacblialboaaGreatDoor
