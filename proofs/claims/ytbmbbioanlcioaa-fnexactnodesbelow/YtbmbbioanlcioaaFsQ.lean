
/-
  Contracts of the laws' helpers toNode, toNodeS, toFs: copies in memory of the call's own.
  Conditions: at most 2^20 values and letters together.
-/
import Derived.Test.YtbmbbioanlcioaaFsO
namespace Go.Proofs.Ytbmbbioanlcioaa
open Go.ChangeShapes Go.WideShapes Go.ChangeAt Go.RowKit Go.Joins
set_option linter.unusedVariables false

theorem cell_blk {w : World} {b : Nat} {cs : Array Value} {T : TypeId} (h : w.heap[b]? = some (.cells cs T (0, 0))) (j : Nat) : w.cell? ⟨b, j, none⟩ = cs[j]? := by simp [World.cell?, h]
theorem frozen_blk {w : World} {b : Nat} {cs : Array Value} {T : TypeId} (h : w.heap[b]? = some (.cells cs T (0, 0))) (j : Nat) : w.frozen? ⟨b, j, none⟩ = false := frozen_of_row w b j cs T h

set_option maxHeartbeats 2000000 in
theorem toNode_any (k m u gi t : Int) (x : ByteArray) (lv : Value) (es : List Ent) (w : World) (hE : EntsA w lv es) (hl : es.length ≤ 1048576) :
    Calls Try.prog 45 #[.agg #[.int .i64 k, .int .i64 m, .int .i64 u, .int .i64 gi, .int .i64 t, .string x, lv]] w fun e w' =>
      ∃ lv', e = .returned (.agg #[.int .i64 k, .int .i64 m, .int .i64 u, .int .i64 gi, .int .i64 t, .string x, lv']) ∧ EntsOwn w' w.heap.size lv' es ∧ Below w.heap.size w w' := by
  obtain ⟨o, c, rfl, -, -⟩ := id hE
  have HE := Lib.hid hE
  clear hE
  go_enter Try.func45, Try.ntmps45
  go_wp2_with fail
  have h2 := heap_alloc_new (w.alloc (.cells #[.int .i64 k, .int .i64 m, .int .i64 u, .int .i64 gi, .int .i64 t, .string x, .slice o es.length c] 61)) (.cells #[.int .i64 0, .int .i64 0, .int .i64 0, .int .i64 0, .int .i64 0, .string ⟨#[]⟩, .slice none 0 0] 65)
  have h3 := heap_alloc_new ((w.alloc (.cells #[.int .i64 k, .int .i64 m, .int .i64 u, .int .i64 gi, .int .i64 t, .string x, .slice o es.length c] 61)).alloc (.cells #[.int .i64 0, .int .i64 0, .int .i64 0, .int .i64 0, .int .i64 0, .string ⟨#[]⟩, .slice none 0 0] 65)) (.cells #[.int .i64 k, .int .i64 m, .int .i64 u, .int .i64 gi, .int .i64 t, .string x, .slice none 0 0] 65)
  have h23 := Below.heap_alloc ((w.alloc (.cells #[.int .i64 k, .int .i64 m, .int .i64 u, .int .i64 gi, .int .i64 t, .string x, .slice o es.length c] 61)).alloc (.cells #[.int .i64 0, .int .i64 0, .int .i64 0, .int .i64 0, .int .i64 0, .string ⟨#[]⟩, .slice none 0 0] 65)) (.cells #[.int .i64 k, .int .i64 m, .int .i64 u, .int .i64 gi, .int .i64 t, .string x, .slice none 0 0] 65) (w.heap.size + 1) (by simp)
  rw [World.size_alloc] at h2
  rw [World.size_alloc, World.size_alloc] at h3
  have hB3 : Below w.heap.size w (((w.alloc (.cells #[.int .i64 k, .int .i64 m, .int .i64 u, .int .i64 gi, .int .i64 t, .string x, .slice o es.length c] 61)).alloc (.cells #[.int .i64 0, .int .i64 0, .int .i64 0, .int .i64 0, .int .i64 0, .string ⟨#[]⟩, .slice none 0 0] 65)).alloc (.cells #[.int .i64 k, .int .i64 m, .int .i64 u, .int .i64 gi, .int .i64 t, .string x, .slice none 0 0] 65)) := (((Below.refl _ _).alloc (Nat.le_refl _) _).alloc (by simp) _).alloc (by simp; omega) _
  have hs3 : (((w.alloc (.cells #[.int .i64 k, .int .i64 m, .int .i64 u, .int .i64 gi, .int .i64 t, .string x, .slice o es.length c] 61)).alloc (.cells #[.int .i64 0, .int .i64 0, .int .i64 0, .int .i64 0, .int .i64 0, .string ⟨#[]⟩, .slice none 0 0] 65)).alloc (.cells #[.int .i64 k, .int .i64 m, .int .i64 u, .int .i64 gi, .int .i64 t, .string x, .slice none 0 0] 65)).heap.size = w.heap.size + 1 + 1 + 1 := by simp
  rw [h2] at h23
  obtain ⟨W3, hW3⟩ : ∃ W3, ((w.alloc (.cells #[.int .i64 k, .int .i64 m, .int .i64 u, .int .i64 gi, .int .i64 t, .string x, .slice o es.length c] 61)).alloc (.cells #[.int .i64 0, .int .i64 0, .int .i64 0, .int .i64 0, .int .i64 0, .string ⟨#[]⟩, .slice none 0 0] 65)).alloc (.cells #[.int .i64 k, .int .i64 m, .int .i64 u, .int .i64 gi, .int .i64 t, .string x, .slice none 0 0] 65) = W3 := ⟨_, rfl⟩
  rw [hW3] at h3 h23 hB3 hs3 ⊢
  clear h2 hW3
  refine (toEntryS_any es _ W3 (HE.out.below hB3) hl).mono ?_
  rintro e w4 ⟨lv', rfl, hO, hb4⟩
  have k2 := (hb4.block (w.heap.size + 1) (by omega)).trans h23
  have k3 := (hb4.block (w.heap.size + 1 + 1) (by omega)).trans h3
  have HB4 := Lib.hid (hB3.trans (hb4.mono hB3.size))
  have HO := Lib.hid hO
  obtain ⟨G, cc, rfl, _⟩ := hO
  have r0 := (cell_blk k2 0).trans rfl
  have r1 := (cell_blk k2 1).trans rfl
  have r2 := (cell_blk k2 2).trans rfl
  have r3 := (cell_blk k2 3).trans rfl
  have r4 := (cell_blk k2 4).trans rfl
  have r5 := (cell_blk k2 5).trans rfl
  have r6 := (cell_blk k2 6).trans rfl
  have o0 := (cell_blk k3 0).trans rfl
  have o1 := (cell_blk k3 1).trans rfl
  have o2 := (cell_blk k3 2).trans rfl
  have o3 := (cell_blk k3 3).trans rfl
  have o4 := (cell_blk k3 4).trans rfl
  have o5 := (cell_blk k3 5).trans rfl
  have o6 := (cell_blk k3 6).trans rfl
  have fr := frozen_blk k2
  have fo := frozen_blk k3
  clear h3 h23 hB3 hb4 k2 k3
  go_wp2
  refine bodyPost_ret (v := .agg #[.int .i64 k, .int .i64 m, .int .i64 u, .int .i64 gi, .int .i64 t, .string x, .slice (some ⟨G, 0, none⟩) es.length cc]) (by simp [results, Try.results45, go_sem, r0, r1, r2, r3, r4, r5, r6]) rfl ⟨_, rfl, ?_, ?_⟩
  · obtain ⟨G', c', e', h1, h2, h3, hr⟩ := HO.out
    simp only [Value.slice.injEq, Option.some.injEq, Addr.mk.injEq, and_true, true_and] at e'
    obtain ⟨rfl, rfl⟩ := e'
    refine ⟨G, cc, rfl, h1, h2, by omega, ?_⟩
    iterate 8 refine RowAt.other ?_ (by simp; omega) _
    exact hr
  · iterate 8 refine Below.setCell ?_ (by first | omega | (simp; done) | (simp; omega)) _
    exact HB4.out

/-- A node's cells. -/
def nodCell (n : Nod) (lv : Value) (r : Nat) : Value :=
  if r = 0 then .int .i64 n.kind else if r = 1 then .int .i64 n.mode else if r = 2 then .int .i64 n.uid else if r = 3 then .int .i64 n.gid else if r = 4 then .int .i64 n.time else if r = 5 then .string (bs n.data) else lv
def nod0 : Nod := ⟨0, 0, 0, 0, 0, [], []⟩
/-- The cells of a list of nodes with their lists' values; behind it zero values. -/
def nodsF (ps : List (Nod × Value)) (j : Nat) : Value := nodCell (ps[j / 7]?.getD (nod0, .slice none 0 0)).1 (ps[j / 7]?.getD (nod0, .slice none 0 0)).2 (j % 7)
/-- The value is a list of nodes of the call's own: their row in a block from B on, their lists in blocks behind it. -/
def NodsOwn (w : World) (B : Nat) (v : Value) (ns : List Nod) : Prop :=
  ∃ G c ps, v = .slice (some ⟨G, 0, none⟩) ns.length c ∧ ns.length ≤ c ∧ c ≤ maxLen ∧ B ≤ G ∧ ps.map Prod.fst = ns ∧ RowAt w G (ns.length * 7) 65 (nodsF ps) ∧ ∀ p ∈ ps, EntsOwn w (G + 1) p.2 p.1.list

theorem nods_step {ps : List (Nod × Value)} {n : Nod} {lv : Value} (j : Nat) :
    (if j = ps.length * 7 + 6 then lv else if j = ps.length * 7 + 5 then .string (bs n.data) else if j = ps.length * 7 + 4 then .int .i64 n.time else if j = ps.length * 7 + 3 then .int .i64 n.gid else if j = ps.length * 7 + 2 then .int .i64 n.uid else if j = ps.length * 7 + 1 then .int .i64 n.mode else if j = ps.length * 7 then .int .i64 n.kind else nodsF ps j) = nodsF (ps ++ [(n, lv)]) j := by
  unfold nodsF
  by_cases hj : j / 7 = ps.length
  · have hm : j = ps.length * 7 + j % 7 := by omega
    have hlt : j % 7 < 7 := Nat.mod_lt _ (by omega)
    rw [hj, List.getElem?_append_right (Nat.le_refl _)]
    obtain ⟨r, hr⟩ : ∃ r, r = j % 7 := ⟨_, rfl⟩
    rw [← hr] at hm hlt ⊢
    subst hm
    simp only [Nat.sub_self, List.getElem?_cons_zero, Option.getD_some, nodCell, Nat.add_right_inj, Nat.add_eq_left]
    rcases (show r = 0 ∨ r = 1 ∨ r = 2 ∨ r = 3 ∨ r = 4 ∨ r = 5 ∨ r = 6 by omega) with rfl | rfl | rfl | rfl | rfl | rfl | rfl <;> simp
  · rw [if_neg (by omega), if_neg (by omega), if_neg (by omega), if_neg (by omega), if_neg (by omega), if_neg (by omega), if_neg (by omega)]
    by_cases h1 : j / 7 < ps.length
    · rw [List.getElem?_append_left h1]
    · rw [List.getElem?_eq_none (by omega), List.getElem?_eq_none (by simp; omega)]

theorem EntsOwn.other {w : World} {B : Nat} {v : Value} {es : List Ent} (h : EntsOwn w B v es) {p : Addr} (hp : p.block < B) (u : Value) : EntsOwn (w.setCell p u) B v es := by
  obtain ⟨G, c, e, h1, h2, h3, hr⟩ := h
  exact ⟨G, c, e, h1, h2, h3, hr.other (by omega) u⟩
theorem EntsOwn.mono {w : World} {A B : Nat} {v : Value} {es : List Ent} (h : EntsOwn w B v es) (hAB : A ≤ B) : EntsOwn w A v es := by
  obtain ⟨G, c, e, h1, h2, h3, hr⟩ := h
  exact ⟨G, c, e, h1, h2, by omega, hr⟩

theorem nodInfo : (Try.prog.info? 65).map (fun i => (i.zero, i.size, i.bytes)) = some (some (.agg #[.int .i64 0, .int .i64 0, .int .i64 0, .int .i64 0, .int .i64 0, .string ⟨#[]⟩, .slice none 0 0]), 7, 80) := by kernel_rfl
theorem nods_zero (j : Nat) : (#[Value.int .i64 0, .int .i64 0, .int .i64 0, .int .i64 0, .int .i64 0, .string ⟨#[]⟩, .slice none 0 0] : Array Value)[j % 7]! = nodsF [] j := by
  unfold nodsF nodCell nod0
  obtain ⟨r, hr⟩ : ∃ r, r = j % 7 := ⟨_, rfl⟩
  have hlt : j % 7 < 7 := Nat.mod_lt _ (by omega)
  rw [← hr] at hlt ⊢
  rcases (show r = 0 ∨ r = 1 ∨ r = 2 ∨ r = 3 ∨ r = 4 ∨ r = 5 ∨ r = 6 by omega) with rfl | rfl | rfl | rfl | rfl | rfl | rfl <;> rfl

set_option maxHeartbeats 4000000 in
theorem toNodeS_any (ns : List Nod) (v : Value) (w : World) (hR : NodsA w v ns) (hl : ns.length ≤ 1048576) (hll : ∀ n ∈ ns, n.list.length ≤ 1048576) : Calls Try.prog 28 #[v] w fun e w' => ∃ u, e = .returned u ∧ NodsOwn w' w.heap.size u ns ∧ Below w.heap.size w w' := by
  obtain ⟨i0, hi, hz0, hz1, hz2⟩ := info_parts nodInfo
  obtain ⟨o, c, rfl, hm, hH⟩ := hR
  have HH := Lib.hid hH
  have HLL := Lib.hid hll
  clear hH hll
  unfold maxLen at hm
  go_enter Try.func28, Try.ntmps28
  go_wp2_with (at_make; refine wpList_make_full _ rfl _ _ 29 rfl w.heap.size 65 i0 (.agg #[.int .i64 0, .int .i64 0, .int .i64 0, .int .i64 0, .int .i64 0, .string ⟨#[]⟩, .slice none 0 0]) 7 Try.underlying29 hi hz0 hz1 _ _ _ _ ns.length rfl rfl rfl rfl (by rw [hz2]; omega) (by unfold maxLen; omega) (Nat.le_refl _) ?_)
  intro w1 hown hgrow
  have hb1 : Below w.heap.size w w1 := (Below.refl _ w).grown hgrow (Nat.le_refl _) (fun k e => by cases e)
  have hr1 : RowAt w1 w.heap.size (ns.length * 7) 65 (nodsF []) := by
    refine RowAt.made hown (fun j hj => ?_)
    have hj' : j < ns.length * 7 := hj
    rw [← nods_zero]
    simp [madeCells, hj']
  clear hown hgrow
  go_wp2
  go_loopw [4] (fun i wr => ∃ (k : Nat) (ps : List (Nod × Value)), k ≤ ns.length ∧ i = .int .i64 k ∧ ps.length = k ∧ ps.map Prod.fst = ns.take k ∧ RowAt wr w.heap.size (ns.length * 7) 65 (nodsF ps) ∧ (∀ p ∈ ps, EntsOwn wr (w.heap.size + 1) p.2 p.1.list) ∧ Below w.heap.size w wr) (fun i _ => ns.length - (intOf i).toNat)
  case atStart => exact ⟨0, [], Nat.zero_le _, rfl, rfl, rfl, hr1, by simp, hb1⟩
  case round =>
    obtain ⟨k, ps, hk, rfl, hpl, hps, hr, hE, hB⟩ := hrel
    have HPL := Lib.hid hpl
    have HPS := Lib.hid hps
    have HRr := Lib.hid hr
    have HEr := Lib.hid hE
    have hsr := hr.lt
    clear hpl hps hE hr1
    by_cases hlt : k < ns.length
    · obtain ⟨g, off, lv, rfl, hg, hc, he, hml⟩ := HH.out k hlt
      obtain ⟨d0, d1, d2, d3, d4, d5, d6⟩ := hc.below hB hg
      have HTK : Hid (ns.take (k + 1) = ns.take k ++ [ns[k]]) := Lib.hid (List.take_succ_eq_append_getElem hlt)
      have hql : ns[k].list.length ≤ 1048576 := HLL.out _ (List.getElem_mem hlt)
      obtain ⟨q, hqq⟩ : ∃ q, q = ns[k] := ⟨_, rfl⟩
      rw [← hqq] at d0 d1 d2 d3 d4 d5 he hml HTK hql
      have HE := Lib.hid (he.below hB)
      obtain ⟨o2, c2, rfl, -, -⟩ := id he
      have HST : Hid (∀ lv j, (if j = k * 7 + 6 then lv else if j = k * 7 + 5 then Value.string (bs q.data) else if j = k * 7 + 4 then .int .i64 q.time else if j = k * 7 + 3 then .int .i64 q.gid else if j = k * 7 + 2 then .int .i64 q.uid else if j = k * 7 + 1 then .int .i64 q.mode else if j = k * 7 then .int .i64 q.kind else nodsF ps j) = nodsF (ps ++ [(q, lv)]) j) := Lib.hid (fun lv j => by
        have := nods_step (ps := ps) (n := q) (lv := lv) j
        rw [HPL.out] at this
        exact this)
      obtain ⟨x, hxx⟩ : ∃ x, x = bs q.data := ⟨_, rfl⟩
      rw [← hxx] at d5 HST
      clear hc he hml hqq hxx hr
      go_wp2_with fail
      refine (toNode_any _ _ _ _ _ _ _ _ _ HE.out hql).mono ?_
      rintro e w2 ⟨lv', rfl, hO2, hb2⟩
      have HO2 := Lib.hid hO2
      obtain ⟨G2, cc2, rfl, -⟩ := hO2
      have hr2 := HRr.out.below hb2 HRr.out.lt
      have b0 := hr2.cell (j := k * 7) (by omega)
      have b1 := hr2.cell (j := k * 7 + 1) (by omega)
      have b2 := hr2.cell (j := k * 7 + 2) (by omega)
      have b3 := hr2.cell (j := k * 7 + 3) (by omega)
      have b4 := hr2.cell (j := k * 7 + 4) (by omega)
      have b5 := hr2.cell (j := k * 7 + 5) (by omega)
      have b6 := hr2.cell (j := k * 7 + 6) (by omega)
      have bf := hr2.frozen
      have HR3 := Lib.hid ((((((((hr2.set (k * 7) (.int .i64 q.kind)).set (k * 7 + 1) (.int .i64 q.mode)).set (k * 7 + 2) (.int .i64 q.uid)).set (k * 7 + 3) (.int .i64 q.gid)).set (k * 7 + 4) (.int .i64 q.time)).set (k * 7 + 5) (.string x)).set (k * 7 + 6) (.slice (some ⟨G2, 0, none⟩) q.list.length cc2)).congr (fun j _ => HST.out _ j))
      have HB2 := Lib.hid (hB.trans (hb2.mono hB.size))
      have HE2 := Lib.hid (fun p hp => (HEr.out p hp).below hb2)
      clear hr2 hb2
      go_wp2
      go_roundw
      case rel =>
        refine ⟨k + 1, ps ++ [(q, .slice (some ⟨G2, 0, none⟩) q.list.length cc2)], hlt, by go_num, by simp [HPL.out], by rw [List.map_append, HPS.out, HTK.out]; rfl, HR3.out, ?_, ?_⟩
        · intro p hp
          iterate 7 refine EntsOwn.other ?_ (by simp) _
          rcases List.mem_append.1 hp with h1 | h1
          · exact HE2.out p h1
          · simp only [List.mem_singleton] at h1
            subst h1
            exact HO2.out.mono (by omega)
        · iterate 7 refine Below.setCell ?_ (by first | omega | (simp; done) | (simp; omega)) _
          exact HB2.out
      case measure => simp [intOf]; omega
    · have HT : Hid (ns.take k = ns) := Lib.hid (List.take_of_length_le (by omega))
      clear hr
      go_wp2
      go_ret
      exact ⟨_, rfl, ⟨_, _, ps, rfl, Nat.le_refl _, by unfold maxLen; omega, Nat.le_refl _, by rw [HPS.out, HT.out], HRr.out, HEr.out⟩, hB⟩
end Go.Proofs.Ytbmbbioanlcioaa
