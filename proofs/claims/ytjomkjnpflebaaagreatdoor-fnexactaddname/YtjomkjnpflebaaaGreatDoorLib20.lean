/-
  Joined: InsA MakM DrfC.
  Conditions: as each states.
-/
import Derived.Shelf.Spec.SlicesInsert
import Derived.Lib.AppendZerosOnto
import Derived.Laws.NewBlocks
import Derived.Test.YtjomkjnpflebaaaGreatDoorLib12
import Derived.Test.YtjomkjnpflebaaaGreatDoorLib17
import Derived.Test.YtjomkjnpflebaaaGreatDoorLib19

/-
  slices.Insert of one entry into a list of the call's own.
  Conditions: at most 2^21 entries.
-/
namespace Go.Proofs.YtjomkjnpflebaaaGreatDoor
open Go.ChangeShapes Go.WideShapes Go.ChangeAt Go.RowKit Go.Joins
set_option linter.unusedVariables false
set_option linter.unusedSimpArgs false

theorem ins_list {L A C V : List Value} {a c : Nat} (hA : A.length = a) (hV : V.length = 2) (hC : C.length = c) (hL : L.take (a + c) = A ++ C) (hl : a + c + 2 ≤ L.length) :
    ((L.take (a + 2) ++ C ++ L.drop (a + 2 + c)).take a ++ V ++ (L.take (a + 2) ++ C ++ L.drop (a + 2 + c)).drop (a + 2)).take (a + c + 2) = A ++ V ++ C := by
  have h0 : L.take a = A := by
    have := congrArg (List.take a) hL
    rw [List.take_take, Nat.min_eq_left (by omega), ← hA, List.take_left] at this
    rw [← hA]; exact this
  have hl2 : (L.take (a + 2)).length = a + 2 := by rw [List.length_take]; omega
  have h1 : (L.take (a + 2) ++ C ++ L.drop (a + 2 + c)).take a = A := by
    rw [List.append_assoc, List.take_append_of_le_length (by omega), List.take_take, Nat.min_eq_left (by omega), h0]
  have h2 : (L.take (a + 2) ++ C ++ L.drop (a + 2 + c)).drop (a + 2) = C ++ L.drop (a + 2 + c) := by
    rw [List.append_assoc, List.drop_append_of_le_length (by omega), List.drop_of_length_le (by omega), List.nil_append]
  rw [h1, h2, ← List.append_assoc]
  have h3 : (A ++ V ++ C).length = a + c + 2 := by simp only [List.length_append]; omega
  rw [← h3, List.take_left]
theorem ins_list2 {A V C Z : List Value} {a c : Nat} (hA : A.length = a) (hV : V.length = 2) (hC : C.length = c) (hZ : c + 2 ≤ Z.length) :
    (((A ++ Z).take a ++ V ++ (A ++ Z).drop (a + 2)).take (a + 2) ++ C ++ ((A ++ Z).take a ++ V ++ (A ++ Z).drop (a + 2)).drop (a + 2 + c)).take (a + c + 2) = A ++ V ++ C := by
  have h1 : (A ++ Z).take a = A := by rw [← hA, List.take_left]
  have h2 : (A ++ V).length = a + 2 := by simp only [List.length_append]; omega
  rw [h1]
  have h4 : (A ++ V ++ (A ++ Z).drop (a + 2)).take (a + 2) = A ++ V := by rw [← h2, List.take_left]
  rw [h4]
  have h3 : (A ++ V ++ C).length = a + c + 2 := by simp only [List.length_append]; omega
  rw [← h3, List.take_left]

/-- What the call leaves: the list with one entry more, in its own row or in a new one. -/
def InsSays (w : World) (R : Nat) (lv : Value) (es : List Ent) (i : Nat) (x : Ent) (e : Ending) (w' : World) : Prop :=
  ∃ v', e = .returned v' ∧ Ents w' R v' (es.take i ++ x :: es.drop i) ∧ w.grownBy w' lv.ownBlock ∧ (v'.ownBlock = lv.ownBlock ∨ ∃ b, v'.ownBlock = some b ∧ w.heap.size ≤ b)

theorem entV_app {es : List Ent} {i : Nat} {x : Ent} : entsV (es.take i ++ x :: es.drop i) = entsV (es.take i) ++ [.string (bs x.name), .int .i64 x.node] ++ entsV (es.drop i) := by
  rw [entsV_app, show x :: es.drop i = [x] ++ es.drop i from rfl, entsV_app]
  simp [entsV, entV]
theorem ins_len {es : List Ent} {i : Nat} {x : Ent} (hi : i ≤ es.length) : (es.take i ++ x :: es.drop i).length = es.length + 1 := by
  simp only [List.length_append, List.length_cons, List.length_take, List.length_drop]; omega

set_option maxHeartbeats 8000000 in
set_option maxRecDepth 100000 in
/-- Behind all entries. -/
theorem insert_end (es : List Ent) (lv : Value) (R : Nat) (x : Ent) (vb : Nat) (TV : TypeId) (w : World) (hE : Ents w R lv es) (hR : R ≤ w.heap.size) (hs : es.length ≤ 2097152) (hV : w.heap[vb]? = some (.cells #[.string (bs x.name), .int .i64 x.node] TV)) :
    Calls Tryz.prog 114 #[lv, .int .i64 (es.length : Nat), .slice (some ⟨vb, 0, none⟩) 1 1] w fun e w' => InsSays w R lv es es.length x e w' := by
  obtain ⟨i9, hi9, hz0, hz1, hz2⟩ := info_ent
  have HE := Lib.hid hE
  have HV := Lib.hid hV
  obtain ⟨oo, cap, rfl, hoo⟩ := owns_form hE
  obtain ⟨xn, hxn⟩ : ∃ xn, xn = bs x.name := ⟨_, rfl⟩
  have HXN := Lib.hid hxn
  rw [← hxn] at HV
  have HEND : Hid (∀ v' (w' : World), w'.ownsRow R 112 2 v' (es.length + 1) (entsV es ++ [.string xn, .int .i64 x.node]) → w.grownBy w' (Value.slice oo es.length cap).ownBlock → (v'.ownBlock = (Value.slice oo es.length cap).ownBlock ∨ ∃ b, v'.ownBlock = some b ∧ w.heap.size ≤ b) → InsSays w R (.slice oo es.length cap) es es.length x (.returned v') w') := Lib.hid (fun v' w' h1 h2 h3 => by
    refine ⟨v', rfl, ?_, h2, h3⟩
    unfold Ents
    rw [entV_app, ins_len (Nat.le_refl _), List.take_length, List.drop_length, ← HXN.out]
    simpa [entsV] using h1)
  clear hE hV hxn
  have hz : ¬ ((1 : Int) = 0) := by decide
  cases oo with
  | none =>
    go_enter Tryz.func114, Tryz.ntmps114
    go_wp2_with (at_builtin; refine wpList_append_keep _ rfl _ _ 50 rfl R 112 i9 (.agg #[.string ⟨#[]⟩, .int .i64 0]) 2 24 Tryz.underlying50 hi9 hz0 hz1 hz2 rfl (by decide) _ es.length (entsV es) rfl HE.out ⟨vb, 0, none⟩ 1 1 [.string xn, .int .i64 x.node] (by decide) rfl rfl (cell_two_kept HV.out) (by simp [Value.oneCell']) (by unfold maxLen; omega) (by omega) hR ?_)
    all_goals
      intro v1 w1 hown1 hgrow1 _ hblk1
      have HF := Lib.hid (HEND.out v1 w1 hown1 hgrow1 (by
        first
          | exact .inr ⟨_, hblk1, Nat.le_refl _⟩
          | (rcases hblk1 with ⟨g', c', ⟨rfl, _⟩, rfl⟩ | h
             · exact .inl rfl
             · exact .inr ⟨_, h, Nat.le_refl _⟩)))
      clear hown1 hgrow1 hblk1
      go_wp2
      go_ret
      exact HF.out
  | some a =>
    obtain ⟨g, rfl, hg1, hg2⟩ := hoo a rfl
    go_enter Tryz.func114, Tryz.ntmps114
    go_wp2_with (at_builtin; refine wpList_append_keep _ rfl _ _ 50 rfl R 112 i9 (.agg #[.string ⟨#[]⟩, .int .i64 0]) 2 24 Tryz.underlying50 hi9 hz0 hz1 hz2 rfl (by decide) _ es.length (entsV es) rfl HE.out ⟨vb, 0, none⟩ 1 1 [.string xn, .int .i64 x.node] (by decide) rfl rfl (cell_two_kept HV.out) (by simp [Value.oneCell']) (by unfold maxLen; omega) (by omega) hR ?_)
    all_goals
      intro v1 w1 hown1 hgrow1 _ hblk1
      have HF := Lib.hid (HEND.out v1 w1 hown1 hgrow1 (by
        first
          | exact .inr ⟨_, hblk1, Nat.le_refl _⟩
          | (rcases hblk1 with ⟨g', c', ⟨rfl, _⟩, rfl⟩ | h
             · exact .inl rfl
             · exact .inr ⟨_, h, Nat.le_refl _⟩)))
      clear hown1 hgrow1 hblk1
      go_wp2
      go_ret
      exact HF.out

theorem owns_forms {w : World} {base size n : Nat} {e : TypeId} {v : Value} {xs : List Value} (h : w.ownsRow base e size v n xs) : (v = .slice none 0 0 ∧ n = 0) ∨ ∃ g cap, v = .slice (some ⟨g, 0, none⟩) n cap := by
  rcases h.2 with h | ⟨g, cap, cur, e, _⟩
  · exact .inl h
  · exact .inr ⟨g, cap, e⟩

set_option maxHeartbeats 8000000 in
set_option maxRecDepth 100000 in
/-- Among the entries, where there is room. -/
theorem insert_room (es : List Ent) (g cap : Nat) (R : Nat) (i : Nat) (x : Ent) (vb : Nat) (TV : TypeId) (w : World) (hE : Ents w R (.slice (some ⟨g, 0, none⟩) es.length cap) es) (hi : i < es.length) (hroom : es.length + 1 ≤ cap) (hs : es.length ≤ 2097152) (hV : w.heap[vb]? = some (.cells #[.string (bs x.name), .int .i64 x.node] TV)) (hvb : vb ≠ g) :
    Calls Tryz.prog 114 #[.slice (some ⟨g, 0, none⟩) es.length cap, .int .i64 i, .slice (some ⟨vb, 0, none⟩) 1 1] w fun e w' => InsSays w R (.slice (some ⟨g, 0, none⟩) es.length cap) es i x e w' := by
  obtain ⟨i9, hi9, hz0, hz1, hz2⟩ := info_ent
  have HE := Lib.hid hE
  obtain ⟨cur, hRg, hg, hn, hm, hsz, ht⟩ : ∃ cur, R ≤ g ∧ w.heap[g]? = some (.cells cur 112) ∧ es.length ≤ cap ∧ cap ≤ maxLen ∧ cur.size = cap * 2 ∧ cur.toList.take (es.length * 2) = entsV es := by
    rcases hE.2 with ⟨e, _⟩ | ⟨g2, c2, cur, e, h1, h2, h3, h4, h5, h6⟩
    · cases e
    · simp only [Value.slice.injEq, Option.some.injEq, Addr.mk.injEq, and_true, true_and] at e
      obtain ⟨rfl, rfl⟩ := e
      exact ⟨cur, h1, h2, h3, h4, h5, h6⟩
  obtain ⟨xn, hxn⟩ : ∃ xn, xn = bs x.name := ⟨_, rfl⟩
  rw [← hxn] at hV
  obtain ⟨n, hnl⟩ : ∃ n, n = es.length := ⟨_, rfl⟩
  obtain ⟨cs, hcs⟩ : ∃ cs, cs = entsV (es.drop i) := ⟨_, rfl⟩
  obtain ⟨A, hA⟩ : ∃ A, A = entsV (es.take i) := ⟨_, rfl⟩
  obtain ⟨vs, hvs⟩ : ∃ vs : List Value, vs = [.string xn, .int .i64 x.node] := ⟨_, rfl⟩
  have hcl : cs.length = (n - i) * 2 := by rw [hcs, entsV_len, List.length_drop, hnl]
  have hAl : A.length = i * 2 := by rw [hA, entsV_len, List.length_take]; omega
  have hvl : vs.length = 2 := by rw [hvs]; rfl
  have hAC : cur.toList.take (i * 2 + (n - i) * 2) = A ++ cs := by
    rw [show i * 2 + (n - i) * 2 = es.length * 2 by omega, ht, hA, hcs, ← entsV_app, List.take_append_drop]
  have h1c : ∀ v ∈ cs, v.oneCell' = true := by rw [hcs]; exact entsV_one _
  have h1A : ∀ v ∈ A, v.oneCell' = true := by rw [hA]; exact entsV_one _
  have h1v : ∀ v ∈ vs, v.oneCell' = true := by rw [hvs]; simp [Value.oneCell']
  have hRES : entsV (es.take i ++ x :: es.drop i) = A ++ vs ++ cs := by rw [entV_app, hA, hcs, hvs, hxn]
  have hRL : (es.take i ++ x :: es.drop i).length = n + 1 := by rw [ins_len (by omega), hnl]
  have hsrcv : ∀ W : World, W.heap[vb]? = some (.cells #[.string xn, .int .i64 x.node] TV) → ∀ j v, vs[j]? = some v → W.cell? ((⟨vb, 0, none⟩ : Addr).add j) = some v := fun W h => by rw [hvs]; exact cell_two_kept h
  have hsrcc : ∀ W : World, W.heap[g]? = w.heap[g]? → ∀ j v, cs[j]? = some v → W.cell? ((⟨g, i * 2, none⟩ : Addr).add j) = some v := fun W h j v hj => by
    rw [hcs] at hj
    have := ents_drop HE.out (Below.refl _ w) i j v hj
    rw [← this]
    exact World.cell?_of_block (by rw [addBlock]; exact h)
  have hsrcA : ∀ j v, A[j]? = some v → w.drew.cell? ((⟨g, 0, none⟩ : Addr).add j) = some v := fun j v hj => by
    rw [hA] at hj
    exact ents_take HE.out (Below.refl _ w).drew i j v hj
  have hgl : g < w.heap.size := lt_of_heap hg
  have hvl2 : vb < w.heap.size := lt_of_heap hV
  have hsi : (Tryz.prog.info? 112).map (·.size) = some 2 := by rw [hi9]; simp [hz1]
  unfold maxLen at hm
  rw [← hnl] at hn hi hs
  rw [← hnl] at hroom
  obtain ⟨cur1, hc1⟩ : ∃ cur1 : Array Value, cur1 = (cur.toList.take ((i + 1) * 2) ++ cs ++ cur.toList.drop ((i + 1) * 2 + cs.length)).toArray := ⟨_, rfl⟩
  have hcz1 : cur1.size = cap * 2 := by
    rw [hc1]; simp only [List.size_toArray, List.length_append, List.length_take, List.length_drop, Array.length_toList]; omega
  obtain ⟨cur2, hc2⟩ : ∃ cur2 : Array Value, cur2 = (cur1.toList.take (i * 2) ++ vs ++ cur1.toList.drop (i * 2 + vs.length)).toArray := ⟨_, rfl⟩
  have hcz2 : cur2.size = cap * 2 := by
    rw [hc2]; simp only [List.size_toArray, List.length_append, List.length_take, List.length_drop, Array.length_toList]; omega
  have hT2 : cur2.toList.take ((n + 1) * 2) = A ++ vs ++ cs := by
    have := ins_list (L := cur.toList) hAl hvl hcl hAC (by rw [Array.length_toList]; omega)
    rw [hc2, hc1]
    simp only [hcl, hvl] at this ⊢
    rw [show (n + 1) * 2 = i * 2 + (n - i) * 2 + 2 by omega, show (i + 1) * 2 = i * 2 + 2 by omega]
    exact this
  have hov : ∀ lb cb, (callFunc 150 #[.slice (some ⟨vb, 0, none⟩) 1 1, .slice (some ⟨g, (i + 1) * 2, none⟩) lb cb]).run Tryz.prog w = .ok (.value (.bool false)) w := fun lb cb => by
    rw [run_callFunc_extern Tryz.func150 (by kernel_rfl) (by kernel_rfl) (by kernel_rfl) (e := Extern.SlicesOverlaps.overlaps #[50, 50] #[4]) (by kernel_rfl),
      Lib.run_overlaps_apart w 50 4 112 Tryz.underlying50 2 (fun w => by simp [Go.sizeOf, typeInfo, hi9, hz1]) ⟨vb, 0, none⟩ ⟨g, (i + 1) * 2, none⟩ 1 1 lb cb hvb TV 112 2 cur.size (by simp [World.shape?, hV]) (by simp [World.shape?, hg]) (by omega) (frozen_blk hV 0) (frozen_blk hV 2)]
    rfl
  have hcp1 : ∀ ty dc sc, (Builtin.copy_ #[50, 50] ty #[.slice (some ⟨g, (i + 1) * 2, none⟩) (n - i) dc, .slice (some ⟨g, i * 2, none⟩) (n + 1 - i) sc]).run Tryz.prog w.drew = .ok (goInt (Nat.min (n + 1 - i) (n - i))) (w.drew.setRow g cur1) := fun ty dc sc => by
    rw [hc1]
    exact run_copy_rowK w.drew _ _ ty 112 2 g ((i + 1) * 2) (n - i) dc ⟨g, i * 2, none⟩ (n + 1 - i) sc cur 112 cs Tryz.underlying50 hsi hg (by rw [hcl]; simp only [Nat.min_def]; split <;> omega) (hsrcc w.drew rfl) (by omega) h1c
  have hcp2 : ∀ W : World, W.heap = (w.drew.setRow g cur1).heap → ∀ ty dc, (Builtin.copy_ #[50, 50] ty #[.slice (some ⟨g, i * 2, none⟩) (n + 1 - i) dc, .slice (some ⟨vb, 0, none⟩) 1 1]).run Tryz.prog W = .ok (goInt (Nat.min 1 (n + 1 - i))) (W.setRow g cur2) := fun W hW ty dc => by
    rw [hc2]
    exact run_copy_rowK W _ _ ty 112 2 g (i * 2) (n + 1 - i) dc ⟨vb, 0, none⟩ 1 1 cur1 112 vs Tryz.underlying50 hsi (by rw [hW]; exact setRow_heap w.drew g cur cur1 112 _ hg) (by rw [hvl]; simp only [Nat.min_def]; split <;> omega) (hsrcv W (by rw [hW, setRow_other w.drew g vb cur1 hvb]; exact hV)) (by omega) h1v
  have HEND : Hid (∀ W : World, W.os = w.os → W.tape = w.tape → W.output = w.output → W.heap = (w.drew.setRow g cur1).heap → InsSays w R (.slice (some ⟨g, 0, none⟩) n cap) es i x (.returned (.slice (some ⟨g, 0, none⟩) (n + 1) cap)) (W.setRow g cur2)) := Lib.hid (fun W h1 h2 h3 h4 => by
    have hWg : W.heap[g]? = some (.cells cur1 112) := by rw [h4]; exact setRow_heap w.drew g cur cur1 112 _ hg
    refine ⟨_, rfl, ?_, ⟨h1, h2, h3, ?_, fun k hk hne => ?_⟩, .inl rfl⟩
    · unfold Ents
      rw [hRL, hRES]
      refine ⟨by simp only [List.length_append]; omega, .inr ⟨g, cap, cur2, rfl, hRg, setRow_heap W g cur1 cur2 112 _ hWg, hroom, by unfold maxLen; omega, hcz2, hT2⟩⟩
    · rw [setRow_size, h4, setRow_size]; exact Nat.le_refl _
    · have hkg : k ≠ g := fun e => hne (by rw [e]; rfl)
      rw [setRow_other W g k cur2 hkg, h4, setRow_other w.drew g k cur1 hkg]; rfl)
  have hz2' : ¬ ((i : Int) = (n : Int)) := by omega
  have hr2 : ¬ ((cap : Int) < (n : Int) + 1) := by omega
  have hb2 : ¬ (cap = i + 1) := by omega
  have hb4 : ¬ (cap = i) := by omega
  have htn : ((i : Int) + 1).toNat = i + 1 := by omega
  have mixed : Tryz.prog.follows Departure.mixedOrders = true := by kernel_rfl
  have hw1 : IntKind.i64.wrap ((i : Int) + 1) = (i : Int) + 1 := by rw [IntKind.wrap_i64]; omega
  have hb1 : (0 : Int) ≤ (i : Int) + 1 := by omega
  have hin : i ≤ n := by omega
  have hb3 : (i : Int) ≤ (n : Int) + 1 := by omega
  rw [← hnl]
  clear hE hV ht hAC hRES hRL hsrcv hsrcc hsrcA hT2 hc1 hc2 hcs hA hvs hxn hnl
  go_enter Tryz.func114, Tryz.ntmps114
  go_wp2_with (simp only [hov])
  go_region_law_o (refine step_copy_runI rfl _ _ 50 50 rfl _ _ (by simp [Act.eval, Act.put]) (by simp [Act.eval, Act.put]) (hcp1 _ _ _) ?_)
  go_wp2_with (at_builtin; refine wpList_copy_runI _ rfl _ _ 50 50 rfl _ _ rfl rfl (hcp2 _ rfl _ _) ?_)
  go_ret
  exact HEND.out _ rfl rfl rfl rfl

set_option maxHeartbeats 8000000 in
set_option maxRecDepth 100000 in
/-- Among the entries, where there is no room: a new row. -/
theorem insert_grow (es : List Ent) (g cap : Nat) (R : Nat) (i : Nat) (x : Ent) (vb : Nat) (TV : TypeId) (w : World) (hE : Ents w R (.slice (some ⟨g, 0, none⟩) es.length cap) es) (hR : R ≤ w.heap.size) (hi : i < es.length) (hroom : cap < es.length + 1) (hs : es.length ≤ 2097152) (hV : w.heap[vb]? = some (.cells #[.string (bs x.name), .int .i64 x.node] TV)) :
    Calls Tryz.prog 114 #[.slice (some ⟨g, 0, none⟩) es.length cap, .int .i64 i, .slice (some ⟨vb, 0, none⟩) 1 1] w fun e w' => InsSays w R (.slice (some ⟨g, 0, none⟩) es.length cap) es i x e w' := by
  obtain ⟨i9, hi9, hz0, hz1, hz2⟩ := info_ent
  have HE := Lib.hid hE
  obtain ⟨cur, hRg, hg, hn, hm, hsz, ht⟩ : ∃ cur, R ≤ g ∧ w.heap[g]? = some (.cells cur 112) ∧ es.length ≤ cap ∧ cap ≤ maxLen ∧ cur.size = cap * 2 ∧ cur.toList.take (es.length * 2) = entsV es := by
    rcases hE.2 with ⟨e, _⟩ | ⟨g2, c2, cur, e, h1, h2, h3, h4, h5, h6⟩
    · cases e
    · simp only [Value.slice.injEq, Option.some.injEq, Addr.mk.injEq, and_true, true_and] at e
      obtain ⟨rfl, rfl⟩ := e
      exact ⟨cur, h1, h2, h3, h4, h5, h6⟩
  obtain ⟨xn, hxn⟩ : ∃ xn, xn = bs x.name := ⟨_, rfl⟩
  rw [← hxn] at hV
  obtain ⟨n, hnl⟩ : ∃ n, n = es.length := ⟨_, rfl⟩
  obtain ⟨cs, hcs⟩ : ∃ cs, cs = entsV (es.drop i) := ⟨_, rfl⟩
  obtain ⟨A, hA⟩ : ∃ A, A = entsV (es.take i) := ⟨_, rfl⟩
  obtain ⟨vs, hvs⟩ : ∃ vs : List Value, vs = [.string xn, .int .i64 x.node] := ⟨_, rfl⟩
  have hcl : cs.length = (n - i) * 2 := by rw [hcs, entsV_len, List.length_drop, hnl]
  have hAl : A.length = i * 2 := by rw [hA, entsV_len, List.length_take]; omega
  have hvl : vs.length = 2 := by rw [hvs]; rfl
  have hAC : cur.toList.take (i * 2 + (n - i) * 2) = A ++ cs := by
    rw [show i * 2 + (n - i) * 2 = es.length * 2 by omega, ht, hA, hcs, ← entsV_app, List.take_append_drop]
  have h1c : ∀ v ∈ cs, v.oneCell' = true := by rw [hcs]; exact entsV_one _
  have h1A : ∀ v ∈ A, v.oneCell' = true := by rw [hA]; exact entsV_one _
  have h1v : ∀ v ∈ vs, v.oneCell' = true := by rw [hvs]; simp [Value.oneCell']
  have hRES : entsV (es.take i ++ x :: es.drop i) = A ++ vs ++ cs := by rw [entV_app, hA, hcs, hvs, hxn]
  have hRL : (es.take i ++ x :: es.drop i).length = n + 1 := by rw [ins_len (by omega), hnl]
  have hsrcv : ∀ W : World, W.heap[vb]? = some (.cells #[.string xn, .int .i64 x.node] TV) → ∀ j v, vs[j]? = some v → W.cell? ((⟨vb, 0, none⟩ : Addr).add j) = some v := fun W h => by rw [hvs]; exact cell_two_kept h
  have hsrcc : ∀ W : World, W.heap[g]? = w.heap[g]? → ∀ j v, cs[j]? = some v → W.cell? ((⟨g, i * 2, none⟩ : Addr).add j) = some v := fun W h j v hj => by
    rw [hcs] at hj
    have := ents_drop HE.out (Below.refl _ w) i j v hj
    rw [← this]
    exact World.cell?_of_block (by rw [addBlock]; exact h)
  have hsrcA : ∀ j v, A[j]? = some v → w.drew.cell? ((⟨g, 0, none⟩ : Addr).add j) = some v := fun j v hj => by
    rw [hA] at hj
    exact ents_take HE.out (Below.refl _ w).drew i j v hj
  have hgl : g < w.heap.size := lt_of_heap hg
  have hvl2 : vb < w.heap.size := lt_of_heap hV
  have hsi : (Tryz.prog.info? 112).map (·.size) = some 2 := by rw [hi9]; simp [hz1]
  unfold maxLen at hm
  rw [← hnl] at hn hi hs
  rw [← hnl] at hroom
  have hik : i + (n + 1 - i) = n + 1 := by omega
  have hkk : (n : Int) + 1 - (i : Int) = ((n + 1 - i : Nat) : Int) := by omega
  obtain ⟨G, hG⟩ : ∃ G, G = grownCap w (n + 1) cap 112 := ⟨_, rfl⟩
  obtain ⟨zc, hzc⟩ : ∃ zc, zc = (Value.agg #[.string ⟨#[]⟩, .int .i64 0]).cells := ⟨_, rfl⟩
  have hzl : zc.size = 2 := by rw [hzc]; rfl
  obtain ⟨ROW, hROW⟩ : ∃ ROW : Array Value, ROW = A.toArray ++ Builtin.zeroCells zc (n + 1 - i) ++ Builtin.zeroCells zc (G - (n + 1)) := ⟨_, rfl⟩
  have hGn : n + 1 ≤ G := by rw [hG]; exact grownCap_ge w _ _ _
  have hG63 : G ≤ maxLen := by rw [hG]; exact grownCap_le_maxLen w (n + 1) cap 112 (by unfold maxLen; omega)
  have hhold : (Builtin.firstCells i9.size i (.slice (some ⟨g, 0, none⟩) i cap)).run Tryz.prog w.drew = .ok A.toArray w.drew := by
    rw [hz1]
    exact run_firstCells_some w.drew 2 i ⟨g, 0, none⟩ i cap A hAl hsrcA
  have hrz : ∀ ty, (Builtin.append_ #[50, 3] ty #[.slice (some ⟨g, 0, none⟩) i cap, .int .i64 ((n : Int) + 1 - (i : Int))]).run Tryz.prog w = .ok (.slice (some ⟨w.heap.size, 0, none⟩) (n + 1) G) (w.drew.alloc (.cells ROW 112)) := fun ty => by
    have h := Lib.run_append_grow_zeros w 50 3 ty 112 i9 _ .i64 .i64 Tryz.underlying50 Tryz.underlying3 hi9 hz0 (some ⟨g, 0, none⟩) i cap A hhold (n + 1 - i) (by omega) (by omega) (by omega) (by omega) (by rw [hz2]; omega) (by rw [hz2, hik]; exact growslice_fits hroom (by omega))
    rw [hik, ← hG, ← hzc, ← hROW] at h
    rw [hkk]
    exact h
  have hRs : ROW.size = G * 2 := by
    rw [hROW]
    simp only [Array.size_append, List.size_toArray, size_zeroCells, hzl, hAl]
    omega
  have hRt : ROW.toList = A ++ (Builtin.zeroCells zc (n + 1 - i) ++ Builtin.zeroCells zc (G - (n + 1))).toList := by
    rw [hROW]; simp
  have hZl : (Builtin.zeroCells zc (n + 1 - i) ++ Builtin.zeroCells zc (G - (n + 1))).toList.length = (n + 1 - i) * 2 + (G - (n + 1)) * 2 := by
    simp only [Array.length_toList, Array.size_append, size_zeroCells, hzl]
  obtain ⟨N, hN⟩ : ∃ N, N = w.heap.size := ⟨_, rfl⟩
  rw [← hN] at hrz
  obtain ⟨cur1, hc1⟩ : ∃ cur1 : Array Value, cur1 = (ROW.toList.take (i * 2) ++ vs ++ ROW.toList.drop (i * 2 + vs.length)).toArray := ⟨_, rfl⟩
  have hcz1 : cur1.size = G * 2 := by
    rw [hc1]; simp only [List.size_toArray, List.length_append, List.length_take, List.length_drop, Array.length_toList]; omega
  obtain ⟨cur2, hc2⟩ : ∃ cur2 : Array Value, cur2 = (cur1.toList.take ((i + 1) * 2) ++ cs ++ cur1.toList.drop ((i + 1) * 2 + cs.length)).toArray := ⟨_, rfl⟩
  have hcz2 : cur2.size = G * 2 := by
    rw [hc2]; simp only [List.size_toArray, List.length_append, List.length_take, List.length_drop, Array.length_toList]; omega
  have hT2 : cur2.toList.take ((n + 1) * 2) = A ++ vs ++ cs := by
    have := ins_list2 (Z := (Builtin.zeroCells zc (n + 1 - i) ++ Builtin.zeroCells zc (G - (n + 1))).toList) hAl hvl hcl (by rw [hZl]; omega)
    rw [hc2, hc1, hRt]
    simp only [hcl, hvl] at this ⊢
    rw [show (n + 1) * 2 = i * 2 + (n - i) * 2 + 2 by omega, show (i + 1) * 2 = i * 2 + 2 by omega]
    exact this
  have hnew : (w.drew.alloc (.cells ROW 112)).heap[N]? = some (.cells ROW 112) := by rw [hN]; exact heap_alloc_new w.drew _
  have hnv : vb ≠ N := by omega
  have hng : g ≠ N := by omega
  have hcpA : ∀ W : World, W.heap = (w.drew.alloc (.cells ROW 112)).heap → ∀ ty dc, (Builtin.copy_ #[50, 50] ty #[.slice (some ⟨N, i * 2, none⟩) (n + 1 - i) dc, .slice (some ⟨vb, 0, none⟩) 1 1]).run Tryz.prog W = .ok (goInt (Nat.min 1 (n + 1 - i))) (W.setRow N cur1) := fun W hW ty dc => by
    rw [hc1]
    exact run_copy_rowK W _ _ ty 112 2 N (i * 2) (n + 1 - i) dc ⟨vb, 0, none⟩ 1 1 ROW 112 vs Tryz.underlying50 hsi (by rw [hW]; exact hnew) (by rw [hvl]; simp only [Nat.min_def]; split <;> omega) (hsrcv W (by rw [hW, Below.heap_alloc w.drew _ vb hvl2]; exact hV)) (by omega) h1v
  have hcpB : ∀ W : World, W.heap = ((w.drew.alloc (.cells ROW 112)).setRow N cur1).heap → ∀ ty dc sc, (Builtin.copy_ #[50, 50] ty #[.slice (some ⟨N, (i + 1) * 2, none⟩) (n - i) dc, .slice (some ⟨g, i * 2, none⟩) (n - i) sc]).run Tryz.prog W = .ok (goInt (Nat.min (n - i) (n - i))) (W.setRow N cur2) := fun W hW ty dc sc => by
    rw [hc2]
    exact run_copy_rowK W _ _ ty 112 2 N ((i + 1) * 2) (n - i) dc ⟨g, i * 2, none⟩ (n - i) sc cur1 112 cs Tryz.underlying50 hsi (by rw [hW]; exact setRow_heap _ N ROW cur1 112 _ hnew) (by rw [hcl]; simp only [Nat.min_def]; split <;> omega) (hsrcc W (by rw [hW, setRow_other _ N g cur1 hng, Below.heap_alloc w.drew _ g hgl]; rfl)) (by omega) h1c
  have HEND : Hid (∀ W : World, W.os = w.os → W.tape = w.tape → W.output = w.output → W.heap = ((w.drew.alloc (.cells ROW 112)).setRow N cur1).heap → InsSays w R (.slice (some ⟨g, 0, none⟩) n cap) es i x (.returned (.slice (some ⟨N, 0, none⟩) (n + 1) G)) (W.setRow N cur2)) := Lib.hid (fun W h1 h2 h3 h4 => by
    have hWg : W.heap[N]? = some (.cells cur1 112) := by rw [h4]; exact setRow_heap _ N ROW cur1 112 _ hnew
    refine ⟨_, rfl, ?_, ⟨h1, h2, h3, ?_, fun k hk hne => ?_⟩, .inr ⟨N, rfl, by omega⟩⟩
    · unfold Ents
      rw [hRL, hRES]
      refine ⟨by simp only [List.length_append]; omega, .inr ⟨N, G, cur2, rfl, by omega, setRow_heap W N cur1 cur2 112 _ hWg, hGn, hG63, hcz2, hT2⟩⟩
    · rw [setRow_size, h4, setRow_size, World.size_alloc]; exact Nat.le_succ _
    · have hkN : k ≠ N := by omega
      rw [setRow_other W N k cur2 hkN, h4, setRow_other _ N k cur1 hkN, Below.heap_alloc w.drew _ k hk]; rfl)
  have hz2' : ¬ ((i : Int) = (n : Int)) := by omega
  have hr2 : (cap : Int) < (n : Int) + 1 := by omega
  have hb2 : ¬ (G = i + 1) := by omega
  have hb4 : ¬ (G = i) := by omega
  have hb5 : ¬ (cap = i) := by omega
  have htn : ((i : Int) + 1).toNat = i + 1 := by omega
  have mixed : Tryz.prog.follows Departure.mixedOrders = true := by kernel_rfl
  have hw1 : IntKind.i64.wrap ((i : Int) + 1) = (i : Int) + 1 := by rw [IntKind.wrap_i64]; omega
  have hb1 : (0 : Int) ≤ (i : Int) + 1 := by omega
  have hin : i ≤ n := by omega
  have hb3 : (i : Int) ≤ (n : Int) := by omega
  unfold maxLen at hG63
  have hE1 : ((w.alloc (.cells ROW 112)).drew).heap = (w.drew.alloc (.cells ROW 112)).heap := rfl
  have hF1 : ((((w.alloc (.cells ROW 112)).drew).setRow N cur1).drew).heap = ((w.drew.alloc (.cells ROW 112)).setRow N cur1).heap := rfl
  rw [← hnl]
  clear hE hV ht hAC hRES hRL hsrcv hsrcc hsrcA hT2 hc1 hc2 hcs hA hvs hxn hnl hhold hRt hZl hROW hG hkk hik hzc hN
  go_enter Tryz.func114, Tryz.ntmps114
  go_wp2_with (first
    | (at_builtin; refine Lib.wpList_append_run _ rfl _ _ _ _ rfl _ _ rfl rfl _ _ (hrz _) ?_)
    | (at_builtin; refine wpList_copy_runI _ rfl _ _ 50 50 rfl _ _ rfl rfl (hcpA _ hE1 _ _) ?_))
  go_region_law_o (refine step_copy_runI rfl _ _ 50 50 rfl (.slice (some ⟨N, (i + 1) * 2, none⟩) (n - i) (G - (i + 1))) (.slice (some ⟨g, i * 2, none⟩) (n - i) (cap - i)) (by simp [Act.eval, Act.put]) (by simp [Act.eval, Act.put]) (hcpB _ hF1 _ _ _) ?_)
  go_wp2
  go_ret
  exact HEND.out _ rfl rfl rfl rfl

/-- slices.Insert of one entry at any place. -/
theorem insert_any (es : List Ent) (lv : Value) (R : Nat) (i : Nat) (x : Ent) (vb : Nat) (TV : TypeId) (w : World) (hE : Ents w R lv es) (hR : R ≤ w.heap.size) (hi : i ≤ es.length) (hs : es.length ≤ 2097152) (hV : w.heap[vb]? = some (.cells #[.string (bs x.name), .int .i64 x.node] TV)) (hvb : lv.ownBlock ≠ some vb) :
    Calls Tryz.prog 114 #[lv, .int .i64 i, .slice (some ⟨vb, 0, none⟩) 1 1] w fun e w' => InsSays w R lv es i x e w' := by
  rcases Nat.lt_or_ge i es.length with h | h
  · rcases owns_forms hE with ⟨rfl, h0⟩ | ⟨g, cap, rfl⟩
    · omega
    · rcases Nat.lt_or_ge cap (es.length + 1) with h2 | h2
      · exact insert_grow es g cap R i x vb TV w hE hR h h2 hs hV
      · exact insert_room es g cap R i x vb TV w hE h h2 hs hV (fun e => hvb (by rw [e]; rfl))
  · obtain rfl : i = es.length := by omega
    exact insert_end es lv R x vb TV w hE hR hs hV
end Go.Proofs.YtjomkjnpflebaaaGreatDoor


/-
  Names put into lists, as plain data, and what a file system weighs then.
  Conditions: as each states.
-/
namespace Go.Proofs.YtjomkjnpflebaaaGreatDoor
open Go.ChangeShapes Go.WideShapes Go.ChangeAt Go.RowKit Go.Joins
set_option linter.unusedVariables false
set_option linter.unusedSimpArgs false

/-- The list with one entry more. -/
def insE (es : List Ent) (x : Ent) : List Ent := es.take (posE es x.name) ++ x :: es.drop (posE es x.name)
theorem insE_len (es : List Ent) (x : Ent) : (insE es x).length = es.length + 1 := by
  have := posE_le es x.name
  unfold insE
  simp only [List.length_append, List.length_cons, List.length_take, List.length_drop]; omega
theorem lensE_app (a b : List Ent) : lensE (a ++ b) = lensE a + lensE b := by unfold lensE; simp
theorem insE_lens (es : List Ent) (x : Ent) : lensE (insE es x) = lensE es + x.name.length := by
  have h := lensE_app (es.take (posE es x.name)) (es.drop (posE es x.name))
  rw [List.take_append_drop] at h
  unfold insE
  rw [lensE_app, h]
  show _ + lensE ([x] ++ _) = _
  rw [lensE_app]
  have : lensE [x] = x.name.length := by simp [lensE]
  omega
theorem insE_mem {es : List Ent} {x e : Ent} (h : e ∈ insE es x) : e ∈ es ∨ e = x := by
  unfold insE at h
  rcases List.mem_append.1 h with h | h
  · exact .inl (List.mem_of_mem_take h)
  · rcases List.mem_cons.1 h with h | h
    · exact .inr h
    · exact .inl (List.mem_of_mem_drop h)
def putN (nm : List UInt8) (nd : Int) (t : Int) (n : Nod) : Nod := { n with list := insE n.list ⟨nm, nd⟩, time := t }
def putFs (f : FsD) (up : Nat) (nm : List UInt8) (nd t : Int) : FsD := ⟨f.nodes.set up (putN nm nd t (nodeAt f.nodes up)), f.room⟩
theorem szNs_set {ns : List Nod} {i : Nat} (h : i < ns.length) (q : Nod) : szNs (ns.set i q) + szN (nodeAt ns i) = szNs ns + szN q := by
  rw [show nodeAt ns i = ns[i] from getD_at h]
  unfold szNs
  induction ns generalizing i with
  | nil => simp at h
  | cons a r ih =>
    cases i with
    | zero => simp; omega
    | succ i =>
      have := ih (i := i) (by simpa using h)
      simp only [List.set_cons_succ, List.map_cons, List.sum_cons, List.getElem_cons_succ]
      omega
theorem putN_sz (nm : List UInt8) (nd t : Int) (n : Nod) : szN (putN nm nd t n) = szN n + 1 + nm.length := by
  unfold szN putN
  simp only [insE_len, insE_lens]
  omega
theorem putFs_sz {f : FsD} {up : Nat} {nm : List UInt8} {nd t : Int} (h : up < f.nodes.length) : szF (putFs f up nm nd t) = szF f + 1 + nm.length := by
  have h1 := szNs_set h (putN nm nd t (nodeAt f.nodes up))
  have h2 := putN_sz nm nd t (nodeAt f.nodes up)
  unfold szF putFs
  simp only [List.length_set]
  omega
theorem putFs_fit {f : FsD} {up : Nat} {nm : List UInt8} {nd t : Int} (h : up < f.nodes.length) (hf : NodsFit f.nodes) (hn : nm.length ≤ maxLen) : NodsFit (putFs f up nm nd t).nodes := by
  intro n hm
  rcases List.mem_or_eq_of_mem_set hm with h1 | rfl
  · exact hf _ h1
  · have h2 := hf (nodeAt f.nodes up) (by rw [show nodeAt f.nodes up = f.nodes[up] from getD_at h]; exact List.getElem_mem h)
    refine ⟨h2.1, fun e he => ?_⟩
    rcases insE_mem he with h3 | rfl
    · exact h2.2 e h3
    · exact hn
theorem name_len {p : List UInt8} (h : nameB p = true) : p.length ≤ 8 := by
  unfold nameB partB at h
  simp only [Bool.and_eq_true, decide_eq_true_eq] at h
  omega
theorem fp0_facts {f : FsD} (hF : LookFs f) {u g : Int} {l : List UInt8} {up : Nat} {nm : List UInt8} (h : fp0 f.nodes u g l = (0, up, nm)) : nameB nm = true ∧ up < f.nodes.length ∧ (nodeAt f.nodes up).kind = 2 := by
  unfold fp0 at h
  split at h
  · unfold plF4 at h
    split at h
    · rename_i h1 h2
      simp only [Prod.mk.injEq] at h
      obtain ⟨e1, e2, e3⟩ := h
      rw [if_pos e1] at e3
      subst e3
      refine ⟨h2.2, ?_⟩
      unfold dirW at e1 e2
      split at e1
      · rename_i k; exact absurd e1 k
      · split at e1
        · rename_i k; exact absurd e1 k
        · rename_i k1 k2
          rw [if_neg k1, if_neg k2] at e2
          simp only at e2
          subst e2
          refine ⟨lkFind_lt hF u g _ true, ?_⟩
          have k3 : dirC (nodeAt f.nodes (lkFind f.nodes u g (aheadL (cutD l)) true).2) u g 1 = 0 := by
            by_cases hz : dirC (nodeAt f.nodes (lkFind f.nodes u g (aheadL (cutD l)) true).2) u g 1 = 0
            · exact hz
            · exact absurd hz k2
          unfold dirC at k3
          split at k3
          · cases k3
          · rename_i k4
            exact Decidable.not_not.1 k4
    · simp at h
  · simp at h
/-- The file system of an answer: the one made, the one that came, or none. -/
def makF (ask : Bool) (c : Int) (G f : FsD) : FsD := if ask = true then (if c = 0 then G else f) else fs0
def makC (ask : Bool) (c : Int) : Int := if ask = true then c else 0
theorem makF_no {c : Int} {G f : FsD} : makF false c G f = fs0 := rfl
theorem makF_yes {G f : FsD} : makF true 0 G f = G := rfl
theorem makF_bad {c : Int} {G f : FsD} (h : c ≠ 0) : makF true c G f = f := by unfold makF; rw [if_pos rfl, if_neg h]
theorem cnt_small {F : FsD} (h : szF F ≤ 2097152) : cntM (F.nodes.map fun n => n.list.length) ≤ 80000000 := by
  have h1 := cnt_le F.nodes
  unfold szF at h
  omega
theorem makF_cnt {ask : Bool} {c : Int} {G f : FsD} (hf : szF f ≤ 1048576) (hG : ask = true → c = 0 → szF G ≤ 2097152) : cntM ((makF ask c G f).nodes.map fun n => n.list.length) ≤ 80000000 := by
  unfold makF
  split
  · split
    · exact cnt_small (hG (by assumption) (by assumption))
    · exact cnt_small (by omega)
  · exact Nat.zero_le _
theorem makF_fit {ask : Bool} {c : Int} {G f : FsD} (hf : NodsFit f.nodes) (hG : ask = true → c = 0 → NodsFit G.nodes) : NodsFit (makF ask c G f).nodes := by
  unfold makF
  split
  · split
    · exact hG (by assumption) (by assumption)
    · exact hf
  · intro n hn; cases hn
end Go.Proofs.YtjomkjnpflebaaaGreatDoor


/-
  A draft: a name put into a directory (putName).
  Conditions: at most 2^20 entries in the directory, 2^21 nodes.
-/
namespace Go.Proofs.YtjomkjnpflebaaaGreatDoor
open Go.ChangeShapes Go.WideShapes Go.ChangeAt Go.RowKit Go.Joins
set_option linter.unusedVariables false
set_option linter.unusedSimpArgs false

theorem own_not {w : World} {R : Nat} {T T' : TypeId} {sz n : Nat} {v : Value} {xs : List Value} {b : Nat} {cs : Array Value} (h : w.ownsRow R T sz v n xs) (hb : w.heap[b]? = some (.cells cs T')) (hT : T ≠ T') : v.ownBlock = none ∨ v.ownBlock ≠ some b := by
  rcases h.2 with ⟨rfl, _⟩ | ⟨g, cap, cur, rfl, _, hg, _⟩
  · exact .inl rfl
  · refine .inr fun e => ?_
    simp only [Value.ownBlock, Option.some.injEq] at e
    subst e
    rw [hg] at hb
    simp only [Option.some.injEq, Obj.cells.injEq] at hb
    exact hT hb.2.1
theorem ne_some {v : Value} {b : Nat} (h : v.ownBlock = none ∨ v.ownBlock ≠ some b) : some b ≠ v.ownBlock := by
  rcases h with h | h
  · rw [h]; simp
  · exact Ne.symm h
theorem bel_grown {w w' : World} {R : Nat} {v : Value} (hg : w.grownBy w' v.ownBlock) (hR : R ≤ w.heap.size) (hv : ∀ b, v.ownBlock = some b → R ≤ b) : Below R w w' :=
  ⟨hg.os, hg.tape, hg.output, hg.size, fun i hi => hg.block i (Nat.lt_of_lt_of_le hi hR) (fun e => by have := hv i e.symm; omega)⟩

set_option maxRecDepth 100000 in
set_option maxHeartbeats 8000000 in
theorem putName_any (f : FsD) (u g t : Int) (up : Nat) (nm : List UInt8) (y : Int) (hup : up < f.nodes.length) (hr : Rise (nodeAt f.nodes up).list) (hpl : f.nodes.length ≤ 2097152) (hll : (nodeAt f.nodes up).list.length ≤ 1048576)
    (d R : Nat) (nv : Value) (ps : List (Nod × Value)) (w : World) (hR : R ≤ w.heap.size) (hRd : R ≤ d) (hD : Drf w d R nv ps f u g t) :
    Calls Tryz.prog 79 #[.pointer (some ⟨d, 0, none⟩), .agg #[.int .i64 up, .string (bs nm)], .int .i64 y] w fun e w' => e = .returned (.tuple #[]) ∧ Below R w w' ∧ ∃ ps2, w'.heap[d]? = some (.cells #[nv, .int .i64 f.room, .int .i64 u, .int .i64 g, .int .i64 t] 89) ∧ ps2.map Prod.fst = (putFs f up nm y t).nodes ∧ Own w' R nv ps2 := by
  obtain ⟨oo, cc, rfl, -⟩ := owns_form hD.own.row
  have HD := Lib.hid hD
  have hul : up < ps.length := by rw [hD.len]; exact hup
  have hpl8 : ps.length ≤ 2097152 := by rw [hD.len]; exact hpl
  obtain ⟨G, cap, e0, hRG, hGl, hnc, hm, hc, hfr⟩ := hD.own.at hul
  simp only [Value.slice.injEq, true_and] at e0
  obtain ⟨rfl, rfl⟩ := e0
  have hq1 : ps[up].1 = nodeAt f.nodes up := at_map hD.map hul
  have HQ1 := Lib.hid hq1
  have hnm : nodeAt f.nodes up ∈ f.nodes := by rw [show nodeAt f.nodes up = f.nodes[up] from getD_at hup]; exact List.getElem_mem hup
  have HEA : Hid (EntsA w ps[up].2 (nodeAt f.nodes up).list) := Lib.hid (by rw [← hq1]; exact (hD.own.ent _ (List.getElem_mem hul)).readM (by rw [hq1]; exact (hD.fit _ hnm).2))
  have HNC : Hid (NodC w G (up * 7) ps[up].2 (nodeAt f.nodes up)) := Lib.hid (by rw [← hq1]; exact hc)
  have HEN : Hid (Ents w R ps[up].2 (nodeAt f.nodes up).list) := Lib.hid (by rw [← hq1]; exact hD.own.ent _ (List.getElem_mem hul))
  have HDG : Hid (d ≠ G) := Lib.hid (by
    have := ne_some (own_not hD.own.row hD.box (by decide))
    intro e; exact this (by rw [e]; rfl))
  have HDL : Hid (some d ≠ ps[up].2.ownBlock) := Lib.hid (ne_some (own_not HEN.out hD.box (by decide)))
  have HGL : Hid (some G ≠ ps[up].2.ownBlock) := Lib.hid (ne_some (ents_ne hD.own.row HEN.out rfl))
  have HRL : Hid (∀ b, ps[up].2.ownBlock = some b → R ≤ b ∧ b < w.heap.size) := Lib.hid (World.ownsRow.lt HEN.out)
  obtain ⟨xn, hxn⟩ : ∃ xn, xn = bs nm := ⟨_, rfl⟩
  have hxl : xn.data.toList = nm := by rw [hxn]; exact bs_list _
  obtain ⟨b, hb⟩ : ∃ b, b = isE (nodeAt f.nodes up).list nm := ⟨_, rfl⟩
  obtain ⟨k, hk⟩ : ∃ k, k = posE (nodeAt f.nodes up).list nm := ⟨_, rfl⟩
  have hkl : k ≤ (nodeAt f.nodes up).list.length := by rw [hk]; exact posE_le _ _
  have HEB : Hid (∀ W, Below w.heap.size w W → Calls Tryz.prog 113 #[.pointer (some ⟨G, up * 7, none⟩), .string xn] W fun e w' => e = .returned (.tuple #[.int .i64 (k : Nat), .bool b]) ∧ Below W.heap.size W w') := Lib.hid (fun W h => by
    have := entryByName_any (nodeAt f.nodes up) G (up * 7) _ xn W (Nat.lt_of_lt_of_le hGl h.size) (HNC.out.below h hGl) (HEA.out.below h) hll hr
    rw [hxl, ← hb, ← hk] at this
    exact this)
  have HKP := Lib.hid hk
  have HXN := Lib.hid hxn
  have HPS := Lib.hid hD.map
  rw [← hxn]
  have HK0 : Hid (Below w.heap.size w (w.alloc (.cells #[.int .i64 up, .string xn] 96))) := Lib.hid ((Below.refl _ _).alloc (Nat.le_refl _) _)
  have KB0 := Lib.hid (heap_alloc_new w (.cells #[.int .i64 up, .string xn] 96))
  obtain ⟨lv, hlv⟩ : ∃ lv, lv = ps[up].2 := ⟨_, rfl⟩
  rw [← hlv] at HEN HDL HGL HRL
  have HLV := Lib.hid hlv
  have x6 : w.cell? ⟨G, up * 7 + 6, none⟩ = some lv := by rw [hlv]; exact hc.c6
  obtain ⟨oe, ce, rfl, -⟩ := owns_form HEN.out
  clear hD hr hxl hxn hb hk hq1 hnm hlv hc
  go_enter Tryz.func79, Tryz.ntmps79
  have d0 : (w.alloc (.cells #[.int .i64 up, .string xn] 96)).cell? ⟨d, 0, none⟩ = some (.slice (some ⟨G, 0, none⟩) ps.length cc) := (cell_blk (blk_step HK0.out HD.out.box) 0).trans rfl
  have z0 := fun dd os => cell_regrown (w := w.alloc (.cells #[.int .i64 up, .string xn] 96)) d0 dd os
  have b0 : (w.alloc (.cells #[.int .i64 up, .string xn] 96)).cell? ⟨w.heap.size, 0, none⟩ = some (.int .i64 up) := (cell_blk KB0.out 0).trans rfl
  have z1 := fun dd os => cell_regrown (w := w.alloc (.cells #[.int .i64 up, .string xn] 96)) b0 dd os
  go_wp2
  refine wp_region_quiet_below (by kernel_rfl) (by kernel_rfl) ?_
  repeat (first | go_big_quiet_step (fail) | quiet_step (fail))
  refine wpQuiet_nil ?_
  intro w1 hwq
  have hb1 : Below (w.alloc (.cells #[.int .i64 up, .string xn] 96)).heap.size (w.alloc (.cells #[.int .i64 up, .string xn] 96)) w1 := by obtain ⟨pp, rfl⟩ := hwq; exact below_regrown _ _ _
  have HB1 := Lib.hid (bel_step HK0.out hb1)
  have KB1 := Lib.hid (blk_step hb1 KB0.out)
  have c1 : w1.cell? ⟨w.heap.size, 1, none⟩ = some (.string xn) := (cell_blk KB1.out 1).trans rfl
  clear hwq hb1 d0 z0 b0 z1
  go_wp2_with fail
  refine (HEB.out _ HB1.out).mono ?_
  rintro e w2 ⟨rfl, hb2⟩
  have HB2 := Lib.hid (bel_step HB1.out hb2)
  have KB2 := Lib.hid (blk_step hb2 KB1.out)
  have c2 : w2.cell? ⟨w.heap.size, 1, none⟩ = some (.string xn) := (cell_blk KB2.out 1).trans rfl
  have e2 : w2.cell? ⟨G, up * 7 + 6, none⟩ = some (Value.slice oe (nodeAt f.nodes up).list.length ce) := (HB2.out.cell (p := ⟨G, up * 7 + 6, none⟩) hGl).trans x6
  have KD2 := Lib.hid (blk_step HB2.out HD.out.box)
  have HO2 := Lib.hid (HD.out.own.below HB2.out)
  have HE2 : Hid (Ents w2 R (Value.slice oe (nodeAt f.nodes up).list.length ce) (nodeAt f.nodes up).list) := Lib.hid (by
    have := HO2.out.ent _ (List.getElem_mem hul)
    rw [HQ1.out, ← HLV.out] at this
    exact this)
  clear hb2 c1
  obtain ⟨W, hW⟩ : ∃ W, W = w2.alloc (.cells #[.string xn, .int .i64 y] 112) := ⟨_, rfl⟩
  have hR2 : R ≤ w2.heap.size := Nat.le_trans hR HB2.out.size
  have HIN : Hid (∀ W' : World, W'.heap = W.heap → W'.os = w2.os → W'.tape = w2.tape → W'.output = w2.output → Calls Tryz.prog 114 #[.slice oe (nodeAt f.nodes up).list.length ce, .int .i64 k, .slice (some ⟨w2.heap.size, 0, none⟩) 1 1] W' fun e w' => ∃ o3 n3 c3, e = .returned (.slice o3 n3 c3) ∧ Ents w' R (.slice o3 n3 c3) (insE (nodeAt f.nodes up).list ⟨nm, y⟩) ∧ w2.grownBy w' (Value.slice oe (nodeAt f.nodes up).list.length ce).ownBlock ∧ ((Value.slice o3 n3 c3).ownBlock = (Value.slice oe (nodeAt f.nodes up).list.length ce).ownBlock ∨ ∃ b, (Value.slice o3 n3 c3).ownBlock = some b ∧ w2.heap.size ≤ b)) := Lib.hid (fun W' h1 h2 h3 h4 => by
    have hWs : W'.heap.size = w2.heap.size + 1 := by rw [h1, hW, World.size_alloc]
    have hup2 : ∀ i, i < w2.heap.size → W'.heap[i]? = w2.heap[i]? := fun i hi => by rw [h1, hW]; exact Below.heap_alloc w2 _ i hi
    have hEW : Ents W' R (Value.slice oe (nodeAt f.nodes up).list.length ce) (nodeAt f.nodes up).list := by
      refine World.ownsRow.kept HE2.out (row := none) ⟨h2, h3, h4, by omega, fun i hi _ => hup2 i hi⟩ ?_
      cases hq : (Value.slice oe (nodeAt f.nodes up).list.length ce).ownBlock with
      | none => exact .inl rfl
      | some b => exact .inr (by simp)
    have hV : W'.heap[w2.heap.size]? = some (.cells #[.string (bs nm), .int .i64 y] 112) := by rw [h1, hW, HXN.out]; exact heap_alloc_new w2 _
    refine (insert_any (nodeAt f.nodes up).list _ R k ⟨nm, y⟩ w2.heap.size 112 W' hEW (by omega) hkl (by omega) hV (fun e => by have := HRL.out _ e; have := HB2.out.size; omega)).mono ?_
    rintro e w' ⟨v', rfl, h5, h6, h7⟩
    obtain ⟨o3, c3, rfl, -⟩ := owns_form h5
    refine ⟨o3, _, c3, rfl, (by show Ents w' R _ ((nodeAt f.nodes up).list.take (posE (nodeAt f.nodes up).list nm) ++ ⟨nm, y⟩ :: (nodeAt f.nodes up).list.drop (posE (nodeAt f.nodes up).list nm)); rw [← HKP.out]; exact h5), ⟨h6.os.trans h2, h6.tape.trans h3, h6.output.trans h4, Nat.le_trans (by omega) h6.size, fun i hi hne => (h6.block i (by omega) hne).trans (hup2 i hi)⟩, ?_⟩
    rcases h7 with h7 | ⟨b, h7, h8⟩
    · exact .inl h7
    · exact .inr ⟨b, h7, by omega⟩)
  have HWa : Hid ((w2.drew.alloc (.cells #[.string xn, .int .i64 y] 112)).heap = W.heap) := Lib.hid (by rw [hW]; rfl)
  have HWb : Hid (((w2.alloc (.cells #[.string xn, .int .i64 y] 112)).drew).heap = W.heap) := Lib.hid (by rw [hW]; rfl)
  have HGf : Hid (∀ j, w2.frozen? ⟨G, j, none⟩ = false) := Lib.hid (fun j => (World.frozen?_of_block (HB2.out.block G hGl)).trans (hfr j))
  have e2z := fun oo => cell_more (o := oo) e2
  have c2z := fun oo => cell_more (o := oo) c2
  clear hW hfr
  go_wp2
  go_region_with (first
    | (go_at_call 114; (with_reducible refine (HIN.out _ HWa.out rfl rfl rfl).mono ?_); rintro e w3 ⟨o3, n3, c3, rfl, hE3, hg3, hv3⟩; have HE3 := Lib.hid hE3; have HG3 := Lib.hid hg3; have HV3 := Lib.hid hv3; have k6 : w3.cell? ⟨G, up * 7 + 6, none⟩ = some (Value.slice oe (nodeAt f.nodes up).list.length ce) := hg3.cell e2 HGL.out; have kf : w3.frozen? ⟨G, up * 7 + 6, none⟩ = false := (World.frozen?_of_block (hg3.block G (Nat.lt_of_lt_of_le hGl HB2.out.size) HGL.out)).trans (HGf.out _); clear hE3 hg3 hv3)
    | (go_at_call 114; (with_reducible refine (HIN.out _ HWb.out rfl rfl rfl).mono ?_); rintro e w3 ⟨o3, n3, c3, rfl, hE3, hg3, hv3⟩; have HE3 := Lib.hid hE3; have HG3 := Lib.hid hg3; have HV3 := Lib.hid hv3; have k6 : w3.cell? ⟨G, up * 7 + 6, none⟩ = some (Value.slice oe (nodeAt f.nodes up).list.length ce) := hg3.cell e2 HGL.out; have kf : w3.frozen? ⟨G, up * 7 + 6, none⟩ = false := (World.frozen?_of_block (hg3.block G (Nat.lt_of_lt_of_le hGl HB2.out.size) HGL.out)).trans (HGf.out _); clear hE3 hg3 hv3))
  all_goals
    have HOW := Lib.hid (HO2.out.list hul (lv' := .slice o3 n3 c3) (es' := insE (nodeAt f.nodes up).list ⟨nm, y⟩) (by rw [← HLV.out]; exact HG3.out) HE3.out (by rw [← HLV.out]; exact HV3.out))
    have KDs : Hid ((w3.setCell ⟨G, up * 7 + 6, none⟩ (.slice o3 n3 c3)).heap[d]? = some (.cells #[.slice (some ⟨G, 0, none⟩) ps.length cc, .int .i64 f.room, .int .i64 u, .int .i64 g, .int .i64 t] 89)) := Lib.hid ((Below.heap_setCell w3 ⟨G, up * 7 + 6, none⟩ _ _ HDG.out).trans ((HG3.out.block d (lt_of_heap KD2.out) HDL.out).trans KD2.out))
    have HBs : Hid (Below R w (w3.setCell ⟨G, up * 7 + 6, none⟩ (.slice o3 n3 c3))) := Lib.hid (((HB2.out.mono hR).trans (bel_grown HG3.out hR2 (fun b hb => (HRL.out b hb).1))).setCell (p := ⟨G, up * 7 + 6, none⟩) hRG _)
    obtain ⟨W4, hW4⟩ : ∃ W4, W4 = w3.setCell ⟨G, up * 7 + 6, none⟩ (.slice o3 n3 c3) := ⟨_, rfl⟩
    rw [← hW4] at HOW KDs HBs ⊢
    clear hW4 k6 kf
    obtain ⟨qs, hqs⟩ : ∃ qs, qs = ps.set up ({ ps[up].1 with list := insE (nodeAt f.nodes up).list ⟨nm, y⟩ }, Value.slice o3 n3 c3) := ⟨_, rfl⟩
    have hql : qs.length = ps.length := by rw [hqs]; simp
    rw [← hqs, ← hql] at HOW
    rw [← hql] at KDs
    have hqu : up < qs.length := by omega
    have hql9 : qs.length ≤ 2097152 := by omega
    have HQL := Lib.hid hql
    clear hql
    have hq9 : qs[up]'hqu = ({ ps[up].1 with list := insE (nodeAt f.nodes up).list ⟨nm, y⟩ }, Value.slice o3 n3 c3) := by simp [hqs]
    obtain ⟨g8, cap8, e8, hRg8, hgl8, hn8, hm8, hc8, hfr8⟩ := HOW.out.at (i := up) hqu
    simp only [Value.slice.injEq, Option.some.injEq, Addr.mk.injEq, and_true, true_and] at e8
    obtain ⟨rfl, rfl⟩ := e8
    have x4 := hc8.c4
    have y4 : W4.cell? ⟨d, 4, none⟩ = some (.int .i64 t) := (cell_blk KDs.out 4).trans rfl
    have HWT := Lib.hid (HOW.out.turn (i := up) (j := 4) hqu (by decide) (.int .i64 t) { (qs[up]'hqu).1 with time := t } rfl rfl)
    have hMP : (qs.set up ({ (qs[up]'hqu).1 with time := t }, (qs[up]'hqu).2)).map Prod.fst = (putFs f up nm y t).nodes := by
      rw [List.map_set, hq9, hqs, List.map_set, HPS.out, HQ1.out]
      simp [putFs, putN]
    have HMP := Lib.hid hMP
    have KD5 : Hid ((W4.setCell ⟨G, up * 7 + 4, none⟩ (.int .i64 t)).heap[d]? = some (.cells #[.slice (some ⟨G, 0, none⟩) qs.length cc, .int .i64 f.room, .int .i64 u, .int .i64 g, .int .i64 t] 89)) := Lib.hid ((Below.heap_setCell W4 ⟨G, up * 7 + 4, none⟩ _ _ HDG.out).trans KDs.out)
    have HB5 : Hid (Below R w (W4.setCell ⟨G, up * 7 + 4, none⟩ (.int .i64 t))) := Lib.hid (HBs.out.setCell (p := ⟨G, up * 7 + 4, none⟩) hRG _)
    clear hqs hq9 hc8 hMP
    go_wp2
    go_end0
    have HKF : Hid ((W4.setCell ⟨G, up * 7 + 4, none⟩ (.int .i64 t)).heap[d]? = some (.cells #[.slice (some ⟨G, 0, none⟩) ps.length cc, .int .i64 f.room, .int .i64 u, .int .i64 g, .int .i64 t] 89)) := Lib.hid (by rw [← HQL.out]; exact KD5.out)
    have h9 := HWT.out
    rw [HQL.out] at h9
    first
      | exact ⟨rfl, HB5.out, HKF.out, _, HMP.out, h9⟩
      | exact ⟨rfl, HB5.out, _, HKF.out, HMP.out, h9⟩
end Go.Proofs.YtjomkjnpflebaaaGreatDoor
