/-
  Contracts of impl.isWhole and impl.cleanParts.
  Conditions: a text of at most 2^30 bytes.
-/
import Derived.Test.YtpdnhaaedibbaaaListD
import Derived.Test.YtpdnhaaedibbaaaGoodC
import Derived.Test.YtpdnhaaedibbaaaShelf
namespace Go.Proofs.Ytpdnhaaedibbaaa
open Go.RowKit Go.Shelf
set_option linter.unusedVariables false
attribute [local go_sem] Oper.semAt_some

theorem whole_pre (l : List UInt8) : Lib.hasPrefix l [47] = wholeB l := by
  unfold Lib.hasPrefix wholeB
  cases l with
  | nil => rfl
  | cons c r =>
    by_cases h : c = 47
    · subst h; rfl
    · have h2 : ((47 : UInt8) == c) = false := by simpa using fun e => h e.symm
      simp [List.isPrefixOf, h2, h]

set_option maxHeartbeats 400000 in
theorem isWhole_any (s : ByteArray) (w : World) : Calls Try.prog 52 #[.string s] w fun e w' => e = .returned (.bool (wholeB s.data.toList)) ∧ w = w' := by
  go_enter Try.func52, Try.ntmps52
  go_wp2_with (go_at_call 80; refine (Try.strings_HasPrefix _ _ _).mono ?_; rintro e w' ⟨rfl, rfl⟩)
  go_ret
  exact ⟨ret_bool (whole_pre _), rfl⟩

/-- A box below the rows' base is no row. -/
theorem boxed_row {W w1 : World} {R b : Nat} {t : TypeId} {u v : Value} {e : TypeId} {k : Nat} {xs : List Value} {tmp : Obj} (h : Boxed W b t u) (hb : b < R) (hr : W.ownsRow R e 1 v k xs) (hg : (W.alloc tmp).grownBy w1 v.ownBlock) : Boxed w1 b t u := by
  refine (h.alloc tmp).kept hg ?_
  rcases hr.2 with ⟨rfl, _⟩ | ⟨g, cap, cur, rfl, hgb, _, _⟩
  · simp [Value.ownBlock]
  · simp [Value.ownBlock]; omega
/-- What stands behind 'out = append(out, x)', out in box b, the rows from R on. -/
theorem app_box {W w1 : World} {n₀ R b : Nat} {t : TypeId} {v v' : Value} {k m : Nat} {xs ys : List Value} {tmp : Obj}
    (hv : Boxed W b t v) (hrow : W.ownsRow R 9 1 v k xs) (hR : R ≤ W.heap.size) (hb : b < R) (hn : n₀ ≤ b)
    (hown' : w1.ownsRow R 9 1 v' m ys) (hgrow : (W.alloc tmp).grownBy w1 v.ownBlock) :
    Boxed (w1.setCell ⟨b, 0, none⟩ v') b t v' ∧ (w1.setCell ⟨b, 0, none⟩ v').ownsRow R 9 1 v' m ys ∧ KeepsOthers W (w1.setCell ⟨b, 0, none⟩ v') ∧ Below n₀ W (w1.setCell ⟨b, 0, none⟩ v') := by
  have hv1 : Boxed w1 b t v := boxed_row hv hb hrow hgrow
  refine ⟨hv1.set v', hown'.kept (grownBy_setCell' w1 b v') ?_, ?_, ?_⟩
  · rcases hown'.2 with ⟨rfl, _⟩ | ⟨g, cap, cur, rfl, hgb, _, _⟩
    · exact .inl rfl
    · refine .inr ?_; simp [Value.ownBlock]; omega
  · refine ((KeepsOthers.alloc W tmp).trans (KeepsOthers.of_grownBy hgrow fun j o ej hj => ?_)).trans (KeepsOthers.setCell _ _ _)
    rcases (hrow.alloc tmp).2 with ⟨rfl, _⟩ | ⟨g, cap, cur, rfl, _, hgb, _⟩
    · simp [Value.ownBlock] at ej
    · obtain rfl : g = j := by simpa [Value.ownBlock] using ej
      rw [hgb] at hj; cases hj; rfl
  · refine (((Below.refl n₀ W).alloc (by omega) tmp).grown hgrow (by simp; omega) fun j ej => ?_).setCell (p := ⟨b, 0, none⟩) hn v'
    rcases hrow.2 with ⟨rfl, _⟩ | ⟨g, cap, cur, rfl, hgb, _, _⟩
    · simp [Value.ownBlock] at ej
    · obtain rfl : g = j := by simpa [Value.ownBlock] using ej
      omega
/-- What stands behind a store of a shorter part of the same row. -/
theorem cut_row {W : World} {R g cap : Nat} {ps : List (List UInt8)} {p : List UInt8} (h : Lst W R (.slice (some ⟨g, 0, none⟩) (ps.length + 1) cap) (ps ++ [p])) : Lst W R (.slice (some ⟨g, 0, none⟩) ps.length cap) ps := by
  rcases h with ⟨hl, ⟨e, _⟩ | ⟨g', cap', cur, e, hB, hg, hn, hm, hs, ht⟩⟩
  · simp at e
  · simp only [Value.slice.injEq, Option.some.injEq, Addr.mk.injEq, and_true] at e
    obtain ⟨rfl, _, rfl⟩ := e
    refine ⟨by simp [strs], .inr ⟨_, _, cur, rfl, hB, hg, by simp at hn; omega, hm, hs, ?_⟩⟩
    have := congrArg (List.take ps.length) ht
    simp only [List.take_take, List.length_append, List.length_cons, List.length_nil, Nat.mul_one] at this
    rw [Nat.min_eq_left (by omega)] at this
    rw [Nat.mul_one, this]
    simp [strs]
theorem row_set {W : World} {R b : Nat} {v u : Value} {ps : List (List UInt8)} (h : Lst W R v ps) (hb : b < R) : Lst (W.setCell ⟨b, 0, none⟩ u) R v ps := by
  refine World.ownsRow.kept h (grownBy_setCell' W b u) ?_
  rcases h.2 with ⟨rfl, _⟩ | ⟨g, cap, cur, rfl, hgb, _, _⟩
  · exact .inl rfl
  · refine .inr ?_; simp [Value.ownBlock]; omega
/-- A list with an element is written out, and its last one can be read. -/
theorem lst_last {W : World} {R : Nat} {v : Value} {ps : List (List UInt8)} {p : List UInt8} (h : Lst W R v (ps ++ [p])) : ∃ g cap, v = .slice (some ⟨g, 0, none⟩) (ps.length + 1) cap ∧ ps.length + 1 ≤ cap ∧ cap ≤ maxLen ∧ W.cell? ⟨g, ps.length, none⟩ = some (.string (bs p)) := by
  obtain ⟨o, c, e, hlc, hcm, hH⟩ := h.read
  obtain ⟨g, off, rfl, hg, hc⟩ := hH ps.length (by simp)
  rcases h.2 with ⟨e', _⟩ | ⟨g', cap, cur, e', _⟩
  · rw [e] at e'; cases e'
  · rw [e] at e'
    simp only [Value.slice.injEq, Option.some.injEq, Addr.mk.injEq, and_true] at e'
    obtain ⟨⟨rfl, rfl⟩, _, rfl⟩ := e'
    refine ⟨g, c, by rw [e]; simp, by simpa using hlc, hcm, ?_⟩
    simpa using hc

/-- What has been kept of the parts that came. -/
def keptOf (wh : Bool) (xs : List ByteArray) : List (List UInt8) := clean wh (xs.map fun x => x.data.toList)
theorem keptOf_snoc (wh : Bool) (xs : List ByteArray) (x : ByteArray) : keptOf wh (xs ++ [x]) = clStep wh (keptOf wh xs) x.data.toList := by simp [keptOf, clean_snoc]
theorem keptOf_parts (wh : Bool) (ps : List (List UInt8)) : keptOf wh (ps.map bs) = clean wh ps := by
  unfold keptOf
  rw [List.map_map]
  congr 1
  conv => rhs; rw [← List.map_id ps]
  exact List.map_congr_left fun p _ => bs_list p
theorem clStep_le (wh : Bool) (st : List (List UInt8)) (p : List UInt8) : (clStep wh st p).length ≤ st.length + 1 := by
  unfold clStep; repeat' split
  all_goals simp
  all_goals omega
theorem keptOf_le (wh : Bool) (xs : List ByteArray) : (keptOf wh xs).length ≤ xs.length := by
  unfold keptOf clean
  have : ∀ (l : List ByteArray) (st : List (List UInt8)), ((l.map fun x => x.data.toList).foldl (clStep wh) st).length ≤ st.length + l.length := by
    intro l
    induction l with
    | nil => intro st; simp
    | cons x l ih => intro st; have := ih (clStep wh st x.data.toList); have := clStep_le wh st x.data.toList; simp only [List.map_cons, List.foldl_cons, List.length_cons]; omega
  simpa using this xs []

theorem cl_dot (wh : Bool) (st : List (List UInt8)) : clStep wh st [46] = st := by simp [clStep]
theorem cl_name (wh : Bool) (st : List (List UInt8)) {p : List UInt8} (h1 : p ≠ [46]) (h2 : p ≠ [46, 46]) : clStep wh st p = st ++ [p] := by simp [clStep, h1, h2]
theorem cl_pop (wh : Bool) (st : List (List UInt8)) {p : List UInt8} (h : p ≠ [46, 46]) : clStep wh (st ++ [p]) [46, 46] = st := by simp [clStep, h]
theorem cl_stay (wh : Bool) (st : List (List UInt8)) : clStep wh (st ++ [[46, 46]]) [46, 46] = if wh then st ++ [[46, 46]] else st ++ [[46, 46]] ++ [[46, 46]] := by simp [clStep]
theorem cl_none (wh : Bool) : clStep wh [] [46, 46] = if wh then [] else [[46, 46]] := by simp [clStep]
theorem snoc_of {α : Type} (l : List α) : l = [] ∨ ∃ m x, l = m ++ [x] := by
  rcases List.eq_nil_or_concat l with h | ⟨m, x, h⟩
  · exact .inl h
  · exact .inr ⟨m, x, by simpa using h⟩
theorem bytes_neq {x : ByteArray} {q : List UInt8} (h : x ≠ bs q) : (x.toList == q) = false := by
  rw [ByteArray.toList_eq]
  have : x.data.toList ≠ q := fun e => h (by rw [← e, bs_of])
  simpa using this

set_option maxRecDepth 100000 in
set_option maxHeartbeats 4000000 in
theorem cleanParts_any (s : ByteArray) (w : World) (hs : s.size ≤ 1073741824) : Calls Try.prog 51 #[.string s] w fun e w' => ∃ v, e = .returned v ∧ Lst w' w.heap.size v (cleanOf s.data.toList) ∧ Below w.heap.size w w' := by
  obtain ⟨i0, hi, hz0, hz1, hz2⟩ := info_parts strInfo
  have hpl := parts_le s.data.toList
  rw [len_size] at hpl
  refine (callsIn_wide (n := 6)).1 ?_
  refine callsIn_of_wp_marks Try.func51 rfl trivial ?_ rfl
  simp only [Try.ntmps51, List.size_toArray, List.length_cons, List.length_nil, Nat.reduceAdd, Nat.reduceSub, Array.replicate_succ, Array.replicate_zero, List.push_toArray, List.append_toArray, List.nil_append, List.cons_append]
  gi_wp2_with (refine ⟨trivial, ?_⟩; gi_at_call 58; refine (partsIn_in Fence.wide _ trivial rfl _ _).mono ?_; rintro e w' ⟨rfl, rfl⟩)
  have bS := Boxed.new w 9 (.string s)
  have bK := Boxed.new (w.alloc (.cells #[.string s] 9)) 28 (.slice none 0 0)
  have bI := Boxed.new ((w.alloc (.cells #[.string s] 9)).alloc (.cells #[.slice none 0 0] 28)) 9 (.string s)
  simp only [World.size_alloc] at bK bI
  obtain ⟨W0, hW0⟩ : ∃ W0, ((w.alloc (.cells #[.string s] 9)).alloc (.cells #[.slice none 0 0] 28)).alloc (.cells #[.string s] 9) = W0 := ⟨_, rfl⟩
  have hsz : W0.heap.size = w.heap.size + 1 + 1 + 1 := by rw [← hW0]; simp
  have hB0 : Below w.heap.size w W0 := by rw [← hW0]; exact (((Below.refl _ w).alloc (Nat.le_refl _) _).alloc (by simp) _).alloc (by simp; omega) _
  have bS0 : Boxed W0 w.heap.size 9 (.string s) := by rw [← hW0]; exact (bS.alloc _).alloc _
  have bK0 : Boxed W0 (w.heap.size + 1) 28 (.slice none 0 0) := by rw [← hW0]; exact bK.alloc _
  have bI0 : Boxed W0 (w.heap.size + 1 + 1) 9 (.string s) := by rw [← hW0]; exact bI
  rw [hW0]
  clear bS bK bI hW0
  refine wpIn_rangeFunc_ownF rfl (by omega) (gf := 83) (lb := #[.pointer (some ⟨w.heap.size + 1 + 1, 0, none⟩)]) rfl trivial (enters_of Try.func83 (by kernel_rfl) rfl)
    (iter_stops Fence.wide (6 - 1) trivial rfl (by omega) (w.heap.size + 1 + 1) s (by unfold maxLen; omega) W0 (by omega) bI0.cell) kpB_t (kpB_b (by omega)) (Below.refl _ _) (fun _ => rfl)
    (fun pre W => ((∃ v, Boxed W (w.heap.size + 1) 28 v ∧ W.ownsRow (w.heap.size + 3) 9 1 v (keptOf (wholeB s.data.toList) pre).length (strs (keptOf (wholeB s.data.toList) pre)) ∧ True) ∧ Boxed W w.heap.size 9 (.string s) ∧ Boxed W (w.heap.size + 1 + 1) 9 (.string s)) ∧ Below w.heap.size w W)
    (fun _ _ _ => False)
    (OwnFrom.and (OwnFrom.and (Own.from (holdsRow_own (w.heap.size + 3) (w.heap.size + 1) 28 9 1 (fun pre => (keptOf (wholeB s.data.toList) pre).length) (fun pre => strs (keptOf (wholeB s.data.toList) pre)) (fun _ _ => True)) _) (OwnFrom.and (Own.from (boxed_own _ _ _) _) (Own.from (boxed_own _ _ _) _))) (ownFrom_below (Nat.le_refl _) (by omega)))
    (fun _ _ _ _ _ hs _ _ => hs)
    ⟨⟨⟨_, bK0, World.ownsRow_nil _ _ _ _, trivial⟩, bS0, bI0⟩, hB0⟩
    ?a1 ?assign ?body ?done ?stop
  case assign =>
    intro l x W K hK
    gi_wp2
    exact hK
  case body =>
    rintro l pre x W ⟨⟨⟨v, hv, hrow0, _⟩, hbS, hbI⟩, hB⟩ hlt
    have hrow : Lst W (w.heap.size + 3) v (keptOf (wholeB s.data.toList) pre) := hrow0
    clear hrow0
    have hkl := keptOf_le (wholeB s.data.toList) pre
    have HST := Lib.hid (keptOf_snoc (wholeB s.data.toList) pre x)
    obtain ⟨cs, hcs⟩ : ∃ cs, cs = keptOf (wholeB s.data.toList) pre := ⟨_, rfl⟩
    rw [← hcs] at hrow hkl HST
    clear hcs
    have hsW : w.heap.size + 3 ≤ W.heap.size := by have := hbI.lt; omega
    have hcS := hbS.cell
    have hcK := hv.cell
    have hfK := hv.frozen
    by_cases h1 : x = bs [46]
    · subst h1
      have HE : Hid (keptOf (wholeB s.data.toList) (pre ++ [bs [46]]) = cs) := Lib.hid (by rw [HST.out, bs_list, cl_dot])
      unfold bs at HE ⊢
      gi_wp2
      exact ⟨KeepsOthers.refl _, ⟨KeepsWalks.refl _, rfl⟩, ⟨⟨v, hv, by rw [HE.out]; exact hrow, trivial⟩, hbS, hbI⟩, hB⟩
    · by_cases h2 : x = bs [46, 46]
      · subst h2
        rw [bs_list] at HST
        rcases snoc_of cs with rfl | ⟨ds, d, rfl⟩
        · obtain ⟨o, c, e0, _, _, _⟩ := hrow.read
          simp only [List.length_nil] at e0
          subst e0
          have hrow2 : W.ownsRow (w.heap.size + 3) 9 1 (.slice o 0 c) 0 [] := hrow
          by_cases hw : wholeB s.data.toList = true
          · have HE : Hid (keptOf (wholeB s.data.toList) (pre ++ [bs [46, 46]]) = []) := Lib.hid (by rw [HST.out, cl_none, hw]; rfl)
            have HW := Lib.hid hw
            clear hw h1 HST
            unfold bs at HE ⊢
            gi_wp2_with (refine ⟨trivial, ?_⟩; gi_at_call 52; refine (CallsIn.inRound l (callsIn_wide.2 (isWhole_any _ _))).mono ?_; rintro e w' ⟨rfl, rfl⟩; rw [HW.out])
            exact ⟨KeepsOthers.refl _, ⟨KeepsWalks.refl _, rfl⟩, ⟨⟨_, hv, by rw [HE.out]; exact hrow, trivial⟩, hbS, hbI⟩, hB⟩
          · have HW := Lib.hid (show wholeB s.data.toList = false by simpa using hw)
            have HE : Hid (keptOf (wholeB s.data.toList) (pre ++ [bs [46, 46]]) = [] ++ [[46, 46]]) := Lib.hid (by rw [HST.out, cl_none, HW.out]; rfl)
            clear hw h1 HST
            unfold bs at HE ⊢
            gi_wp2_with (first | (refine ⟨trivial, ?_⟩; gi_at_call 52; refine (CallsIn.inRound l (callsIn_wide.2 (isWhole_any _ _))).mono ?_; rintro e w' ⟨rfl, rfl⟩; rw [HW.out]) | (gi_at_builtin; refine wpListIn_append_own _ rfl _ _ 28 rfl (w.heap.size + 3) 9 i0 (.string ⟨#[]⟩) 1 16 Try.underlying28 hi hz0 hz1 hz2 rfl (by decide) _ _ _ rfl (hrow2.alloc _) ⟨W.heap.size, 0, none⟩ 1 1 [.string ⟨#[46, 46]⟩] rfl rfl (cell_one_new _ _ _) (by simp [Value.oneCell']) (by unfold maxLen; omega) (by omega) (by simp; omega) ?_; intro v' w1 hown' hgrow _; obtain ⟨g', cap', rfl⟩ := ownsRow_succ hown'; obtain ⟨hv2, hr2, hk2, hb2⟩ := app_box (n₀ := w.heap.size) hv hrow2 hsW (by omega) (by omega) hown' hgrow; have hK1 := boxed_row hv (by omega) hrow2 hgrow; have hcK1 := hK1.cell; have hfK1 := hK1.frozen; have hS1 := (boxed_row hbS (by omega) hrow2 hgrow).other (B' := w.heap.size + 1) (by omega) (.slice (some ⟨g', 0, none⟩) (0 + 1) cap'); have hI1 := (boxed_row hbI (by omega) hrow2 hgrow).other (B' := w.heap.size + 1) (by omega) (.slice (some ⟨g', 0, none⟩) (0 + 1) cap')))
            exact ⟨hk2, ⟨hk2.walks, hI1.cell.trans hbI.cell.symm⟩, ⟨⟨_, hv2, by rw [HE.out]; exact Lst.snoc (ps := []) (x := ⟨#[46, 46]⟩) rfl hr2, trivial⟩, hS1, hI1⟩, hB.trans hb2⟩
        · obtain ⟨g, cap, rfl, hlc, hcm, hcell⟩ := lst_last hrow
          unfold maxLen at hcm
          simp only [List.length_append, List.length_cons, List.length_nil, Nat.zero_add] at hkl
          have hrow2 : W.ownsRow (w.heap.size + 3) 9 1 (.slice (some ⟨g, 0, none⟩) (ds.length + 1) cap) (ds.length + 1) (strs (ds ++ [d])) := by simpa [Lst] using hrow
          by_cases hd : d = [46, 46]
          · subst hd
            have hcell' : W.cell? ⟨g, ds.length, none⟩ = some (.string ⟨#[46, 46]⟩) := hcell
            clear hcell
            by_cases hw : wholeB s.data.toList = true
            · have HE : Hid (keptOf (wholeB s.data.toList) (pre ++ [bs [46, 46]]) = ds ++ [[46, 46]]) := Lib.hid (by rw [HST.out, cl_stay, hw]; rfl)
              have HW := Lib.hid hw
              clear hw h1 HST
              unfold bs at HE ⊢
              gi_wp2_with (refine ⟨trivial, ?_⟩; gi_at_call 52; refine (CallsIn.inRound l (callsIn_wide.2 (isWhole_any _ _))).mono ?_; rintro e w' ⟨rfl, rfl⟩; rw [HW.out])
              exact ⟨KeepsOthers.refl _, ⟨KeepsWalks.refl _, rfl⟩, ⟨⟨_, hv, by rw [HE.out]; exact hrow, trivial⟩, hbS, hbI⟩, hB⟩
            · have HW := Lib.hid (show wholeB s.data.toList = false by simpa using hw)
              have HE : Hid (keptOf (wholeB s.data.toList) (pre ++ [bs [46, 46]]) = ds ++ [[46, 46]] ++ [[46, 46]]) := Lib.hid (by rw [HST.out, cl_stay, HW.out]; rfl)
              clear hw h1 HST
              unfold bs at HE ⊢
              gi_wp2_with (first | (refine ⟨trivial, ?_⟩; gi_at_call 52; refine (CallsIn.inRound l (callsIn_wide.2 (isWhole_any _ _))).mono ?_; rintro e w' ⟨rfl, rfl⟩; rw [HW.out]) | (gi_at_builtin; refine wpListIn_append_own _ rfl _ _ 28 rfl (w.heap.size + 3) 9 i0 (.string ⟨#[]⟩) 1 16 Try.underlying28 hi hz0 hz1 hz2 rfl (by decide) _ _ _ rfl (hrow2.alloc _) ⟨W.heap.size, 0, none⟩ 1 1 [.string ⟨#[46, 46]⟩] rfl rfl (cell_one_new _ _ _) (by simp [Value.oneCell']) (by unfold maxLen; omega) (by omega) (by simp; omega) ?_; intro v' w1 hown' hgrow _; obtain ⟨g', cap', rfl⟩ := ownsRow_succ hown'; obtain ⟨hv2, hr2, hk2, hb2⟩ := app_box (n₀ := w.heap.size) hv hrow2 hsW (by omega) (by omega) hown' hgrow; have hK1 := boxed_row hv (by omega) hrow2 hgrow; have hcK1 := hK1.cell; have hfK1 := hK1.frozen; have hS1 := (boxed_row hbS (by omega) hrow2 hgrow).other (B' := w.heap.size + 1) (by omega) (.slice (some ⟨g', 0, none⟩) (ds.length + 1 + 1) cap'); have hI1 := (boxed_row hbI (by omega) hrow2 hgrow).other (B' := w.heap.size + 1) (by omega) (.slice (some ⟨g', 0, none⟩) (ds.length + 1 + 1) cap')))
              exact ⟨hk2, ⟨hk2.walks, hI1.cell.trans hbI.cell.symm⟩, ⟨⟨_, hv2, by rw [HE.out]; exact Lst.snoc (ps := ds ++ [[46, 46]]) (x := ⟨#[46, 46]⟩) rfl (by simpa using hr2), trivial⟩, hS1, hI1⟩, hB.trans hb2⟩
          · have HE : Hid (keptOf (wholeB s.data.toList) (pre ++ [bs [46, 46]]) = ds) := Lib.hid (by rw [HST.out, cl_pop _ _ hd])
            have t1 := text_neq hd
            obtain ⟨y, hy⟩ : ∃ y, y = bs d := ⟨_, rfl⟩
            rw [← hy] at hcell t1
            clear hd h1 HST hy
            unfold bs at HE ⊢
            gi_wp2
            exact ⟨KeepsOthers.setCell _ _ _, ⟨(KeepsOthers.setCell _ _ _).walks, (hbI.other (by omega) _).cell.trans hbI.cell.symm⟩, ⟨⟨_, hv.set _, by rw [HE.out]; exact row_set (cut_row hrow) (by omega), trivial⟩, hbS.other (by omega) _, hbI.other (by omega) _⟩, hB.setCell (p := ⟨w.heap.size + 1, 0, none⟩) (by simp) _⟩
      · have HE : Hid (keptOf (wholeB s.data.toList) (pre ++ [x]) = cs ++ [x.data.toList]) := Lib.hid (by rw [HST.out, cl_name _ _ (fun e => h1 (by rw [← e, bs_of])) (fun e => h2 (by rw [← e, bs_of]))])
        have t1 := bytes_neq h1
        have t2 := bytes_neq h2
        clear h1 h2 HST
        gi_wp2_with (gi_at_builtin; refine wpListIn_append_own _ rfl _ _ 28 rfl (w.heap.size + 3) 9 i0 (.string ⟨#[]⟩) 1 16 Try.underlying28 hi hz0 hz1 hz2 rfl (by decide) _ _ _ rfl (hrow.alloc _) ⟨W.heap.size, 0, none⟩ 1 1 [.string x] rfl rfl (cell_one_new _ _ _) (by simp [Value.oneCell']) (by unfold maxLen; omega) (by omega) (by simp; omega) ?_; intro v' w1 hown' hgrow _; obtain ⟨g', cap', rfl⟩ := ownsRow_succ hown'; obtain ⟨hv2, hr2, hk2, hb2⟩ := app_box (n₀ := w.heap.size) hv hrow hsW (by omega) (by omega) hown' hgrow; have hK1 := boxed_row hv (by omega) hrow hgrow; have hcK1 := hK1.cell; have hfK1 := hK1.frozen; have hS1 := (boxed_row hbS (by omega) hrow hgrow).other (B' := w.heap.size + 1) (by omega) (.slice (some ⟨g', 0, none⟩) (cs.length + 1) cap'); have hI1 := (boxed_row hbI (by omega) hrow hgrow).other (B' := w.heap.size + 1) (by omega) (.slice (some ⟨g', 0, none⟩) (cs.length + 1) cap'))
        exact ⟨hk2, ⟨hk2.walks, hI1.cell.trans hbI.cell.symm⟩, ⟨⟨_, hv2, by rw [HE.out]; exact Lst.snoc (bs_of x).symm hr2, trivial⟩, hS1, hI1⟩, hB.trans hb2⟩
  case done =>
    rintro D ys W hD rfl ⟨⟨⟨v, hv, hrow, _⟩, hbS, hbI⟩, hB⟩ hK
    have HR : Lst W (w.heap.size + 3) v (cleanOf s.data.toList) := by
      have h0 : Lst W (w.heap.size + 3) v (keptOf (wholeB s.data.toList) ((parts s.data.toList).map bs)) := hrow
      rwa [keptOf_parts] at h0
    clear hrow
    have hc := hv.cell
    gi_wp2
    refine ⟨by simp, .inl ⟨_, _, rfl, run_takeDeferred hK, ?_⟩⟩
    exact ⟨_, results_tmp rfl _ _ _, v, rfl, lst_mono (ownsRow_putObj HR _ hK rfl) (by omega), hB.trans (belowK_b (w := w) (Nat.le_refl _) W D _ _ (by omega) hK rfl rfl)⟩
  case stop =>
    rintro D c pre W _ _ h _
    exact h.elim
end Go.Proofs.Ytpdnhaaedibbaaa
