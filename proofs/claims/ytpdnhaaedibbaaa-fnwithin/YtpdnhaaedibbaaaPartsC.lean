/-
  Contracts of slices.AppendSeq and slices.Collect over impl.partsIn, of impl.PartsOf and spec.PartsOf.
  Conditions: a text of at most 2^20 bytes.
-/
import Derived.Test.YtpdnhaaedibbaaaCleanC
namespace Go.Proofs.Ytpdnhaaedibbaaa
open Go.RowKit Go.Shelf
set_option linter.unusedVariables false
attribute [local go_sem] Oper.semAt_some

def got (xs : List ByteArray) : List (List UInt8) := xs.map fun x => x.data.toList
theorem got_snoc (xs : List ByteArray) (x : ByteArray) : got (xs ++ [x]) = got xs ++ [x.data.toList] := by simp [got]
theorem got_parts (ps : List (List UInt8)) : got (ps.map bs) = ps := by
  unfold got
  rw [List.map_map]
  conv => rhs; rw [← List.map_id ps]
  exact List.map_congr_left fun p _ => bs_list p
theorem got_len (xs : List ByteArray) : (got xs).length = xs.length := by simp [got]

set_option maxRecDepth 100000 in
set_option maxHeartbeats 4000000 in
theorem appendSeq_any (s : ByteArray) (b : Nat) (w : World) (hs : s.size ≤ 1073741824) (hb : b < w.heap.size) (hc : w.cell? ⟨b, 0, none⟩ = some (.string s)) :
    Calls Try.prog 85 #[.slice none 0 0, .func (.func 83) #[] #[.pointer (some ⟨b, 0, none⟩)]] w fun e w' => ∃ v, e = .returned v ∧ Lst w' w.heap.size v (parts s.data.toList) ∧ Below w.heap.size w w' := by
  obtain ⟨i0, hi, hz0, hz1, hz2⟩ := info_parts strInfo
  have hpl := parts_le s.data.toList
  rw [len_size] at hpl
  refine (callsIn_wide (n := 6)).1 ?_
  refine callsIn_of_wp_marks Try.func85 rfl trivial ?_ rfl
  simp only [Try.ntmps85, List.size_toArray, List.length_cons, List.length_nil, Nat.reduceAdd, Nat.reduceSub, Array.replicate_succ, Array.replicate_zero, List.push_toArray, List.append_toArray, List.nil_append, List.cons_append]
  gi_wp2
  have bK := Boxed.new w 28 (.slice none 0 0)
  have hB0 : Below w.heap.size w (w.alloc (.cells #[.slice none 0 0] 28)) := (Below.refl _ w).alloc (Nat.le_refl _) _
  have hc0 : (w.alloc (.cells #[.slice none 0 0] 28)).cell? ⟨b, 0, none⟩ = some (.string s) := (hB0.cell (p := ⟨b, 0, none⟩) hb).trans hc
  refine wpIn_rangeFunc_ownF rfl (by omega) (gf := 83) (lb := #[.pointer (some ⟨b, 0, none⟩)]) rfl trivial (enters_of Try.func83 (by kernel_rfl) rfl)
    (iter_stops Fence.wide (6 - 1) trivial rfl (by omega) b s (by unfold maxLen; omega) _ (by simp; omega) hc0) kpB_t (kpB_b (by simp; omega)) (Below.refl _ _) (fun _ => rfl)
    (fun pre W => (∃ v, Boxed W w.heap.size 28 v ∧ W.ownsRow w.heap.size 9 1 v (got pre).length (strs (got pre)) ∧ True) ∧ Below w.heap.size w W)
    (fun _ _ _ => False)
    (OwnFrom.and (Own.from (holdsRow_own w.heap.size w.heap.size 28 9 1 (fun pre => (got pre).length) (fun pre => strs (got pre)) (fun _ _ => True)) _) (ownFrom_below (Nat.le_refl _) (by simp)))
    (fun _ _ _ _ _ hs _ _ => hs)
    ⟨⟨_, bK, World.ownsRow_nil _ _ _ _, trivial⟩, hB0⟩
    ?a1 ?assign ?body ?done ?stop
  case assign =>
    intro l x W K hK
    gi_wp2
    exact hK
  case body =>
    rintro l pre x W ⟨⟨v, hv, hrow, _⟩, hB⟩ hlt
    have hgl := got_len pre
    have HE := Lib.hid (got_snoc pre x)
    have hcK := hv.cell
    have hsW := hB.size
    obtain ⟨cs, hcs⟩ : ∃ cs, cs = got pre := ⟨_, rfl⟩
    rw [← hcs] at hrow hgl HE
    have hgl' : cs.length ≤ pre.length := by omega
    clear hgl hcs
    gi_wp2_with (gi_at_builtin; refine wpListIn_append_own _ rfl _ _ 28 rfl w.heap.size 9 i0 (.string ⟨#[]⟩) 1 16 Try.underlying28 hi hz0 hz1 hz2 rfl (by decide) _ _ _ rfl (hrow.alloc _) ⟨W.heap.size, 0, none⟩ 1 1 [.string x] rfl rfl (cell_one_new _ _ _) (by simp [Value.oneCell']) (by unfold maxLen; omega) (by omega) (by simp; omega) ?_; intro v' w1 hown' hgrow _; obtain ⟨g', cap', rfl⟩ := ownsRow_succ hown'; obtain ⟨hv1, hv2, hr2, hk2, hb2⟩ := hv.appended (by decide) hrow hB.size (Nat.le_refl _) hown' hgrow; have hcK1 := hv1.cell; have hfK1 := hv1.frozen)
    exact ⟨hk2, ⟨hk2.walks, hb2.cell (p := ⟨b, 0, none⟩) hb⟩, ⟨_, hv2, by rw [HE.out]; exact Lst.snoc (bs_of x).symm hr2, trivial⟩, hB.trans hb2⟩
  case done =>
    rintro D ys W hD rfl ⟨⟨v, hv, hrow, _⟩, hB⟩ hK
    have HR : Lst W w.heap.size v (parts s.data.toList) := by
      have h0 : Lst W w.heap.size v (got ((parts s.data.toList).map bs)) := hrow
      rwa [got_parts] at h0
    clear hrow
    have hc := hv.cell
    gi_wp2
    refine ⟨by simp, .inl ⟨_, _, rfl, run_takeDeferred hK, ?_⟩⟩
    exact ⟨_, results_tmp rfl _ _ _, v, rfl, ownsRow_putObj HR _ hK rfl, hB.trans (belowK_b (w := w) (Nat.le_refl _) W D _ _ (by simp at hD; omega) hK rfl rfl)⟩
  case stop =>
    rintro D c pre W _ _ h _
    exact h.elim

set_option maxHeartbeats 400000 in
theorem collect_any (s : ByteArray) (b : Nat) (w : World) (hs : s.size ≤ 1073741824) (hb : b < w.heap.size) (hc : w.cell? ⟨b, 0, none⟩ = some (.string s)) :
    Calls Try.prog 60 #[.func (.func 83) #[] #[.pointer (some ⟨b, 0, none⟩)]] w fun e w' => ∃ v, e = .returned v ∧ Lst w' w.heap.size v (parts s.data.toList) ∧ Below w.heap.size w w' := by
  go_enter Try.func60, Try.ntmps60
  go_wp2_with fail
  refine (appendSeq_any s b w hs hb hc).mono ?_
  rintro e w1 ⟨v, rfl, hL, hb1⟩
  go_wp2
  go_ret
  exact ⟨v, rfl, hL, hb1⟩

def partT (l : List UInt8) : List (List UInt8) := if goodB l then parts l else []
theorem partT_yes {l : List UInt8} (h : goodB l = true) : partT l = parts l := by simp [partT, h]
theorem partT_no {l : List UInt8} (h : goodB l = false) : partT l = [] := by simp [partT, h]

set_option maxHeartbeats 1000000 in
theorem partsOf_any (s : ByteArray) (w : World) (hs : s.size ≤ 1073741824) : Calls Try.prog 25 #[.string s] w fun e w' => ∃ v, e = .returned (.tuple #[v, .bool (goodB s.data.toList)]) ∧ Lst w' w.heap.size v (partT s.data.toList) ∧ Below w.heap.size w w' := by
  by_cases hg : goodB s.data.toList = true
  · have HG := Lib.hid hg
    have HP := Lib.hid (partT_yes hg)
    clear hg
    go_enter Try.func25, Try.ntmps25
    go_wp2_with fail
    refine (goodPath_any _ _ (by unfold maxLen; omega)).mono ?_
    rintro e w1 ⟨rfl, hb1⟩
    rw [HG.out]
    go_wp2_with fail
    refine (callsIn_wide.1 (partsIn_in Fence.wide 1 trivial rfl _ _)).mono ?_
    rintro e w2 ⟨rfl, rfl⟩
    have bS := Boxed.new w1 9 (.string s)
    go_wp2_with fail
    refine (collect_any s _ _ hs (by simp) bS.cell).mono ?_
    rintro e w3 ⟨v, rfl, hL, hb3⟩
    go_wp2
    go_ret2
    have h12 : Below w.heap.size w (w1.alloc (.cells #[.string s] 9)) := hb1.alloc hb1.size _
    exact ⟨v, by rw [HG.out]; rfl, by rw [HP.out]; exact lst_mono hL h12.size, h12.trans (hb3.mono h12.size)⟩
  · have HG := Lib.hid (show goodB s.data.toList = false by simpa using hg)
    have HP := Lib.hid (partT_no HG.out)
    clear hg
    go_enter Try.func25, Try.ntmps25
    go_wp2_with fail
    refine (goodPath_any _ _ (by unfold maxLen; omega)).mono ?_
    rintro e w1 ⟨rfl, hb1⟩
    rw [HG.out]
    go_wp2
    go_ret2
    exact ⟨.slice none 0 0, by rw [HG.out]; rfl, by rw [HP.out]; exact Lst.nil _ _, hb1⟩

set_option maxHeartbeats 1000000 in
theorem specPartsOf_any (s : ByteArray) (w : World) (hs : s.size ≤ 1073741824) : Calls Try.prog 32 #[.string s] w fun e w' => ∃ v, e = .returned (.tuple #[v, .bool (goodB s.data.toList)]) ∧ Lst w' w.heap.size v (partT s.data.toList) ∧ Below w.heap.size w w' := by
  by_cases hg : goodB s.data.toList = true
  · have HG := Lib.hid hg
    have HP := Lib.hid (partT_yes hg)
    clear hg
    go_enter Try.func32, Try.ntmps32
    go_wp2_with fail
    refine (l2Path_any _ _ hs).mono ?_
    rintro e w1 ⟨rfl, hb1⟩
    rw [HG.out]
    go_wp2_with fail
    refine (l2Parts_any _ _ hs).mono ?_
    rintro e w2 ⟨v, rfl, hL, hb2⟩
    go_wp2
    go_ret2
    exact ⟨v, by rw [HG.out]; rfl, by rw [HP.out]; exact lst_mono hL hb1.size, hb1.trans (hb2.mono hb1.size)⟩
  · have HG := Lib.hid (show goodB s.data.toList = false by simpa using hg)
    have HP := Lib.hid (partT_no HG.out)
    clear hg
    go_enter Try.func32, Try.ntmps32
    go_wp2_with fail
    refine (l2Path_any _ _ hs).mono ?_
    rintro e w1 ⟨rfl, hb1⟩
    rw [HG.out]
    go_wp2
    go_ret2
    exact ⟨.slice none 0 0, by rw [HG.out]; rfl, by rw [HP.out]; exact Lst.nil _ _, hb1⟩
end Go.Proofs.Ytpdnhaaedibbaaa
