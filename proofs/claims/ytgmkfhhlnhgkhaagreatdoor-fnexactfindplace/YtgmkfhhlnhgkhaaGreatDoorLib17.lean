/-
  Joined: CleanS PlaceD PlaceE.
  Conditions: as each states.
-/
import Derived.Test.YtgmkfhhlnhgkhaaGreatDoorLib1
import Derived.Test.YtgmkfhhlnhgkhaaGreatDoorLib15
import Derived.Test.YtgmkfhhlnhgkhaaGreatDoorLib16

/-
  Contracts of spec.l2Clean and spec.l2Last: the last name of a clean path.
  Conditions: a text of at most 2^30 bytes.
-/
namespace Go.Proofs.YtgmkfhhlnhgkhaaGreatDoor
open Go.ChangeShapes Go.WideShapes Go.ChangeAt Go.RowKit Go.Joins
set_option linter.unusedVariables false
set_option linter.unusedSimpArgs false

/-- What stands behind a store of a shorter part of the same row. -/
theorem cut_row {W : World} {R g cap : Nat} {ps : List (List UInt8)} {p : List UInt8} (h : Lst W R (.slice (some ⟨g, 0, none⟩) (ps.length + 1) cap) (ps ++ [p])) : Lst W R (.slice (some ⟨g, 0, none⟩) ps.length cap) ps := by
  rcases h with ⟨hl, ⟨e, _⟩ | ⟨g', cap', cur, e, hB, hg, hn, hm, hs, ht⟩⟩
  · simp at e
  · simp only [Value.slice.injEq, Option.some.injEq, Addr.mk.injEq, and_true] at e
    obtain ⟨rfl, _, rfl⟩ := e
    refine ⟨by simp [strs], .inr ⟨_, _, cur, rfl, hB, hg, by simp at hn; omega, hm, hs, ?_⟩⟩
    have := congrArg (List.take ps.length) ht
    simp only [List.take_take, List.length_append, List.length_cons, List.length_nil, Nat.mul_one] at this
    rw [Nat.min_eq_left (by omega)] at this
    rw [Nat.mul_one, this]
    simp [strs]
/-- A list with an element is written out, and its last one can be read. -/
theorem lst_last {W : World} {R : Nat} {v : Value} {ps : List (List UInt8)} {p : List UInt8} (h : Lst W R v (ps ++ [p])) : ∃ g cap, v = .slice (some ⟨g, 0, none⟩) (ps.length + 1) cap ∧ ps.length + 1 ≤ cap ∧ cap ≤ maxLen ∧ W.cell? ⟨g, ps.length, none⟩ = some (.string (bs p)) := by
  obtain ⟨o, c, e, hlc, hcm, hH⟩ := h.read
  obtain ⟨g, off, rfl, hg, hc⟩ := hH ps.length (by simp)
  rcases h.2 with ⟨e', _⟩ | ⟨g', cap, cur, e', _⟩
  · rw [e] at e'; cases e'
  · rw [e] at e'
    simp only [Value.slice.injEq, Option.some.injEq, Addr.mk.injEq, and_true] at e'
    obtain ⟨⟨rfl, rfl⟩, _, rfl⟩ := e'
    refine ⟨g, c, by rw [e]; simp, by simpa using hlc, hcm, ?_⟩
    simpa using hc
/-- What has been kept of the parts that came. -/
def keptOf (wh : Bool) (xs : List ByteArray) : List (List UInt8) := clean wh (xs.map fun x => x.data.toList)
theorem keptOf_parts (wh : Bool) (ps : List (List UInt8)) : keptOf wh (ps.map bs) = clean wh ps := by
  unfold keptOf
  rw [List.map_map]
  congr 1
  conv => rhs; rw [← List.map_id ps]
  exact List.map_congr_left fun p _ => bs_list p
theorem clStep_le (wh : Bool) (st : List (List UInt8)) (p : List UInt8) : (clStep wh st p).length ≤ st.length + 1 := by
  unfold clStep; repeat' split
  all_goals simp
  all_goals omega
theorem keptOf_le (wh : Bool) (xs : List ByteArray) : (keptOf wh xs).length ≤ xs.length := by
  unfold keptOf clean
  have : ∀ (l : List ByteArray) (st : List (List UInt8)), ((l.map fun x => x.data.toList).foldl (clStep wh) st).length ≤ st.length + l.length := by
    intro l
    induction l with
    | nil => intro st; simp
    | cons x l ih => intro st; have := ih (clStep wh st x.data.toList); have := clStep_le wh st x.data.toList; simp only [List.map_cons, List.foldl_cons, List.length_cons]; omega
  simpa using this xs []
theorem cl_dot (wh : Bool) (st : List (List UInt8)) : clStep wh st [46] = st := by simp [clStep]
theorem cl_name (wh : Bool) (st : List (List UInt8)) {p : List UInt8} (h1 : p ≠ [46]) (h2 : p ≠ [46, 46]) : clStep wh st p = st ++ [p] := by simp [clStep, h1, h2]
theorem cl_pop (wh : Bool) (st : List (List UInt8)) {p : List UInt8} (h : p ≠ [46, 46]) : clStep wh (st ++ [p]) [46, 46] = st := by simp [clStep, h]
theorem cl_stay (wh : Bool) (st : List (List UInt8)) : clStep wh (st ++ [[46, 46]]) [46, 46] = if wh then st ++ [[46, 46]] else st ++ [[46, 46]] ++ [[46, 46]] := by simp [clStep]
theorem cl_none (wh : Bool) : clStep wh [] [46, 46] = if wh then [] else [[46, 46]] := by simp [clStep]
theorem snoc_of {α : Type} (l : List α) : l = [] ∨ ∃ m x, l = m ++ [x] := by
  rcases List.eq_nil_or_concat l with h | ⟨m, x, h⟩
  · exact .inl h
  · exact .inr ⟨m, x, by simpa using h⟩
theorem clean_len (wh : Bool) (ps : List (List UInt8)) : (clean wh ps).length ≤ ps.length := by
  have h := keptOf_le wh (ps.map bs)
  rw [keptOf_parts] at h
  simpa using h
theorem clean_take (wh : Bool) {ps : List (List UInt8)} {k : Nat} (h : k < ps.length) : clean wh (ps.take (k + 1)) = clStep wh (clean wh (ps.take k)) ps[k] := by
  rw [List.take_succ_eq_append_getElem h, clean_snoc]
set_option maxHeartbeats 4000000 in
theorem l2Clean_any (s : ByteArray) (w : World) (hs : s.size ≤ 1073741824) (h0 : 0 < s.size) : Calls Tryz.prog 170 #[.string s] w fun e w' => ∃ v, e = .returned v ∧ Lst w' w.heap.size v (cleanOf s.data.toList) ∧ Below w.heap.size w w' := by
  obtain ⟨i0, hi, hz0, hz1, hz2⟩ := info_parts strInfo
  have hpl := parts_le s.data.toList
  rw [len_size] at hpl
  have HW := Lib.hid (whole_at h0)
  go_enter Tryz.func170, Tryz.ntmps170
  go_wp2_with fail
  refine (l2Parts_any s _ hs).mono ?_
  rintro e w1 ⟨v, rfl, hL, hb1⟩
  obtain ⟨ps, hps⟩ : ∃ ps, ps = parts s.data.toList := ⟨_, rfl⟩
  rw [← hps] at hL hpl
  obtain ⟨wh, hwh⟩ : ∃ wh, wh = wholeB s.data.toList := ⟨_, rfl⟩
  have HC : Hid (cleanOf s.data.toList = clean wh ps) := Lib.hid (by rw [hps, hwh]; rfl)
  rw [← hwh] at HW
  clear hps hwh
  obtain ⟨o, c, rfl, hlc, hcm, hH⟩ := hL.read
  have HH := Lib.hid hH
  clear hH hL
  unfold maxLen at hcm
  go_wp2
  go_loopw [3, 10] (fun out i wr => ∃ k : Nat, k ≤ ps.length ∧ i = .int .i64 k ∧ Lst wr w1.heap.size out (clean wh (ps.take k)) ∧ Below w1.heap.size w1 wr) (fun _ i _ => ps.length - (intOf i).toNat)
  case atStart => exact ⟨0, Nat.zero_le _, rfl, Lst.nil _ _, Below.refl _ _⟩
  case round =>
    obtain ⟨k, hk, rfl, hL, hB⟩ := hrel
    have hfl : (clean wh (ps.take k)).length ≤ k := Nat.le_trans (clean_len _ _) (List.length_take_le _ _)
    by_cases hlt : k < ps.length
    · obtain ⟨g, off, rfl, hg, hc⟩ := HH.out k hlt
      have hcell : wr.cell? ⟨g, off + k, none⟩ = some (.string (bs ps[k])) := (hB.cell (p := ⟨g, off + k, none⟩) hg).trans hc
      have HST := Lib.hid (clean_take wh hlt)
      clear hc
      obtain ⟨cs, hcs⟩ : ∃ cs, cs = clean wh (ps.take k) := ⟨_, rfl⟩
      rw [← hcs] at hL hfl HST
      clear hcs
      by_cases h1 : ps[k] = [46]
      · rw [h1] at hcell HST
        have HE : Hid (clean wh (ps.take (k + 1)) = cs) := Lib.hid (by rw [HST.out, cl_dot])
        have hcell' : wr.cell? ⟨g, off + k, none⟩ = some (.string ⟨#[46]⟩) := hcell
        obtain ⟨o2, c2, e2, _⟩ := hL.read
        subst e2
        clear hcell h1 HST
        go_wp2
        go_roundw
        case rel => exact ⟨k + 1, hlt, by go_num, by rw [HE.out]; exact hL, hB⟩
        case measure => simp [intOf]; omega
      · by_cases h2 : ps[k] = [46, 46]
        · rw [h2] at hcell HST
          have hcell' : wr.cell? ⟨g, off + k, none⟩ = some (.string ⟨#[46, 46]⟩) := hcell
          clear hcell h1 h2
          rcases snoc_of cs with rfl | ⟨ds, d, rfl⟩
          · obtain ⟨o2, c2, e2, _⟩ := hL.read
            simp only [List.length_nil] at e2
            subst e2
            have hL2 : wr.ownsRow w1.heap.size 9 1 (.slice o2 0 c2) 0 [] := hL
            by_cases hw : (s[0]'h0) = 47
            · have hw' : ((s[0]'h0).toNat : Int) = 47 := by rw [hw]; rfl
              have HE : Hid (clean wh (ps.take (k + 1)) = []) := Lib.hid (by rw [HST.out, cl_none, HW.out, hw]; rfl)
              clear hw HST
              go_wp2
              go_roundw
              case rel => exact ⟨k + 1, hlt, by go_num, by rw [HE.out]; exact hL, hB⟩
              case measure => simp [intOf]; omega
            · have hw' : (((s[0]'h0).toNat : Int) == 47) = false := by simpa using not47 hw
              have HE : Hid (clean wh (ps.take (k + 1)) = [] ++ [[46, 46]]) := Lib.hid (by rw [HST.out, cl_none, HW.out]; simp [hw])
              clear hw HST
              go_wp2_with (at_builtin; refine wpList_append_own _ rfl _ _ 58 rfl w1.heap.size 9 i0 (.string ⟨#[]⟩) 1 16 Tryz.underlying58 hi hz0 hz1 hz2 rfl (by decide) _ _ _ rfl (hL2.alloc _) ⟨wr.heap.size, 0, none⟩ 1 1 [.string ⟨#[46, 46]⟩] rfl rfl (cell_one_new _ _ _) (by simp [Value.oneCell']) (by unfold maxLen; omega) (by omega) (by have := hB.size; simp; omega) ?_)
              intro v' w2 hown' hgrow _
              have hb2 := below_app hB hB.size hL2 hgrow
              have HL := Lib.hid (Lst.snoc (ps := []) (p := [46, 46]) (x := ⟨#[46, 46]⟩) rfl hown')
              clear hown' hgrow hL hL2
              go_wp2
              go_roundw
              case rel => exact ⟨k + 1, hlt, by go_num, by rw [HE.out]; exact HL.out, hb2⟩
              case measure => simp [intOf]; omega
          · obtain ⟨g2, cap, rfl, hlc2, hcm2, hlast⟩ := lst_last hL
            unfold maxLen at hcm2
            simp only [List.length_append, List.length_cons, List.length_nil, Nat.zero_add] at hfl
            by_cases hd : d = [46, 46]
            · subst hd
              have hlast' : wr.cell? ⟨g2, ds.length, none⟩ = some (.string ⟨#[46, 46]⟩) := hlast
              clear hlast
              have hL2 : wr.ownsRow w1.heap.size 9 1 (.slice (some ⟨g2, 0, none⟩) (ds.length + 1) cap) (ds.length + 1) (strs (ds ++ [[46, 46]])) := by simpa [Lst] using hL
              by_cases hw : (s[0]'h0) = 47
              · have hw' : ((s[0]'h0).toNat : Int) = 47 := by rw [hw]; rfl
                have HE : Hid (clean wh (ps.take (k + 1)) = ds ++ [[46, 46]]) := Lib.hid (by rw [HST.out, cl_stay, HW.out, hw]; rfl)
                clear hw HST
                go_wp2
                go_roundw
                case rel => exact ⟨k + 1, hlt, by go_num, by rw [HE.out]; exact hL, hB⟩
                case measure => simp [intOf]; omega
              · have hw' : (((s[0]'h0).toNat : Int) == 47) = false := by simpa using not47 hw
                have HE : Hid (clean wh (ps.take (k + 1)) = ds ++ [[46, 46]] ++ [[46, 46]]) := Lib.hid (by rw [HST.out, cl_stay, HW.out]; simp [hw])
                clear hw HST
                go_wp2_with (at_builtin; refine wpList_append_own _ rfl _ _ 58 rfl w1.heap.size 9 i0 (.string ⟨#[]⟩) 1 16 Tryz.underlying58 hi hz0 hz1 hz2 rfl (by decide) _ _ _ rfl (hL2.alloc _) ⟨wr.heap.size, 0, none⟩ 1 1 [.string ⟨#[46, 46]⟩] rfl rfl (cell_one_new _ _ _) (by simp [Value.oneCell']) (by unfold maxLen; omega) (by omega) (by have := hB.size; simp; omega) ?_)
                intro v' w2 hown' hgrow _
                have hb2 := below_app hB hB.size hL2 hgrow
                have HL := Lib.hid (Lst.snoc (ps := ds ++ [[46, 46]]) (p := [46, 46]) (x := ⟨#[46, 46]⟩) rfl (by simpa using hown'))
                clear hown' hgrow hL hL2
                go_wp2
                go_roundw
                case rel => exact ⟨k + 1, hlt, by go_num, by rw [HE.out]; exact HL.out, hb2⟩
                case measure => simp [intOf]; omega
            · have HE : Hid (clean wh (ps.take (k + 1)) = ds) := Lib.hid (by rw [HST.out, cl_pop _ _ hd])
              have t1 := text_neq hd
              obtain ⟨y, hy⟩ : ∃ y, y = bs d := ⟨_, rfl⟩
              rw [← hy] at hlast t1
              have HL := Lib.hid (cut_row hL)
              clear hd HST hy hL
              go_wp2
              go_roundw
              case rel => exact ⟨k + 1, hlt, by go_num, by rw [HE.out]; exact HL.out, hB⟩
              case measure => simp [intOf]; omega
        · have HE : Hid (clean wh (ps.take (k + 1)) = cs ++ [ps[k]]) := Lib.hid (by rw [HST.out, cl_name _ _ h1 h2])
          have t1 := text_neq h1
          have t2 := text_neq h2
          obtain ⟨x, hx⟩ : ∃ x, x = bs ps[k] := ⟨_, rfl⟩
          rw [← hx] at hcell t1 t2
          have HX := Lib.hid hx
          obtain ⟨o2, c2, e2, _⟩ := hL.read
          subst e2
          clear h1 h2 HST hx
          go_wp2_with (at_builtin; refine wpList_append_own _ rfl _ _ 58 rfl w1.heap.size 9 i0 (.string ⟨#[]⟩) 1 16 Tryz.underlying58 hi hz0 hz1 hz2 rfl (by decide) _ _ _ rfl (hL.alloc _) ⟨wr.heap.size, 0, none⟩ 1 1 [.string x] rfl rfl (cell_one_new _ _ _) (by simp [Value.oneCell']) (by unfold maxLen; omega) (by omega) (by have := hB.size; simp; omega) ?_)
          intro v' w2 hown' hgrow _
          have hb2 := below_app hB hB.size hL hgrow
          have HL := Lib.hid (Lst.snoc HX.out hown')
          clear hown' hgrow hL
          go_wp2
          go_roundw
          case rel => exact ⟨k + 1, hlt, by go_num, by rw [HE.out]; exact HL.out, hb2⟩
          case measure => simp [intOf]; omega
    · have HF : Hid (clean wh (ps.take k) = cleanOf s.data.toList) := Lib.hid (by rw [HC.out, List.take_of_length_le (by omega)])
      go_wp2
      go_ret
      refine ⟨_, rfl, ?_, hb1.trans (hB.mono hb1.size)⟩
      rw [HF.out] at hL
      exact lst_mono hL hb1.size
/-- The last name of a clean path. -/
def baseL (l : List UInt8) : List UInt8 := if (cleanOf l).getLast? = some [46, 46] then [] else (cleanOf l).getLast?.getD []
theorem baseL_snoc {l : List UInt8} {qs : List (List UInt8)} {p : List UInt8} (h : cleanOf l = qs ++ [p]) : baseL l = if p = [46, 46] then [] else p := by
  unfold baseL; rw [h]; simp
set_option maxHeartbeats 1000000 in
theorem l2Last_any (s : ByteArray) (w : World) (hs : s.size ≤ 1073741824) (h0 : 0 < s.size) : Calls Tryz.prog 135 #[.string s] w fun e w' => e = .returned (.string (bs (baseL s.data.toList))) ∧ Below w.heap.size w w' := by
  go_enter Tryz.func135, Tryz.ntmps135
  go_wp2_with fail
  refine (l2Clean_any _ _ hs h0).mono ?_
  rintro e w1 ⟨v, rfl, hL, hb1⟩
  rcases snoc_of (cleanOf s.data.toList) with hn | ⟨ds, d, hn⟩
  · have HB : Hid (baseL s.data.toList = []) := Lib.hid (by simp [baseL, hn])
    rw [hn] at hL
    obtain ⟨o, c, e0, _⟩ := hL.read
    simp only [List.length_nil] at e0
    subst e0
    clear hn hL
    go_wp2
    go_ret
    exact ⟨by rw [HB.out]; rfl, hb1⟩
  · have HB := Lib.hid (baseL_snoc hn)
    rw [hn] at hL
    obtain ⟨g, cap, rfl, hlc, hcm, hlast⟩ := lst_last hL
    unfold maxLen at hcm
    clear hn hL
    by_cases hd : d = [46, 46]
    · have HB2 : Hid (baseL s.data.toList = []) := Lib.hid (by rw [HB.out, if_pos hd])
      subst hd
      have hlast' : w1.cell? ⟨g, ds.length, none⟩ = some (.string ⟨#[46, 46]⟩) := hlast
      clear hlast HB
      go_wp2
      go_ret
      exact ⟨by rw [HB2.out]; rfl, hb1⟩
    · have HB2 : Hid (baseL s.data.toList = d) := Lib.hid (by rw [HB.out, if_neg hd])
      have t1 := text_neq hd
      obtain ⟨x, hx⟩ : ∃ x, x = bs d := ⟨_, rfl⟩
      rw [← hx] at hlast t1
      have HX := Lib.hid hx
      clear hd hx HB
      go_wp2
      go_ret
      exact ⟨by rw [HB2.out, ← HX.out]; rfl, hb1⟩
end Go.Proofs.YtgmkfhhlnhgkhaaGreatDoor


/-
  The model's l4Ahead, l4Place, FindPlace.
  Conditions: at most 2^20 values and letters together; a text of at most 2^20 bytes; the variable errors.errorType as the program's text lays it.
-/
namespace Go.Proofs.YtgmkfhhlnhgkhaaGreatDoor
open Go.ChangeShapes Go.WideShapes Go.ChangeAt Go.RowKit Go.Joins
set_option linter.unusedVariables false
set_option linter.unusedSimpArgs false

theorem byte_47 {s : ByteArray} {m : Nat} (hm : m < s.size) : (s[m]'hm).toNat = 47 ↔ s.data.toList[m]'(by rw [len_size]; exact hm) = 47 := by
  constructor
  · intro h; exact UInt8.toNat_inj.1 (by rw [show (s.data.toList[m]'(by rw [len_size]; exact hm)) = s[m]'hm from rfl, h]; rfl)
  · intro h; rw [show s[m]'hm = (s.data.toList[m]'(by rw [len_size]; exact hm)) from rfl, h]; rfl
/-- What is left where slashes at the end are struck. -/
def Struck (l A : List UInt8) : Prop := A ≠ [] ∧ ∃ j, l = A ++ List.replicate j 47
/-- Slashes struck at the front, but for the last sign. -/
def stripR : List UInt8 → List UInt8
  | a :: c :: r => if a = 47 then stripR (c :: r) else a :: c :: r
  | l => l
def aheadS (l : List UInt8) : List UInt8 := (stripR l.reverse).reverse
theorem stripR_is : ∀ r : List UInt8, r ≠ [] → stripR r ≠ [] ∧ ∃ j, r = List.replicate j 47 ++ stripR r
  | [], h => absurd rfl h
  | [a], _ => ⟨by simp [stripR], 0, by simp [stripR]⟩
  | a :: c :: r, _ => by
    obtain ⟨h1, j, e⟩ := stripR_is (c :: r) (by simp)
    by_cases ha : a = 47
    · have hs : stripR (a :: c :: r) = stripR (c :: r) := by rw [stripR, if_pos ha]
      refine ⟨by rw [hs]; exact h1, j + 1, ?_⟩
      rw [hs, List.replicate_succ, List.cons_append, ← e, ha]
    · have hs : stripR (a :: c :: r) = a :: c :: r := by rw [stripR, if_neg ha]
      exact ⟨by rw [hs]; simp, 0, by rw [hs]; rfl⟩
theorem struck_aheadS {l : List UInt8} (h : l ≠ []) : Struck l (aheadS l) := by
  obtain ⟨h1, j, e⟩ := stripR_is l.reverse (by simpa using h)
  refine ⟨by unfold aheadS; simpa using h1, j, ?_⟩
  have := congrArg List.reverse e
  rw [List.reverse_reverse, List.reverse_append, List.reverse_replicate] at this
  exact this
theorem aheadS_less {A : List UInt8} {c : UInt8} (hc : c = 47) (hA : A ≠ []) : aheadS (A ++ [c]) = aheadS A := by
  unfold aheadS
  rw [List.reverse_append]
  cases hr : A.reverse with
  | nil => exact absurd (List.reverse_eq_nil_iff.1 hr) hA
  | cons d r =>
    show (stripR (c :: d :: r)).reverse = _
    rw [stripR, if_pos hc]
theorem aheadS_stay {A : List UInt8} {c : UInt8} (hc : c ≠ 47) : aheadS (A ++ [c]) = A ++ [c] := by
  unfold aheadS
  rw [List.reverse_append]
  cases hr : A.reverse with
  | nil =>
    have := List.reverse_eq_nil_iff.1 hr
    subst this; rfl
  | cons d r =>
    show (stripR (c :: d :: r)).reverse = _
    rw [stripR, if_neg hc, ← hr]; simp
theorem aheadS_one (c : UInt8) : aheadS [c] = [c] := rfl
set_option maxHeartbeats 1000000 in
theorem l4Ahead_any (D p : List UInt8) (s : ByteArray) (w : World) (hs : s.data.toList = D ++ 47 :: p) (hp : 47 ∉ p) (hz : s.size ≤ 1073741824) :
    Calls Tryz.prog 136 #[.string s] w fun e w' => e = .returned (.string (bs (aheadS (D ++ [47])))) ∧ Below w.heap.size w w' := by
  have HA := Lib.hid (byte_at hs hp)
  have hsz : s.size = D.length + 1 + p.length := by rw [← len_size, hs]; simp; omega
  have HT : Hid (s.data.toList.take (D.length + 1) = D ++ [47]) := Lib.hid (by rw [hs, show D ++ 47 :: p = (D ++ [47]) ++ p by simp, List.take_left' (by simp)])
  clear hs hp
  go_enter Tryz.func136, Tryz.ntmps136
  go_wp2
  go_loop [3] (fun i => ∃ m : Nat, D.length ≤ m ∧ m < s.size ∧ i = .int .i64 ((m + 1 : Nat) : Int)) (fun i => (intOf i).toNat)
  case atStart => exact ⟨s.size - 1, by omega, by omega, by congr 1; omega⟩
  case round =>
    obtain ⟨m, hm0, hm1, rfl⟩ := hrel
    obtain ⟨h1, h2⟩ := HA.out m hm1
    have hi : ((m + 1 : Nat) : Int) - 1 = (m : Int) := by omega
    by_cases hmD : m = D.length
    · have h47 := h2 hmD
      have h47b : (((s[m]'hm1).toNat : Int) != 47) = false := by rw [h47]; rfl
      subst hmD
      clear h1 h2
      go_wp2
      go_loop [3] (fun i => ∃ m : Nat, m ≤ D.length ∧ aheadS (s.data.toList.take (m + 1)) = aheadS (D ++ [47]) ∧ i = .int .i64 ((m + 1 : Nat) : Int)) (fun i => (intOf i).toNat)
      case atStart => exact ⟨D.length, Nat.le_refl _, by rw [HT.out], rfl⟩
      case round =>
        obtain ⟨k, hk, hS, rfl⟩ := hrel
        have HST := Lib.hid hS
        clear hS
        have hks : k < s.size := by omega
        have hcut := Lib.hid (bs_ext s 0 (k + 1))
        by_cases hk1 : 1 ≤ k
        · have hi2 : ((k + 1 : Nat) : Int) - 1 = (k : Int) := by omega
          by_cases hb : (s[k]'hks) = 47
          · have HLESS : Hid (aheadS (s.data.toList.take k) = aheadS (D ++ [47])) := Lib.hid (by
              have h9 := HST.out
              rw [take_snoc' s k hks, aheadS_less hb] at h9
              · exact h9
              · intro h0
                have := congrArg List.length h0
                simp only [List.length_take, len_size, List.length_nil] at this
                omega)
            have hb1 : (((s[k]'hks).toNat : Int) == 47) = true := by rw [hb]; rfl
            go_wp2
            go_round
            case rel => exact ⟨k - 1, by omega, by rw [show k - 1 + 1 = k by omega]; exact HLESS.out, by congr 1; omega⟩
            case measure => (simp [intOf]) <;> omega
          · have hb2 : (((s[k]'hks).toNat : Int) == 47) = false := by
              rw [beq_eq_false_iff_ne]
              intro h
              exact hb (UInt8.toNat_inj.1 (by rw [show (47 : UInt8).toNat = 47 from rfl]; omega))
            have HE : Hid (s.data.toList.take (k + 1) = aheadS (D ++ [47])) := Lib.hid (by
              have h9 := HST.out
              rw [take_snoc' s k hks, aheadS_stay hb] at h9
              rw [take_snoc' s k hks]; exact h9)
            go_wp2
            go_ret
            exact ⟨by rw [← HE.out, hcut.out]; simp, Below.refl _ _⟩
        · obtain rfl : k = 0 := by omega
          have HE : Hid (s.data.toList.take (0 + 1) = aheadS (D ++ [47])) := Lib.hid (by
            have h9 := HST.out
            rw [take_snoc' s 0 hks] at h9 ⊢
            exact h9)
          go_wp2
          go_ret
          exact ⟨by rw [← HE.out, hcut.out]; simp, Below.refl _ _⟩
    · have hgt : D.length < m := by omega
      have hne := h1 hgt
      have hne2 : (((s[m]'hm1).toNat : Int) != 47) = true := by rw [bne_iff_ne]; omega
      clear h1 h2
      go_wp2
      go_round
      case rel => exact ⟨m - 1, by omega, by omega, by congr 1; omega⟩
      case measure => (simp [intOf]) <;> omega

theorem struck_dirW {ns : List Nod} {u g : Int} {D A : List UInt8} {want : Int} (hl : D.length + 1 ≤ 60) (h : Struck (D ++ [47]) A) : dirW ns u g A want = dirW ns u g (aheadL D) want := by
  obtain ⟨h1, j, e⟩ := h
  have hlen := congrArg List.length e
  simp at hlen
  rw [← dirW_slashes j A (by omega) h1, ← e]
  unfold aheadL
  by_cases hD : D = []
  · rw [if_pos hD, hD]; rfl
  · rw [if_neg hD, dirW_slash (by omega) hD]
theorem l2Name_is4 {s : ByteArray} {b : Bool} {w : World} (h : nameB s.data.toList = b) (hs : s.size ≤ maxLen) : Calls Tryz.prog 134 #[.string s] w fun e w' => e = .returned (.bool b) ∧ w = w' := by
  rw [← h]; exact l2Name_any s w hs
theorem last_byte {s : ByteArray} (h : 0 < s.size) : (((s[s.size - 1]'(by omega)).toNat : Int) == 47) = slashB s.data.toList := by
  rw [slash_at h, Bool.eq_iff_iff]
  simp only [beq_iff_eq, decide_eq_true_eq]
  constructor
  · intro h; exact UInt8.toNat_inj.1 (by rw [show (47 : UInt8).toNat = 47 from rfl]; omega)
  · intro h; rw [h]; rfl
theorem baseL_cut {D p : List UInt8} (hp : 47 ∉ p) (hn : nameB p = true) : baseL (D ++ 47 :: p) = p := by
  obtain ⟨h1, h2, h3, h4⟩ := name_is4 hn
  rw [baseL_snoc (qs := clean (wholeB (D ++ 47 :: p)) (parts D)) (p := p) (base_cut hp hn), if_neg h3]

set_option maxHeartbeats 4000000 in
theorem l4Place_no (f : FsD) (v : Value) (u g : Int) (s : ByteArray) (w : World) (hR : FsA w v f) (hs : szF f ≤ 1048576) (hss : s.size ≤ 1048576) (hw : wgB s.data.toList = false) :
    Calls Tryz.prog 95 #[v, .agg #[.int .i64 u, .int .i64 g], .string s] w fun e w' => e = .returned (.tuple #[.int .i64 0, .string ⟨#[]⟩, .int .i64 1]) ∧ Below w.heap.size w w' := by
  have HR := Lib.hid hR
  obtain ⟨nv, rfl, hN⟩ := hR
  have HN := Lib.hid hN
  obtain ⟨o, c, rfl, hm, hH⟩ := hN
  unfold maxLen at hm
  have HS := Lib.hid hs
  have hl : f.nodes.length ≤ 1048576 := (lists_small hs).1
  have HB0 : Hid (Below w.heap.size w ((w.alloc (.cells #[.slice o f.nodes.length c, .int .i64 f.room] 26)).alloc (.cells #[.int .i64 u, .int .i64 g] 37))) := Lib.hid (((Below.refl _ _).alloc (Nat.le_refl _) _).alloc (by simp) _)
  have KA0 := Lib.hid (alloc3_fst' w (.cells #[.slice o f.nodes.length c, .int .i64 f.room] 26) (.cells #[.int .i64 u, .int .i64 g] 37))
  have KB0 := Lib.hid (alloc3_snd' w (.cells #[.slice o f.nodes.length c, .int .i64 f.room] 26) (.cells #[.int .i64 u, .int .i64 g] 37))
  clear hH
  have HW := Lib.hid hw
  clear hs hw
  go_enter Tryz.func95, Tryz.ntmps95
  go_wp2_with fail
  refine (l2Whole_is HW.out _ (by omega)).mono ?_
  rintro e w1 ⟨rfl, hb1⟩
  have HB1 := Lib.hid (HB0.out.trans (hb1.mono HB0.out.size))
  have KA1 := Lib.hid ((hb1.block w.heap.size (lt_of_heap KA0.out)).trans KA0.out)
  have KB1 := Lib.hid ((hb1.block (w.heap.size + 1) (lt_of_heap KB0.out)).trans KB0.out)
  have x1a : w1.cell? ⟨w.heap.size, 0, none⟩ = some (.slice o f.nodes.length c) := cell_blk KA1.out 0
  have x1b : w1.cell? ⟨w.heap.size, 1, none⟩ = some (.int .i64 f.room) := cell_blk KA1.out 1
  have y1a : w1.cell? ⟨w.heap.size + 1, 0, none⟩ = some (.int .i64 u) := cell_blk KB1.out 0
  have y1b : w1.cell? ⟨w.heap.size + 1, 1, none⟩ = some (.int .i64 g) := cell_blk KB1.out 1
  clear hb1
  go_wp2
  go_ret3
  exact ⟨rfl, HB1.out⟩
set_option maxHeartbeats 4000000 in
theorem l4Place_bad (f : FsD) (v : Value) (u g : Int) (s : ByteArray) (D p : List UInt8) (w : World) (hR : FsA w v f) (hs : szF f ≤ 1048576) (hss : s.size ≤ 1048576) (hw : wgB s.data.toList = true) (hDp : s.data.toList = D ++ 47 :: p) (hp : 47 ∉ p) (hn : nameB p = false) :
    Calls Tryz.prog 95 #[v, .agg #[.int .i64 u, .int .i64 g], .string s] w fun e w' => e = .returned (.tuple #[.int .i64 0, .string ⟨#[]⟩, .int .i64 1]) ∧ Below w.heap.size w w' := by
  have HR := Lib.hid hR
  obtain ⟨nv, rfl, hN⟩ := hR
  have HN := Lib.hid hN
  obtain ⟨o, c, rfl, hm, hH⟩ := hN
  unfold maxLen at hm
  have HS := Lib.hid hs
  have hl : f.nodes.length ≤ 1048576 := (lists_small hs).1
  have HB0 : Hid (Below w.heap.size w ((w.alloc (.cells #[.slice o f.nodes.length c, .int .i64 f.room] 26)).alloc (.cells #[.int .i64 u, .int .i64 g] 37))) := Lib.hid (((Below.refl _ _).alloc (Nat.le_refl _) _).alloc (by simp) _)
  have KA0 := Lib.hid (alloc3_fst' w (.cells #[.slice o f.nodes.length c, .int .i64 f.room] 26) (.cells #[.int .i64 u, .int .i64 g] 37))
  have KB0 := Lib.hid (alloc3_snd' w (.cells #[.slice o f.nodes.length c, .int .i64 f.room] 26) (.cells #[.int .i64 u, .int .i64 g] 37))
  clear hH
  have HW := Lib.hid hw
  have hsz : D.length + 1 ≤ s.size := by rw [← len_size, hDp]; simp
  have hlb := last_byte (s := s) (by omega)
  rw [hDp, slash_cut D p hp] at hlb
  by_cases hpe : p = []
  · subst hpe
    have hlb2 : (((s[s.size - 1]'(by omega)).toNat : Int) == 47) = true := hlb
    clear hlb hs hw hn hDp hp
    go_enter Tryz.func95, Tryz.ntmps95
    go_wp2_with fail
    refine (l2Whole_is HW.out _ (by omega)).mono ?_
    rintro e w1 ⟨rfl, hb1⟩
    have HB1 := Lib.hid (HB0.out.trans (hb1.mono HB0.out.size))
    have KA1 := Lib.hid ((hb1.block w.heap.size (lt_of_heap KA0.out)).trans KA0.out)
    have KB1 := Lib.hid ((hb1.block (w.heap.size + 1) (lt_of_heap KB0.out)).trans KB0.out)
    have x1a : w1.cell? ⟨w.heap.size, 0, none⟩ = some (.slice o f.nodes.length c) := cell_blk KA1.out 0
    have x1b : w1.cell? ⟨w.heap.size, 1, none⟩ = some (.int .i64 f.room) := cell_blk KA1.out 1
    have y1a : w1.cell? ⟨w.heap.size + 1, 0, none⟩ = some (.int .i64 u) := cell_blk KB1.out 0
    have y1b : w1.cell? ⟨w.heap.size + 1, 1, none⟩ = some (.int .i64 g) := cell_blk KB1.out 1
    clear hb1
    go_wp2
    go_ret3
    exact ⟨rfl, HB1.out⟩
  · have hlb2 : (((s[s.size - 1]'(by omega)).toNat : Int) == 47) = false := by
      rw [hlb]; cases p with | nil => exact absurd rfl hpe | cons => rfl
    have HPT : Hid (parts s.data.toList = parts D ++ [p]) := Lib.hid (by rw [hDp, parts_cut D p hp, full_one hpe])
    have HNM : Hid (nameB (bs p).data.toList = false) := Lib.hid (by rw [bs_list]; exact hn)
    have hpz : (bs p).size ≤ maxLen := by have h8 := congrArg List.length hDp; rw [len_size] at h8; simp at h8; rw [bs_size]; unfold maxLen; omega
    clear hlb hs hw hn hDp hp hpe
    go_enter Tryz.func95, Tryz.ntmps95
    go_wp2_with fail
    refine (l2Whole_is HW.out _ (by omega)).mono ?_
    rintro e w1 ⟨rfl, hb1⟩
    have HB1 := Lib.hid (HB0.out.trans (hb1.mono HB0.out.size))
    have KA1 := Lib.hid ((hb1.block w.heap.size (lt_of_heap KA0.out)).trans KA0.out)
    have KB1 := Lib.hid ((hb1.block (w.heap.size + 1) (lt_of_heap KB0.out)).trans KB0.out)
    have x1a : w1.cell? ⟨w.heap.size, 0, none⟩ = some (.slice o f.nodes.length c) := cell_blk KA1.out 0
    have x1b : w1.cell? ⟨w.heap.size, 1, none⟩ = some (.int .i64 f.room) := cell_blk KA1.out 1
    have y1a : w1.cell? ⟨w.heap.size + 1, 0, none⟩ = some (.int .i64 u) := cell_blk KB1.out 0
    have y1b : w1.cell? ⟨w.heap.size + 1, 1, none⟩ = some (.int .i64 g) := cell_blk KB1.out 1
    clear hb1
    go_wp2_with fail
    refine (l2Parts_any s _ (by omega)).mono ?_
    rintro e w2 ⟨pv, rfl, hL, hb2⟩
    rw [HPT.out] at hL
    obtain ⟨gg, cap, rfl, hlc, hcm, hlast⟩ := lst_last hL
    unfold maxLen at hcm
    have HB2 := Lib.hid (HB1.out.trans (hb2.mono HB1.out.size))
    obtain ⟨x, hx⟩ : ∃ x, x = bs p := ⟨_, rfl⟩
    rw [← hx] at hlast HNM hpz
    clear hb2 hL hx
    go_wp2_with fail
    refine (l2Name_is4 HNM.out hpz).mono ?_
    rintro e w3 ⟨rfl, rfl⟩
    go_wp2
    go_ret3
    exact ⟨rfl, HB2.out⟩
def nmIf (c : Int) (p : List UInt8) : List UInt8 := if c = 0 then p else []
theorem nmIf_not {c : Int} (h : c ≠ 0) (p : List UInt8) : nmIf c p = [] := if_neg h
theorem l4Ahead_is {D p : List UInt8} {s a : ByteArray} {w : World} (hs : s.data.toList = D ++ 47 :: p) (hp : 47 ∉ p) (hz : s.size ≤ 1073741824) (ha : a = bs (aheadS (D ++ [47]))) :
    Calls Tryz.prog 136 #[.string s] w fun e w' => e = .returned (.string a) ∧ Below w.heap.size w w' := by
  rw [ha]; exact l4Ahead_any D p s w hs hp hz
theorem l4Find_is {f : FsD} {v : Value} {u g : Int} {s : ByteArray} {fol : Bool} {w : World} {cd : Int} {nd : Nat} (h : lkFind f.nodes u g s.data.toList fol = (cd, nd)) (hR : FsA w v f) (hF : LookFs f) (hLL : LinkLen f.nodes) (hs : s.size ≤ 1073741824) :
    Calls Tryz.prog 93 #[v, .agg #[.int .i64 u, .int .i64 g], .string s, .bool fol] w fun e w' => e = .returned (.tuple #[.int .i64 (nd : Int), .int .i64 cd]) ∧ Below w.heap.size w w' := by
  have := l4Find_any f v u g s fol w hR hF hLL hs
  rw [h] at this
  exact this
set_option maxHeartbeats 8000000 in
theorem l4Place_good (f : FsD) (v : Value) (u g : Int) (s : ByteArray) (D p : List UInt8) (w : World) (hR : FsA w v f) (hs : szF f ≤ 1048576) (hk : askB4 f u g = true) (hss : s.size ≤ 1048576) (hw : wgB s.data.toList = true) (hDp : s.data.toList = D ++ 47 :: p) (hp : 47 ∉ p) (hn : nameB p = true) :
    Calls Tryz.prog 95 #[v, .agg #[.int .i64 u, .int .i64 g], .string s] w fun e w' => e = .returned (.tuple #[.int .i64 ((dirW f.nodes u g (aheadS (D ++ [47])) 1).2 : Nat), .string (bs (nmIf (dirW f.nodes u g (aheadS (D ++ [47])) 1).1 p)), .int .i64 (dirW f.nodes u g (aheadS (D ++ [47])) 1).1]) ∧ Below w.heap.size w w' := by
  have HR := Lib.hid hR
  obtain ⟨nv, rfl, hN⟩ := hR
  have HN := Lib.hid hN
  obtain ⟨o, c, rfl, hm, hH⟩ := hN
  have HH := Lib.hid hH
  unfold maxLen at hm
  have HS := Lib.hid hs
  have hl : f.nodes.length ≤ 1048576 := (lists_small hs).1
  have HB0 : Hid (Below w.heap.size w ((w.alloc (.cells #[.slice o f.nodes.length c, .int .i64 f.room] 26)).alloc (.cells #[.int .i64 u, .int .i64 g] 37))) := Lib.hid (((Below.refl _ _).alloc (Nat.le_refl _) _).alloc (by simp) _)
  have KA0 := Lib.hid (alloc3_fst' w (.cells #[.slice o f.nodes.length c, .int .i64 f.room] 26) (.cells #[.int .i64 u, .int .i64 g] 37))
  have KB0 := Lib.hid (alloc3_snd' w (.cells #[.slice o f.nodes.length c, .int .i64 f.room] 26) (.cells #[.int .i64 u, .int .i64 g] 37))
  clear hH
  have HK := Lib.hid hk
  have HL := Lib.hid (look_of (ask_good hk) HS.out)
  have HW := Lib.hid hw
  have hsz : D.length + 1 ≤ s.size := by rw [← len_size, hDp]; simp
  have hpe := (name_is4 hn).2.2.2
  have hlb := last_byte (s := s) (by omega)
  rw [hDp, slash_cut D p hp] at hlb
  have hlb2 : (((s[s.size - 1]'(by omega)).toNat : Int) == 47) = false := by
    rw [hlb]; cases p with | nil => exact absurd rfl hpe | cons => rfl
  have HPT : Hid (parts s.data.toList = parts D ++ [p]) := Lib.hid (by rw [hDp, parts_cut D p hp, full_one hpe])
  have HNM : Hid (nameB (bs p).data.toList = true) := Lib.hid (by rw [bs_list]; exact hn)
  have HBL : Hid (bs (baseL s.data.toList) = bs p) := Lib.hid (by rw [hDp, baseL_cut hp hn])
  have hpz : (bs p).size ≤ maxLen := by have h8 := congrArg List.length hDp; rw [len_size] at h8; simp at h8; rw [bs_size]; unfold maxLen; omega
  obtain ⟨t1, t2, t3⟩ := text_ne hpe
  have HDP := Lib.hid hDp
  have HP := Lib.hid hp
  obtain ⟨A, hA⟩ : ∃ A, A = aheadS (D ++ [47]) := ⟨_, rfl⟩
  obtain ⟨a, ha⟩ : ∃ a, a = bs A := ⟨_, rfl⟩
  have HAS : Hid (a = bs (aheadS (D ++ [47]))) := Lib.hid (by rw [ha, hA])
  have hsa : a.size ≤ 1073741824 := by
    obtain ⟨-, j, e⟩ := struck_aheadS (l := D ++ [47]) (by simp)
    rw [← hA] at e
    have := congrArg List.length e
    simp at this
    rw [ha, bs_size]; omega
  rw [← hA]
  obtain ⟨⟨cd, nd⟩, hfd⟩ : ∃ q, lkFind f.nodes u g A true = q := ⟨_, rfl⟩
  have hlt : nd < f.nodes.length := by have h7 := lkFind_lt HL.out.1 u g A true; rw [hfd] at h7; exact h7
  have HFD : Hid (lkFind f.nodes u g a.data.toList true = (cd, nd)) := Lib.hid (by rw [ha, bs_list]; exact hfd)
  obtain ⟨x, hx⟩ : ∃ x, x = bs p := ⟨_, rfl⟩
  have HX := Lib.hid hx
  rw [← hx] at HNM HBL hpz t1 t2 t3
  clear hlb hs hw hn hDp hp hpe hk hA ha
  by_cases hc : cd = 0
  · subst hc
    by_cases hk2 : (nodeAt f.nodes nd).kind = 2
    · have HMO : Hid (inB 0 511 (nodeAt f.nodes nd).mode = true) := Lib.hid (HL.out.1.mode nd hlt (by rw [hk2]; decide))
      obtain ⟨mb, hmb⟩ : ∃ mb, mayB u g (nodeAt f.nodes nd).mode (nodeAt f.nodes nd).uid (nodeAt f.nodes nd).gid 1 = mb := ⟨_, rfl⟩
      have HMB := Lib.hid hmb
      cases mb with
      | true =>
        have HV : Hid (dirW f.nodes u g A 1 = (0, nd)) := Lib.hid (by unfold dirW dirC; rw [hfd]; simp [hk2, hmb])
        clear hfd hmb
        go_enter Tryz.func95, Tryz.ntmps95
        go_wp2_with fail
        refine (l2Whole_is HW.out _ (by omega)).mono ?_
        rintro e w1 ⟨rfl, hb1⟩
        have HB1 := Lib.hid (HB0.out.trans (hb1.mono HB0.out.size))
        have KA1 := Lib.hid ((hb1.block w.heap.size (lt_of_heap KA0.out)).trans KA0.out)
        have KB1 := Lib.hid ((hb1.block (w.heap.size + 1) (lt_of_heap KB0.out)).trans KB0.out)
        have x1a : w1.cell? ⟨w.heap.size, 0, none⟩ = some (.slice o f.nodes.length c) := cell_blk KA1.out 0
        have x1b : w1.cell? ⟨w.heap.size, 1, none⟩ = some (.int .i64 f.room) := cell_blk KA1.out 1
        have y1a : w1.cell? ⟨w.heap.size + 1, 0, none⟩ = some (.int .i64 u) := cell_blk KB1.out 0
        have y1b : w1.cell? ⟨w.heap.size + 1, 1, none⟩ = some (.int .i64 g) := cell_blk KB1.out 1
        clear hb1
        go_wp2_with fail
        refine (l2Parts_any s _ (by omega)).mono ?_
        rintro e w2 ⟨pv, rfl, hL, hb2⟩
        rw [HPT.out] at hL
        obtain ⟨gg, cap, rfl, hlc, hcm, hlast⟩ := lst_last hL
        unfold maxLen at hcm
        have HB2 := Lib.hid (HB1.out.trans (hb2.mono HB1.out.size))
        have KA2 := Lib.hid ((hb2.block w.heap.size (lt_of_heap KA1.out)).trans KA1.out)
        have KB2 := Lib.hid ((hb2.block (w.heap.size + 1) (lt_of_heap KB1.out)).trans KB1.out)
        have x2a : w2.cell? ⟨w.heap.size, 0, none⟩ = some (.slice o f.nodes.length c) := cell_blk KA2.out 0
        have x2b : w2.cell? ⟨w.heap.size, 1, none⟩ = some (.int .i64 f.room) := cell_blk KA2.out 1
        have y2a : w2.cell? ⟨w.heap.size + 1, 0, none⟩ = some (.int .i64 u) := cell_blk KB2.out 0
        have y2b : w2.cell? ⟨w.heap.size + 1, 1, none⟩ = some (.int .i64 g) := cell_blk KB2.out 1
        rw [← hx] at hlast
        clear hb2 hL hx
        go_wp2_with fail
        refine (l2Name_is4 HNM.out hpz).mono ?_
        rintro e w3 ⟨rfl, rfl⟩
        go_wp2_with fail
        refine (l2Last_any s _ (by omega) (by omega)).mono ?_
        rintro e w3 ⟨rfl, hb3⟩
        rw [HBL.out]
        have HB3 := Lib.hid (HB2.out.trans (hb3.mono HB2.out.size))
        have KA3 := Lib.hid ((hb3.block w.heap.size (lt_of_heap KA2.out)).trans KA2.out)
        have KB3 := Lib.hid ((hb3.block (w.heap.size + 1) (lt_of_heap KB2.out)).trans KB2.out)
        have x3a : w3.cell? ⟨w.heap.size, 0, none⟩ = some (.slice o f.nodes.length c) := cell_blk KA3.out 0
        have x3b : w3.cell? ⟨w.heap.size, 1, none⟩ = some (.int .i64 f.room) := cell_blk KA3.out 1
        have y3a : w3.cell? ⟨w.heap.size + 1, 0, none⟩ = some (.int .i64 u) := cell_blk KB3.out 0
        have y3b : w3.cell? ⟨w.heap.size + 1, 1, none⟩ = some (.int .i64 g) := cell_blk KB3.out 1
        clear hb3
        have z0 := fun d os => cell_regrown (w := w3) x3a d os
        have z1 := fun d os => cell_regrown (w := w3) x3b d os
        have z2 := fun d os => cell_regrown (w := w3) y3a d os
        have z3 := fun d os => cell_regrown (w := w3) y3b d os
        have HR3 := Lib.hid (HR.out.below HB3.out)
        go_wp2
        refine wp_region_quiet_below (by kernel_rfl) (by kernel_rfl) ?_
        repeat (first | go_big_quiet_step (first | (go_at_call 136; exact Calls.regrown_of (l4Ahead_is HDP.out HP.out (by omega) HAS.out)) | (go_at_call 93; exact Calls.regrown_of (l4Find_is HFD.out (HR3.out.below (below_regrown _ _ _)) HL.out.1 HL.out.2 hsa))) | quiet_step (first | (go_at_call 136; exact Calls.regrown_of (l4Ahead_is HDP.out HP.out (by omega) HAS.out)) | (go_at_call 93; exact Calls.regrown_of (l4Find_is HFD.out (HR3.out.below (below_regrown _ _ _)) HL.out.1 HL.out.2 hsa))))
        refine wpQuiet_nil ?_
        intro w5 hwq
        have hb5 : Below w3.heap.size w3 w5 := by
          obtain ⟨pp, rfl⟩ := hwq
          exact below_regrown _ _ _
        clear hwq z0 z1 z2 z3
        have HB5 := Lib.hid (HB3.out.trans (hb5.mono HB3.out.size))
        have KA5 := Lib.hid ((hb5.block w.heap.size (lt_of_heap KA3.out)).trans KA3.out)
        have KB5 := Lib.hid ((hb5.block (w.heap.size + 1) (lt_of_heap KB3.out)).trans KB3.out)
        have x5a : w5.cell? ⟨w.heap.size, 0, none⟩ = some (.slice o f.nodes.length c) := cell_blk KA5.out 0
        have x5b : w5.cell? ⟨w.heap.size, 1, none⟩ = some (.int .i64 f.room) := cell_blk KA5.out 1
        have y5a : w5.cell? ⟨w.heap.size + 1, 0, none⟩ = some (.int .i64 u) := cell_blk KB5.out 0
        have y5b : w5.cell? ⟨w.heap.size + 1, 1, none⟩ = some (.int .i64 g) := cell_blk KB5.out 1
        clear hb5
        obtain ⟨g3, f3, lv3, e3, hcc, hee⟩ := nod_cells (c := c) HH.out hlt HB5.out
        obtain ⟨d0, d1, d2, d3, d4, d5, d6⟩ := hcc
        subst e3
        clear hee
        rw [hk2] at d0
        go_wp2_with fail
        refine (l4May_any f _ u g nd 1 _ (HR.out.below HB5.out) hlt HMO.out hl).mono ?_
        rintro e w6 ⟨rfl, hb6⟩
        rw [HMB.out]
        have HB6 := Lib.hid (HB5.out.trans (hb6.mono HB5.out.size))
        clear hb6
        go_wp2
        go_ret3
        exact ⟨by rw [HV.out, HX.out]; rfl, HB6.out⟩
      | false =>
        have HV : Hid (dirW f.nodes u g A 1 = (4, 0)) := Lib.hid (by unfold dirW dirC; rw [hfd]; simp [hk2, hmb])
        clear hfd hmb
        go_enter Tryz.func95, Tryz.ntmps95
        go_wp2_with fail
        refine (l2Whole_is HW.out _ (by omega)).mono ?_
        rintro e w1 ⟨rfl, hb1⟩
        have HB1 := Lib.hid (HB0.out.trans (hb1.mono HB0.out.size))
        have KA1 := Lib.hid ((hb1.block w.heap.size (lt_of_heap KA0.out)).trans KA0.out)
        have KB1 := Lib.hid ((hb1.block (w.heap.size + 1) (lt_of_heap KB0.out)).trans KB0.out)
        have x1a : w1.cell? ⟨w.heap.size, 0, none⟩ = some (.slice o f.nodes.length c) := cell_blk KA1.out 0
        have x1b : w1.cell? ⟨w.heap.size, 1, none⟩ = some (.int .i64 f.room) := cell_blk KA1.out 1
        have y1a : w1.cell? ⟨w.heap.size + 1, 0, none⟩ = some (.int .i64 u) := cell_blk KB1.out 0
        have y1b : w1.cell? ⟨w.heap.size + 1, 1, none⟩ = some (.int .i64 g) := cell_blk KB1.out 1
        clear hb1
        go_wp2_with fail
        refine (l2Parts_any s _ (by omega)).mono ?_
        rintro e w2 ⟨pv, rfl, hL, hb2⟩
        rw [HPT.out] at hL
        obtain ⟨gg, cap, rfl, hlc, hcm, hlast⟩ := lst_last hL
        unfold maxLen at hcm
        have HB2 := Lib.hid (HB1.out.trans (hb2.mono HB1.out.size))
        have KA2 := Lib.hid ((hb2.block w.heap.size (lt_of_heap KA1.out)).trans KA1.out)
        have KB2 := Lib.hid ((hb2.block (w.heap.size + 1) (lt_of_heap KB1.out)).trans KB1.out)
        have x2a : w2.cell? ⟨w.heap.size, 0, none⟩ = some (.slice o f.nodes.length c) := cell_blk KA2.out 0
        have x2b : w2.cell? ⟨w.heap.size, 1, none⟩ = some (.int .i64 f.room) := cell_blk KA2.out 1
        have y2a : w2.cell? ⟨w.heap.size + 1, 0, none⟩ = some (.int .i64 u) := cell_blk KB2.out 0
        have y2b : w2.cell? ⟨w.heap.size + 1, 1, none⟩ = some (.int .i64 g) := cell_blk KB2.out 1
        rw [← hx] at hlast
        clear hb2 hL hx
        go_wp2_with fail
        refine (l2Name_is4 HNM.out hpz).mono ?_
        rintro e w3 ⟨rfl, rfl⟩
        go_wp2_with fail
        refine (l2Last_any s _ (by omega) (by omega)).mono ?_
        rintro e w3 ⟨rfl, hb3⟩
        rw [HBL.out]
        have HB3 := Lib.hid (HB2.out.trans (hb3.mono HB2.out.size))
        have KA3 := Lib.hid ((hb3.block w.heap.size (lt_of_heap KA2.out)).trans KA2.out)
        have KB3 := Lib.hid ((hb3.block (w.heap.size + 1) (lt_of_heap KB2.out)).trans KB2.out)
        have x3a : w3.cell? ⟨w.heap.size, 0, none⟩ = some (.slice o f.nodes.length c) := cell_blk KA3.out 0
        have x3b : w3.cell? ⟨w.heap.size, 1, none⟩ = some (.int .i64 f.room) := cell_blk KA3.out 1
        have y3a : w3.cell? ⟨w.heap.size + 1, 0, none⟩ = some (.int .i64 u) := cell_blk KB3.out 0
        have y3b : w3.cell? ⟨w.heap.size + 1, 1, none⟩ = some (.int .i64 g) := cell_blk KB3.out 1
        clear hb3
        have z0 := fun d os => cell_regrown (w := w3) x3a d os
        have z1 := fun d os => cell_regrown (w := w3) x3b d os
        have z2 := fun d os => cell_regrown (w := w3) y3a d os
        have z3 := fun d os => cell_regrown (w := w3) y3b d os
        have HR3 := Lib.hid (HR.out.below HB3.out)
        go_wp2
        refine wp_region_quiet_below (by kernel_rfl) (by kernel_rfl) ?_
        repeat (first | go_big_quiet_step (first | (go_at_call 136; exact Calls.regrown_of (l4Ahead_is HDP.out HP.out (by omega) HAS.out)) | (go_at_call 93; exact Calls.regrown_of (l4Find_is HFD.out (HR3.out.below (below_regrown _ _ _)) HL.out.1 HL.out.2 hsa))) | quiet_step (first | (go_at_call 136; exact Calls.regrown_of (l4Ahead_is HDP.out HP.out (by omega) HAS.out)) | (go_at_call 93; exact Calls.regrown_of (l4Find_is HFD.out (HR3.out.below (below_regrown _ _ _)) HL.out.1 HL.out.2 hsa))))
        refine wpQuiet_nil ?_
        intro w5 hwq
        have hb5 : Below w3.heap.size w3 w5 := by
          obtain ⟨pp, rfl⟩ := hwq
          exact below_regrown _ _ _
        clear hwq z0 z1 z2 z3
        have HB5 := Lib.hid (HB3.out.trans (hb5.mono HB3.out.size))
        have KA5 := Lib.hid ((hb5.block w.heap.size (lt_of_heap KA3.out)).trans KA3.out)
        have KB5 := Lib.hid ((hb5.block (w.heap.size + 1) (lt_of_heap KB3.out)).trans KB3.out)
        have x5a : w5.cell? ⟨w.heap.size, 0, none⟩ = some (.slice o f.nodes.length c) := cell_blk KA5.out 0
        have x5b : w5.cell? ⟨w.heap.size, 1, none⟩ = some (.int .i64 f.room) := cell_blk KA5.out 1
        have y5a : w5.cell? ⟨w.heap.size + 1, 0, none⟩ = some (.int .i64 u) := cell_blk KB5.out 0
        have y5b : w5.cell? ⟨w.heap.size + 1, 1, none⟩ = some (.int .i64 g) := cell_blk KB5.out 1
        clear hb5
        obtain ⟨g3, f3, lv3, e3, hcc, hee⟩ := nod_cells (c := c) HH.out hlt HB5.out
        obtain ⟨d0, d1, d2, d3, d4, d5, d6⟩ := hcc
        subst e3
        clear hee
        rw [hk2] at d0
        go_wp2_with fail
        refine (l4May_any f _ u g nd 1 _ (HR.out.below HB5.out) hlt HMO.out hl).mono ?_
        rintro e w6 ⟨rfl, hb6⟩
        rw [HMB.out]
        have HB6 := Lib.hid (HB5.out.trans (hb6.mono HB5.out.size))
        clear hb6
        go_wp2
        go_ret3
        exact ⟨by rw [HV.out]; rfl, HB6.out⟩
    · have HV : Hid (dirW f.nodes u g A 1 = (3, 0)) := Lib.hid (by unfold dirW dirC; rw [hfd]; simp [hk2])
      have kb : ((nodeAt f.nodes nd).kind == 2) = false := beq_eq_false_iff_ne.2 hk2
      have kc : ((nodeAt f.nodes nd).kind != 2) = true := by rw [bne_iff_ne]; exact hk2
      clear hfd
      go_enter Tryz.func95, Tryz.ntmps95
      go_wp2_with fail
      refine (l2Whole_is HW.out _ (by omega)).mono ?_
      rintro e w1 ⟨rfl, hb1⟩
      have HB1 := Lib.hid (HB0.out.trans (hb1.mono HB0.out.size))
      have KA1 := Lib.hid ((hb1.block w.heap.size (lt_of_heap KA0.out)).trans KA0.out)
      have KB1 := Lib.hid ((hb1.block (w.heap.size + 1) (lt_of_heap KB0.out)).trans KB0.out)
      have x1a : w1.cell? ⟨w.heap.size, 0, none⟩ = some (.slice o f.nodes.length c) := cell_blk KA1.out 0
      have x1b : w1.cell? ⟨w.heap.size, 1, none⟩ = some (.int .i64 f.room) := cell_blk KA1.out 1
      have y1a : w1.cell? ⟨w.heap.size + 1, 0, none⟩ = some (.int .i64 u) := cell_blk KB1.out 0
      have y1b : w1.cell? ⟨w.heap.size + 1, 1, none⟩ = some (.int .i64 g) := cell_blk KB1.out 1
      clear hb1
      go_wp2_with fail
      refine (l2Parts_any s _ (by omega)).mono ?_
      rintro e w2 ⟨pv, rfl, hL, hb2⟩
      rw [HPT.out] at hL
      obtain ⟨gg, cap, rfl, hlc, hcm, hlast⟩ := lst_last hL
      unfold maxLen at hcm
      have HB2 := Lib.hid (HB1.out.trans (hb2.mono HB1.out.size))
      have KA2 := Lib.hid ((hb2.block w.heap.size (lt_of_heap KA1.out)).trans KA1.out)
      have KB2 := Lib.hid ((hb2.block (w.heap.size + 1) (lt_of_heap KB1.out)).trans KB1.out)
      have x2a : w2.cell? ⟨w.heap.size, 0, none⟩ = some (.slice o f.nodes.length c) := cell_blk KA2.out 0
      have x2b : w2.cell? ⟨w.heap.size, 1, none⟩ = some (.int .i64 f.room) := cell_blk KA2.out 1
      have y2a : w2.cell? ⟨w.heap.size + 1, 0, none⟩ = some (.int .i64 u) := cell_blk KB2.out 0
      have y2b : w2.cell? ⟨w.heap.size + 1, 1, none⟩ = some (.int .i64 g) := cell_blk KB2.out 1
      rw [← hx] at hlast
      clear hb2 hL hx
      go_wp2_with fail
      refine (l2Name_is4 HNM.out hpz).mono ?_
      rintro e w3 ⟨rfl, rfl⟩
      go_wp2_with fail
      refine (l2Last_any s _ (by omega) (by omega)).mono ?_
      rintro e w3 ⟨rfl, hb3⟩
      rw [HBL.out]
      have HB3 := Lib.hid (HB2.out.trans (hb3.mono HB2.out.size))
      have KA3 := Lib.hid ((hb3.block w.heap.size (lt_of_heap KA2.out)).trans KA2.out)
      have KB3 := Lib.hid ((hb3.block (w.heap.size + 1) (lt_of_heap KB2.out)).trans KB2.out)
      have x3a : w3.cell? ⟨w.heap.size, 0, none⟩ = some (.slice o f.nodes.length c) := cell_blk KA3.out 0
      have x3b : w3.cell? ⟨w.heap.size, 1, none⟩ = some (.int .i64 f.room) := cell_blk KA3.out 1
      have y3a : w3.cell? ⟨w.heap.size + 1, 0, none⟩ = some (.int .i64 u) := cell_blk KB3.out 0
      have y3b : w3.cell? ⟨w.heap.size + 1, 1, none⟩ = some (.int .i64 g) := cell_blk KB3.out 1
      clear hb3
      have z0 := fun d os => cell_regrown (w := w3) x3a d os
      have z1 := fun d os => cell_regrown (w := w3) x3b d os
      have z2 := fun d os => cell_regrown (w := w3) y3a d os
      have z3 := fun d os => cell_regrown (w := w3) y3b d os
      have HR3 := Lib.hid (HR.out.below HB3.out)
      go_wp2
      refine wp_region_quiet_below (by kernel_rfl) (by kernel_rfl) ?_
      repeat (first | go_big_quiet_step (first | (go_at_call 136; exact Calls.regrown_of (l4Ahead_is HDP.out HP.out (by omega) HAS.out)) | (go_at_call 93; exact Calls.regrown_of (l4Find_is HFD.out (HR3.out.below (below_regrown _ _ _)) HL.out.1 HL.out.2 hsa))) | quiet_step (first | (go_at_call 136; exact Calls.regrown_of (l4Ahead_is HDP.out HP.out (by omega) HAS.out)) | (go_at_call 93; exact Calls.regrown_of (l4Find_is HFD.out (HR3.out.below (below_regrown _ _ _)) HL.out.1 HL.out.2 hsa))))
      refine wpQuiet_nil ?_
      intro w5 hwq
      have hb5 : Below w3.heap.size w3 w5 := by
        obtain ⟨pp, rfl⟩ := hwq
        exact below_regrown _ _ _
      clear hwq z0 z1 z2 z3
      have HB5 := Lib.hid (HB3.out.trans (hb5.mono HB3.out.size))
      have KA5 := Lib.hid ((hb5.block w.heap.size (lt_of_heap KA3.out)).trans KA3.out)
      have KB5 := Lib.hid ((hb5.block (w.heap.size + 1) (lt_of_heap KB3.out)).trans KB3.out)
      have x5a : w5.cell? ⟨w.heap.size, 0, none⟩ = some (.slice o f.nodes.length c) := cell_blk KA5.out 0
      have x5b : w5.cell? ⟨w.heap.size, 1, none⟩ = some (.int .i64 f.room) := cell_blk KA5.out 1
      have y5a : w5.cell? ⟨w.heap.size + 1, 0, none⟩ = some (.int .i64 u) := cell_blk KB5.out 0
      have y5b : w5.cell? ⟨w.heap.size + 1, 1, none⟩ = some (.int .i64 g) := cell_blk KB5.out 1
      clear hb5
      obtain ⟨g3, f3, lv3, e3, hcc, hee⟩ := nod_cells (c := c) HH.out hlt HB5.out
      obtain ⟨d0, d1, d2, d3, d4, d5, d6⟩ := hcc
      subst e3
      clear hee
      go_wp2
      go_ret3
      exact ⟨by rw [HV.out]; rfl, HB5.out⟩
  · have HV : Hid (dirW f.nodes u g A 1 = (cd, 0)) := Lib.hid (by unfold dirW; rw [hfd]; simp [hc])
    have cb : (cd == 0) = false := beq_eq_false_iff_ne.2 hc
    have cc : (cd != 0) = true := by rw [bne_iff_ne]; exact hc
    have HNC := Lib.hid hc
    clear hfd hc
    go_enter Tryz.func95, Tryz.ntmps95
    go_wp2_with fail
    refine (l2Whole_is HW.out _ (by omega)).mono ?_
    rintro e w1 ⟨rfl, hb1⟩
    have HB1 := Lib.hid (HB0.out.trans (hb1.mono HB0.out.size))
    have KA1 := Lib.hid ((hb1.block w.heap.size (lt_of_heap KA0.out)).trans KA0.out)
    have KB1 := Lib.hid ((hb1.block (w.heap.size + 1) (lt_of_heap KB0.out)).trans KB0.out)
    have x1a : w1.cell? ⟨w.heap.size, 0, none⟩ = some (.slice o f.nodes.length c) := cell_blk KA1.out 0
    have x1b : w1.cell? ⟨w.heap.size, 1, none⟩ = some (.int .i64 f.room) := cell_blk KA1.out 1
    have y1a : w1.cell? ⟨w.heap.size + 1, 0, none⟩ = some (.int .i64 u) := cell_blk KB1.out 0
    have y1b : w1.cell? ⟨w.heap.size + 1, 1, none⟩ = some (.int .i64 g) := cell_blk KB1.out 1
    clear hb1
    go_wp2_with fail
    refine (l2Parts_any s _ (by omega)).mono ?_
    rintro e w2 ⟨pv, rfl, hL, hb2⟩
    rw [HPT.out] at hL
    obtain ⟨gg, cap, rfl, hlc, hcm, hlast⟩ := lst_last hL
    unfold maxLen at hcm
    have HB2 := Lib.hid (HB1.out.trans (hb2.mono HB1.out.size))
    have KA2 := Lib.hid ((hb2.block w.heap.size (lt_of_heap KA1.out)).trans KA1.out)
    have KB2 := Lib.hid ((hb2.block (w.heap.size + 1) (lt_of_heap KB1.out)).trans KB1.out)
    have x2a : w2.cell? ⟨w.heap.size, 0, none⟩ = some (.slice o f.nodes.length c) := cell_blk KA2.out 0
    have x2b : w2.cell? ⟨w.heap.size, 1, none⟩ = some (.int .i64 f.room) := cell_blk KA2.out 1
    have y2a : w2.cell? ⟨w.heap.size + 1, 0, none⟩ = some (.int .i64 u) := cell_blk KB2.out 0
    have y2b : w2.cell? ⟨w.heap.size + 1, 1, none⟩ = some (.int .i64 g) := cell_blk KB2.out 1
    rw [← hx] at hlast
    clear hb2 hL hx
    go_wp2_with fail
    refine (l2Name_is4 HNM.out hpz).mono ?_
    rintro e w3 ⟨rfl, rfl⟩
    go_wp2_with fail
    refine (l2Last_any s _ (by omega) (by omega)).mono ?_
    rintro e w3 ⟨rfl, hb3⟩
    rw [HBL.out]
    have HB3 := Lib.hid (HB2.out.trans (hb3.mono HB2.out.size))
    have KA3 := Lib.hid ((hb3.block w.heap.size (lt_of_heap KA2.out)).trans KA2.out)
    have KB3 := Lib.hid ((hb3.block (w.heap.size + 1) (lt_of_heap KB2.out)).trans KB2.out)
    have x3a : w3.cell? ⟨w.heap.size, 0, none⟩ = some (.slice o f.nodes.length c) := cell_blk KA3.out 0
    have x3b : w3.cell? ⟨w.heap.size, 1, none⟩ = some (.int .i64 f.room) := cell_blk KA3.out 1
    have y3a : w3.cell? ⟨w.heap.size + 1, 0, none⟩ = some (.int .i64 u) := cell_blk KB3.out 0
    have y3b : w3.cell? ⟨w.heap.size + 1, 1, none⟩ = some (.int .i64 g) := cell_blk KB3.out 1
    clear hb3
    have z0 := fun d os => cell_regrown (w := w3) x3a d os
    have z1 := fun d os => cell_regrown (w := w3) x3b d os
    have z2 := fun d os => cell_regrown (w := w3) y3a d os
    have z3 := fun d os => cell_regrown (w := w3) y3b d os
    have HR3 := Lib.hid (HR.out.below HB3.out)
    go_wp2
    refine wp_region_quiet_below (by kernel_rfl) (by kernel_rfl) ?_
    repeat (first | go_big_quiet_step (first | (go_at_call 136; exact Calls.regrown_of (l4Ahead_is HDP.out HP.out (by omega) HAS.out)) | (go_at_call 93; exact Calls.regrown_of (l4Find_is HFD.out (HR3.out.below (below_regrown _ _ _)) HL.out.1 HL.out.2 hsa))) | quiet_step (first | (go_at_call 136; exact Calls.regrown_of (l4Ahead_is HDP.out HP.out (by omega) HAS.out)) | (go_at_call 93; exact Calls.regrown_of (l4Find_is HFD.out (HR3.out.below (below_regrown _ _ _)) HL.out.1 HL.out.2 hsa))))
    refine wpQuiet_nil ?_
    intro w5 hwq
    have hb5 : Below w3.heap.size w3 w5 := by
      obtain ⟨pp, rfl⟩ := hwq
      exact below_regrown _ _ _
    clear hwq z0 z1 z2 z3
    have HB5 := Lib.hid (HB3.out.trans (hb5.mono HB3.out.size))
    have KA5 := Lib.hid ((hb5.block w.heap.size (lt_of_heap KA3.out)).trans KA3.out)
    have KB5 := Lib.hid ((hb5.block (w.heap.size + 1) (lt_of_heap KB3.out)).trans KB3.out)
    have x5a : w5.cell? ⟨w.heap.size, 0, none⟩ = some (.slice o f.nodes.length c) := cell_blk KA5.out 0
    have x5b : w5.cell? ⟨w.heap.size, 1, none⟩ = some (.int .i64 f.room) := cell_blk KA5.out 1
    have y5a : w5.cell? ⟨w.heap.size + 1, 0, none⟩ = some (.int .i64 u) := cell_blk KB5.out 0
    have y5b : w5.cell? ⟨w.heap.size + 1, 1, none⟩ = some (.int .i64 g) := cell_blk KB5.out 1
    clear hb5
    go_wp2
    go_ret3
    exact ⟨by rw [HV.out]; show _ = Ending.returned (.tuple #[.int .i64 ((0 : Nat) : Int), .string (bs (nmIf cd p)), .int .i64 cd]); rw [nmIf_not HNC.out]; rfl, HB5.out⟩
end Go.Proofs.YtgmkfhhlnhgkhaaGreatDoor


/-
  FindPlace of the program and of the model.
  Conditions: at most 2^20 values and letters together; a text of at most 2^20 bytes; the variable errors.errorType as the program's text lays it.
-/
namespace Go.Proofs.YtgmkfhhlnhgkhaaGreatDoor
open Go.ChangeShapes Go.WideShapes Go.ChangeAt Go.RowKit Go.Joins
set_option linter.unusedVariables false
set_option linter.unusedSimpArgs false

def cutP (l : List UInt8) : List UInt8 := (sp l).2
def cutD (l : List UInt8) : List UInt8 := l.take (l.length - (cutP l).length - 1)
theorem cut_is (D p : List UInt8) (hp : 47 ∉ p) : cutP (D ++ 47 :: p) = p ∧ cutD (D ++ 47 :: p) = D := by
  have h1 : cutP (D ++ 47 :: p) = p := by
    unfold cutP
    rw [show D ++ 47 :: p = (D ++ [47]) ++ p by simp, sp_app _ _ (fun c hc h => hp (h ▸ hc)), sp_snoc, spStep, if_pos rfl]
    simp
  refine ⟨h1, ?_⟩
  unfold cutD
  rw [h1]
  have : (D ++ 47 :: p).length - p.length - 1 = D.length := by simp; omega
  rw [this]; simp
theorem whole_mem {l : List UInt8} (h : wholeB l = true) : 47 ∈ l := by
  cases l with
  | nil => simp [wholeB] at h
  | cons c l => simp [wholeB] at h; simp [h]
/-- What FindPlace finds in a file system: a code, a node, a name. -/
def fp0 (ns : List Nod) (u g : Int) (l : List UInt8) : Int × Nat × List UInt8 := if wgB l = true then plF4 ns u g (cutD l) (cutP l) else (1, 0, [])
noncomputable def fpC (f : FsD) (u g : Int) (l : List UInt8) : Int := if askB4 f u g = true then (fp0 f.nodes u g l).1 else 0
noncomputable def fpN (f : FsD) (u g : Int) (l : List UInt8) : Nat := if askB4 f u g = true then (fp0 f.nodes u g l).2.1 else 0
noncomputable def fpS (f : FsD) (u g : Int) (l : List UInt8) : List UInt8 := if askB4 f u g = true then (fp0 f.nodes u g l).2.2 else []
theorem fp0_no {ns : List Nod} {u g : Int} {l : List UInt8} (h : wgB l = false) : fp0 ns u g l = (1, 0, []) := by unfold fp0; rw [if_neg (by rw [h]; decide)]
theorem fp0_cut {ns : List Nod} {u g : Int} {D p : List UInt8} (hp : 47 ∉ p) (h : wgB (D ++ 47 :: p) = true) : fp0 ns u g (D ++ 47 :: p) = if nameB p = true then ((dirW ns u g (aheadL D) 1).1, (dirW ns u g (aheadL D) 1).2, if (dirW ns u g (aheadL D) 1).1 = 0 then p else []) else (1, 0, []) := by
  have hh := h
  unfold wgB at h
  simp only [Bool.and_eq_true] at h
  unfold fp0
  rw [if_pos hh, (cut_is D p hp).1, (cut_is D p hp).2]
  unfold plF4
  by_cases hn : nameB p = true
  · rw [if_pos ⟨⟨h.2, h.1⟩, hn⟩, if_pos hn]
  · rw [if_neg (fun x => hn x.2), if_neg hn]
theorem results_tmp4 {fn : Func} {t u v x : Tmp} (h : fn.results = #[.tmp t, .tmp u, .tmp v, .tmp x]) (tmps : Array Value) (P : Program) (w : World) :
    (results fn tmps).run P w = .ok (.tuple #[tmps.getD t undef, tmps.getD u undef, tmps.getD v undef, tmps.getD x undef]) w := by
  simp [results, h]
theorem nil_bs : (⟨#[]⟩ : ByteArray) = bs [] := rfl
theorem placeAt_any (f : FsD) (v : Value) (u g : Int) (s : ByteArray) (w : World) (hR : FsA w v f) (hs : szF f ≤ 1048576) (hk : askB4 f u g = true) (hss : s.size ≤ 1048576) :
    Calls Tryz.prog 94 #[v, .agg #[.int .i64 u, .int .i64 g], .string s] w fun e w' => ∃ q, e = .returned (.tuple #[.int .i64 ((fp0 f.nodes u g s.data.toList).2.1 : Nat), .string (bs (fp0 f.nodes u g s.data.toList).2.2), errV q (fp0 f.nodes u g s.data.toList).1]) ∧ Below w.heap.size w w' := by
  by_cases hw : wgB s.data.toList = true
  · have hw2 := hw
    unfold wgB at hw2
    simp only [Bool.and_eq_true] at hw2
    obtain ⟨D, p, hDp, hp⟩ := cut_slash _ (whole_mem hw2.1)
    have hwl : wgB (D ++ 47 :: p) = true := by rw [← hDp]; exact hw
    have hfp := fp0_cut (ns := f.nodes) (u := u) (g := g) hp hwl
    rw [hDp, hfp]
    by_cases hn : nameB p = true
    · rw [if_pos hn]
      by_cases hD : D = []
      · subst hD
        refine (placeAt_E f v u g s p w hR hs hk hss hw hDp hp hn).mono ?_
        rintro e w' ⟨rfl, hb⟩
        exact ⟨bs [47], rfl, hb⟩
      · refine (placeAt_D f v u g s D p w hR hs hk hss hw hDp hp hn hD).mono ?_
        rintro e w' ⟨rfl, hb⟩
        have ha : aheadL D = D := if_neg hD
        rw [ha]
        exact ⟨bs D, rfl, hb⟩
    · rw [if_neg hn]
      refine (placeAt_bad f v u g s D p w hR hs hss hw hDp hp (by simpa using hn)).mono ?_
      rintro e w' ⟨rfl, hb⟩
      exact ⟨s, rfl, hb⟩
  · have hw' : wgB s.data.toList = false := by simpa using hw
    rw [fp0_no hw']
    refine (placeAt_no f v u g s w hR hs hss hw').mono ?_
    rintro e w' ⟨rfl, hb⟩
    exact ⟨s, rfl, hb⟩
theorem l4Place_any (f : FsD) (v : Value) (u g : Int) (s : ByteArray) (w : World) (hR : FsA w v f) (hs : szF f ≤ 1048576) (hk : askB4 f u g = true) (hss : s.size ≤ 1048576) :
    Calls Tryz.prog 95 #[v, .agg #[.int .i64 u, .int .i64 g], .string s] w fun e w' => e = .returned (.tuple #[.int .i64 ((fp0 f.nodes u g s.data.toList).2.1 : Nat), .string (bs (fp0 f.nodes u g s.data.toList).2.2), .int .i64 (fp0 f.nodes u g s.data.toList).1]) ∧ Below w.heap.size w w' := by
  by_cases hw : wgB s.data.toList = true
  · have hw2 := hw
    unfold wgB at hw2
    simp only [Bool.and_eq_true] at hw2
    obtain ⟨D, p, hDp, hp⟩ := cut_slash _ (whole_mem hw2.1)
    have hwl : wgB (D ++ 47 :: p) = true := by rw [← hDp]; exact hw
    have hlen : D.length + 1 ≤ 60 := by
      have h1 := hw2.2
      rw [hDp] at h1
      simp [goodB] at h1
      omega
    have hfp := fp0_cut (ns := f.nodes) (u := u) (g := g) hp hwl
    rw [hDp, hfp]
    by_cases hn : nameB p = true
    · rw [if_pos hn]
      refine (l4Place_good f v u g s D p w hR hs hk hss hw hDp hp hn).mono ?_
      rintro e w' ⟨rfl, hb⟩
      rw [struck_dirW hlen (struck_aheadS (by simp))]
      exact ⟨rfl, hb⟩
    · rw [if_neg hn]
      refine (l4Place_bad f v u g s D p w hR hs hss hw hDp hp (by simpa using hn)).mono ?_
      rintro e w' ⟨rfl, hb⟩
      exact ⟨rfl, hb⟩
  · have hw' : wgB s.data.toList = false := by simpa using hw
    rw [fp0_no hw']
    refine (l4Place_no f v u g s w hR hs hss hw').mono ?_
    rintro e w' ⟨rfl, hb⟩
    exact ⟨rfl, hb⟩
theorem placeAt_is {f : FsD} {v : Value} {u g : Int} {s : ByteArray} {w : World} {cd : Int} {nd : Nat} {nm : List UInt8} (h : fp0 f.nodes u g s.data.toList = (cd, nd, nm)) (hR : FsA w v f) (hs : szF f ≤ 1048576) (hk : askB4 f u g = true) (hss : s.size ≤ 1048576) :
    Calls Tryz.prog 94 #[v, .agg #[.int .i64 u, .int .i64 g], .string s] w fun e w' => ∃ q, e = .returned (.tuple #[.int .i64 (nd : Int), .string (bs nm), errV q cd]) ∧ Below w.heap.size w w' := by
  have := placeAt_any f v u g s w hR hs hk hss
  rw [h] at this
  exact this
theorem l4Place_is {f : FsD} {v : Value} {u g : Int} {s : ByteArray} {w : World} {cd : Int} {nd : Nat} {nm : List UInt8} (h : fp0 f.nodes u g s.data.toList = (cd, nd, nm)) (hR : FsA w v f) (hs : szF f ≤ 1048576) (hk : askB4 f u g = true) (hss : s.size ≤ 1048576) :
    Calls Tryz.prog 95 #[v, .agg #[.int .i64 u, .int .i64 g], .string s] w fun e w' => e = .returned (.tuple #[.int .i64 (nd : Int), .string (bs nm), .int .i64 cd]) ∧ Below w.heap.size w w' := by
  have := l4Place_any f v u g s w hR hs hk hss
  rw [h] at this
  exact this

theorem l4Asked_is {f : FsD} {v : Value} {u g : Int} {w : World} {b : Bool} (h : askB4 f u g = b) (hR : FsA w v f) (hs : szF f ≤ 1048576) : Calls Tryz.prog 92 #[v, .agg #[.int .i64 u, .int .i64 g]] w fun e w' => e = .returned (.bool b) ∧ Below w.heap.size w w' := by
  rw [← h]; exact l4Asked_any f v u g w hR hs
set_option maxHeartbeats 4000000 in
theorem specFindPlace_any (f : FsD) (v : Value) (u g : Int) (s : ByteArray) (w : World) (hR : FsA w v f) (hs : szF f ≤ 1048576) (hss : s.size ≤ 1048576) : Calls Tryz.prog 38 #[v, .agg #[.int .i64 u, .int .i64 g], .string s] w fun e w' => e = .returned (.tuple #[.int .i64 (fpN f u g s.data.toList : Nat), .string (bs (fpS f u g s.data.toList)), .int .i64 (fpC f u g s.data.toList), .bool (askB4 f u g)]) ∧ Below w.heap.size w w' := by
  have HR := Lib.hid hR
  obtain ⟨nv, rfl, hN⟩ := hR
  have HN := Lib.hid hN
  obtain ⟨o, c, rfl, hm, hH⟩ := hN
  unfold maxLen at hm
  have HS := Lib.hid hs
  have hl : f.nodes.length ≤ 1048576 := (lists_small hs).1
  have HB0 : Hid (Below w.heap.size w ((w.alloc (.cells #[.slice o f.nodes.length c, .int .i64 f.room] 26)).alloc (.cells #[.int .i64 u, .int .i64 g] 37))) := Lib.hid (((Below.refl _ _).alloc (Nat.le_refl _) _).alloc (by simp) _)
  have KA0 := Lib.hid (alloc3_fst' w (.cells #[.slice o f.nodes.length c, .int .i64 f.room] 26) (.cells #[.int .i64 u, .int .i64 g] 37))
  have KB0 := Lib.hid (alloc3_snd' w (.cells #[.slice o f.nodes.length c, .int .i64 f.room] 26) (.cells #[.int .i64 u, .int .i64 g] 37))
  clear hH
  
  clear hs
  by_cases hk : askB4 f u g = true
  · have HK := Lib.hid hk
    obtain ⟨⟨cd, nd, nm⟩, hfd⟩ : ∃ q, fp0 f.nodes u g s.data.toList = q := ⟨_, rfl⟩
    have HFD := Lib.hid hfd
    have HV : Hid (fpN f u g s.data.toList = nd ∧ fpS f u g s.data.toList = nm ∧ fpC f u g s.data.toList = cd) := Lib.hid (by unfold fpN fpS fpC; rw [if_pos hk, if_pos hk, if_pos hk, hfd]; exact ⟨rfl, rfl, rfl⟩)
    clear hk hfd
    obtain ⟨tx, htx⟩ : ∃ tx, tx = bs nm := ⟨_, rfl⟩
    have HTX := Lib.hid htx
    go_enter Tryz.func38, Tryz.ntmps38
    go_wp2_with fail
    refine (l4Asked_is HK.out (HR.out.below HB0.out) HS.out).mono ?_
    rintro e w1 ⟨rfl, hb1⟩
    have HB1 := Lib.hid (HB0.out.trans (hb1.mono HB0.out.size))
    have KA1 := Lib.hid ((hb1.block w.heap.size (lt_of_heap KA0.out)).trans KA0.out)
    have KB1 := Lib.hid ((hb1.block (w.heap.size + 1) (lt_of_heap KB0.out)).trans KB0.out)
    have x1a : w1.cell? ⟨w.heap.size, 0, none⟩ = some (.slice o f.nodes.length c) := cell_blk KA1.out 0
    have x1b : w1.cell? ⟨w.heap.size, 1, none⟩ = some (.int .i64 f.room) := cell_blk KA1.out 1
    have y1a : w1.cell? ⟨w.heap.size + 1, 0, none⟩ = some (.int .i64 u) := cell_blk KB1.out 0
    have y1b : w1.cell? ⟨w.heap.size + 1, 1, none⟩ = some (.int .i64 g) := cell_blk KB1.out 1
    clear hb1
    go_wp2_with fail
    refine (l4Place_is HFD.out (HR.out.below HB1.out) HS.out HK.out hss).mono ?_
    rintro e w2 ⟨rfl, hb2⟩
    have HB2 := Lib.hid (HB1.out.trans (hb2.mono HB1.out.size))
    clear hb2
    rw [← htx]
    clear htx
    go_wp2
    ((try simp only [Exit.inBlock, Exit.then]); refine bodyPost_ret (results_tmp4 rfl _ _ _) rfl ?_)
    exact ⟨by rw [HV.out.1, HV.out.2.1, HV.out.2.2, HK.out, HTX.out]; rfl, HB2.out⟩
  · have HK : Hid (askB4 f u g = false) := Lib.hid (by simpa using hk)
    have HV : Hid (fpN f u g s.data.toList = 0 ∧ fpS f u g s.data.toList = [] ∧ fpC f u g s.data.toList = 0) := Lib.hid (by unfold fpN fpS fpC; rw [if_neg hk, if_neg hk, if_neg hk]; exact ⟨rfl, rfl, rfl⟩)
    clear hk
    go_enter Tryz.func38, Tryz.ntmps38
    go_wp2_with fail
    refine (l4Asked_is HK.out (HR.out.below HB0.out) HS.out).mono ?_
    rintro e w1 ⟨rfl, hb1⟩
    have HB1 := Lib.hid (HB0.out.trans (hb1.mono HB0.out.size))
    clear hb1
    go_wp2
    ((try simp only [Exit.inBlock, Exit.then]); refine bodyPost_ret (results_tmp4 rfl _ _ _) rfl ?_)
    exact ⟨by rw [HV.out.1, HV.out.2.1, HV.out.2.2, HK.out]; rfl, HB1.out⟩
set_option maxHeartbeats 4000000 in
theorem findPlace_any (f : FsD) (v : Value) (u g : Int) (s : ByteArray) (w : World) (hR : FsA w v f) (hs : szF f ≤ 1048576) (hss : s.size ≤ 1048576) (hE : ErrT w) : Calls Tryz.prog 37 #[v, .agg #[.int .i64 u, .int .i64 g], .string s] w fun e w' => e = .returned (.tuple #[.int .i64 (fpN f u g s.data.toList : Nat), .string (bs (fpS f u g s.data.toList)), .int .i64 (fpC f u g s.data.toList), .bool (askB4 f u g)]) ∧ Below w.heap.size w w' := by
  have HR := Lib.hid hR
  obtain ⟨nv, rfl, hN⟩ := hR
  have HN := Lib.hid hN
  obtain ⟨o, c, rfl, hm, hH⟩ := hN
  unfold maxLen at hm
  have HS := Lib.hid hs
  have hl : f.nodes.length ≤ 1048576 := (lists_small hs).1
  have HB0 : Hid (Below w.heap.size w ((w.alloc (.cells #[.slice o f.nodes.length c, .int .i64 f.room] 26)).alloc (.cells #[.int .i64 u, .int .i64 g] 37))) := Lib.hid (((Below.refl _ _).alloc (Nat.le_refl _) _).alloc (by simp) _)
  have KA0 := Lib.hid (alloc3_fst' w (.cells #[.slice o f.nodes.length c, .int .i64 f.room] 26) (.cells #[.int .i64 u, .int .i64 g] 37))
  have KB0 := Lib.hid (alloc3_snd' w (.cells #[.slice o f.nodes.length c, .int .i64 f.room] 26) (.cells #[.int .i64 u, .int .i64 g] 37))
  clear hH
  have HET := Lib.hid hE
  clear hs hE
  by_cases hk : askB4 f u g = true
  · have HK := Lib.hid hk
    obtain ⟨⟨cd, nd, nm⟩, hfd⟩ : ∃ q, fp0 f.nodes u g s.data.toList = q := ⟨_, rfl⟩
    have HFD := Lib.hid hfd
    have HV : Hid (fpN f u g s.data.toList = nd ∧ fpS f u g s.data.toList = nm ∧ fpC f u g s.data.toList = cd) := Lib.hid (by unfold fpN fpS fpC; rw [if_pos hk, if_pos hk, if_pos hk, hfd]; exact ⟨rfl, rfl, rfl⟩)
    clear hk hfd
    obtain ⟨tx, htx⟩ : ∃ tx, tx = bs nm := ⟨_, rfl⟩
    have HTX := Lib.hid htx
    go_enter Tryz.func37, Tryz.ntmps37
    go_wp2_with fail
    refine (canLook_is HK.out (HR.out.below HB0.out) HS.out).mono ?_
    rintro e w1 ⟨rfl, hb1⟩
    have HB1 := Lib.hid (HB0.out.trans (hb1.mono HB0.out.size))
    have KA1 := Lib.hid ((hb1.block w.heap.size (lt_of_heap KA0.out)).trans KA0.out)
    have KB1 := Lib.hid ((hb1.block (w.heap.size + 1) (lt_of_heap KB0.out)).trans KB0.out)
    have x1a : w1.cell? ⟨w.heap.size, 0, none⟩ = some (.slice o f.nodes.length c) := cell_blk KA1.out 0
    have x1b : w1.cell? ⟨w.heap.size, 1, none⟩ = some (.int .i64 f.room) := cell_blk KA1.out 1
    have y1a : w1.cell? ⟨w.heap.size + 1, 0, none⟩ = some (.int .i64 u) := cell_blk KB1.out 0
    have y1b : w1.cell? ⟨w.heap.size + 1, 1, none⟩ = some (.int .i64 g) := cell_blk KB1.out 1
    clear hb1
    go_wp2_with fail
    refine (placeAt_is HFD.out (HR.out.below HB1.out) HS.out HK.out hss).mono ?_
    rintro e w2 ⟨q, rfl, hb2⟩
    have HB2 := Lib.hid (HB1.out.trans (hb2.mono HB1.out.size))
    clear hb2
    rw [← htx]
    clear htx
    obtain ⟨ev, hev⟩ : ∃ ev, errV q cd = ev := ⟨_, rfl⟩
    have HEV := Lib.hid hev
    rw [hev]
    clear hev
    go_wp2_with fail
    rw [← HEV.out]
    refine (codeOf_any q cd _ (HET.out.below HB2.out HET.out.1)).mono ?_
    rintro e w3 ⟨rfl, hb3⟩
    have HB3 := Lib.hid (HB2.out.trans (hb3.mono HB2.out.size))
    clear hb3
    go_wp2
    ((try simp only [Exit.inBlock, Exit.then]); refine bodyPost_ret (results_tmp4 rfl _ _ _) rfl ?_)
    exact ⟨by rw [HV.out.1, HV.out.2.1, HV.out.2.2, HK.out, HTX.out]; rfl, HB3.out⟩
  · have HK : Hid (askB4 f u g = false) := Lib.hid (by simpa using hk)
    have HV : Hid (fpN f u g s.data.toList = 0 ∧ fpS f u g s.data.toList = [] ∧ fpC f u g s.data.toList = 0) := Lib.hid (by unfold fpN fpS fpC; rw [if_neg hk, if_neg hk, if_neg hk]; exact ⟨rfl, rfl, rfl⟩)
    clear hk
    go_enter Tryz.func37, Tryz.ntmps37
    go_wp2_with fail
    refine (canLook_is HK.out (HR.out.below HB0.out) HS.out).mono ?_
    rintro e w1 ⟨rfl, hb1⟩
    have HB1 := Lib.hid (HB0.out.trans (hb1.mono HB0.out.size))
    clear hb1
    go_wp2
    ((try simp only [Exit.inBlock, Exit.then]); refine bodyPost_ret (results_tmp4 rfl _ _ _) rfl ?_)
    exact ⟨by rw [HV.out.1, HV.out.2.1, HV.out.2.2, HK.out]; rfl, HB1.out⟩
end Go.Proofs.YtgmkfhhlnhgkhaaGreatDoor
