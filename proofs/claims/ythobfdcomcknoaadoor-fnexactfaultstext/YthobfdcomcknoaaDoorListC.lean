
/-
  Lists of texts in memory: one that the call itself has built by append, and one that can be read; contracts of spec.l1Split (at slashes), spec.l2Parts.
  Conditions: a text of at most 2^30 bytes.
-/
import Derived.Test.YthobfdcomcknoaaDoorIterC
import Derived.Maps.AppendAt
namespace Go.Proofs.YthobfdcomcknoaaDoor
open Go.ChangeShapes Go.WideShapes Go.ChangeAt Go.RowKit Go.Joins
set_option linter.unusedVariables false

theorem strInfo : (Tryd.prog.info? 9).map (fun i => (i.zero, i.size, i.bytes)) = some (some (.string ⟨#[]⟩), 1, 16) := by kernel_rfl

def strs (ps : List (List UInt8)) : List Value := ps.map fun p => .string (bs p)
/-- The value is a list of texts that the call has built, in blocks from B on. -/
def Lst (w : World) (B : Nat) (v : Value) (ps : List (List UInt8)) : Prop := w.ownsRow B 9 1 v ps.length (strs ps)
/-- The value reads as a list of texts. -/
def Rd (w : World) (v : Value) (ps : List (List UInt8)) : Prop :=
  ∃ o c, v = .slice o ps.length c ∧ ps.length ≤ c ∧ c ≤ maxLen ∧ ∀ i (h : i < ps.length), ∃ g off, o = some ⟨g, off, none⟩ ∧ g < w.heap.size ∧ w.cell? ⟨g, off + i, none⟩ = some (.string (bs ps[i]))

theorem Lst.nil (w : World) (B : Nat) : Lst w B (.slice none 0 0) [] := World.ownsRow_nil _ _ _ _
theorem Lst.alloc {w : World} {B : Nat} {v : Value} {ps : List (List UInt8)} (h : Lst w B v ps) (o : Obj) : w.alloc o |>.ownsRow B 9 1 v ps.length (strs ps) := World.ownsRow.alloc h o
theorem Lst.snoc {w : World} {B : Nat} {v : Value} {ps : List (List UInt8)} {p : List UInt8} {x : ByteArray} (hx : x = bs p) (h : w.ownsRow B 9 1 v (ps.length + 1) (strs ps ++ [.string x])) : Lst w B v (ps ++ [p]) := by
  subst hx
  unfold Lst
  simpa [strs] using h
theorem Lst.read {w : World} {B : Nat} {v : Value} {ps : List (List UInt8)} (h : Lst w B v ps) : Rd w v ps := by
  rcases h with ⟨hl, ⟨rfl, h0⟩ | ⟨g, cap, cur, rfl, hB, hg, hn, hm, hs, ht⟩⟩
  · have : ps = [] := List.eq_nil_of_length_eq_zero h0
    subst this
    exact ⟨none, 0, rfl, Nat.le_refl _, Nat.zero_le _, fun i hi => absurd hi (by simp)⟩
  · refine ⟨_, _, rfl, hn, hm, fun i hi => ⟨g, 0, rfl, (Array.getElem?_eq_some_iff.1 hg).1, ?_⟩⟩
    have h1 : cur[i]? = some (.string (bs ps[i])) := by
      rw [← Array.getElem?_toList]
      have h2 : (cur.toList.take (ps.length * 1))[i]? = some (.string (bs ps[i])) := by
        rw [ht]; simp [strs, hi]
      rw [List.getElem?_take] at h2
      rw [if_pos (by omega)] at h2
      exact h2
    simp [World.cell?, hg, h1]
theorem Rd.below {w w' : World} {v : Value} {ps : List (List UInt8)} (h : Rd w v ps) (hb : Below w.heap.size w w') : Rd w' v ps := by
  obtain ⟨o, c, rfl, h1, h2, h3⟩ := h
  refine ⟨o, c, rfl, h1, h2, fun i hi => ?_⟩
  obtain ⟨g, off, e, hg, hc⟩ := h3 i hi
  exact ⟨g, off, e, Nat.lt_of_lt_of_le hg hb.size, (hb.cell (p := ⟨g, off + i, none⟩) hg).trans hc⟩
theorem Rd.nil (w : World) : Rd w (.slice none 0 0) [] := ⟨none, 0, rfl, Nat.le_refl _, Nat.zero_le _, fun i hi => absurd hi (by simp)⟩

theorem lst_mono {w : World} {A B : Nat} {v : Value} {ps : List (List UInt8)} (h : Lst w B v ps) (hAB : A ≤ B) : Lst w A v ps := by
  rcases h with ⟨hl, hn | ⟨g, cap, cur, e, hB, rest⟩⟩
  · exact ⟨hl, .inl hn⟩
  · exact ⟨hl, .inr ⟨g, cap, cur, e, Nat.le_trans hAB hB, rest⟩⟩

/-- What stands behind an append onto such a list. -/
theorem below_app {w wr w1 : World} {B : Nat} {v : Value} {n : Nat} {xs : List Value} {tmp : Obj} (hb : Below B w wr) (hB : B ≤ wr.heap.size) (hown : wr.ownsRow B 9 1 v n xs) (hg : (wr.alloc tmp).grownBy w1 v.ownBlock) : Below B w w1 := by
  refine (hb.alloc hB tmp).grown hg (by simp; omega) fun j ej => ?_
  rcases hown.2 with ⟨rfl, _⟩ | ⟨g, cap, cur, rfl, hgb, _, _⟩
  · simp [Value.ownBlock] at ej
  · obtain rfl : g = j := by simpa [Value.ownBlock] using ej
    exact hgb

theorem sp_one_le (l : List UInt8) : (sp l).1.length ≤ l.length := by have := sp_le l; omega

theorem not47 {c : UInt8} (h : c ≠ 47) : (c.toNat : Int) ≠ 47 := by
  intro e
  refine h (UInt8.toNat_inj.1 ?_)
  show c.toNat = 47
  omega

set_option maxHeartbeats 1000000 in
theorem l1Split_any (s : ByteArray) (w : World) (hs : s.size ≤ 1073741824) : Calls Tryd.prog 23 #[.string s, .int .u8 47] w fun e w' => ∃ v, e = .returned v ∧ Lst w' w.heap.size v ((sp s.data.toList).1 ++ [(sp s.data.toList).2]) ∧ Below w.heap.size w w' := by
  obtain ⟨i0, hi, hz0, hz1, hz2⟩ := info_parts strInfo
  go_enter Tryd.func23, Tryd.ntmps23
  go_wp2
  go_loopw [5, 6, 7] (fun v f i wr => ∃ k frm : Nat, i = .int .i64 k ∧ f = .int .i64 frm ∧ Cut s k frm ∧ Lst wr w.heap.size v (sp (s.data.toList.take k)).1 ∧ Below w.heap.size w wr) (fun _ _ i _ => s.size - (intOf i).toNat)
  case atStart => exact ⟨0, 0, rfl, rfl, Cut.start s, Lst.nil _ _, Below.refl _ _⟩
  case round =>
    obtain ⟨k, frm, rfl, rfl, hC, hL, hB⟩ := hrel
    have HC := Lib.hid hC
    have hle := hC.le
    have htop := hC.top
    have hlen : (sp (s.data.toList.take k)).1.length ≤ k := Nat.le_trans (sp_one_le _) (List.length_take_le _ _)
    clear hC
    by_cases hlt : k < s.size
    · by_cases h47 : (s[k]'hlt) = 47
      · have hb : ((s[k]'hlt).toNat : Int) = 47 := by rw [h47]; rfl
        have HB := Lib.hid h47
        clear h47
        go_wp2_with (at_builtin; refine wpList_append_own _ rfl _ _ 36 rfl w.heap.size 9 i0 (.string ⟨#[]⟩) 1 16 Tryd.underlying36 hi hz0 hz1 hz2 rfl (by decide) _ _ _ rfl (hL.alloc _) ⟨wr.heap.size, 0, none⟩ 1 1 [.string (s.extract frm k)] rfl rfl (cell_one_new _ _ _) (by simp [Value.oneCell']) (by unfold maxLen; omega) (by omega) (by have := hB.size; simp; omega) ?_)
        intro v' w1 hown' hgrow _
        have hb1 := below_app hB hB.size hL hgrow
        have HL := Lib.hid (Lst.snoc (bs_ext s frm k) hown')
        clear hown' hgrow hL
        go_wp2
        go_roundw
        case rel => exact ⟨k + 1, k + 1, by go_num, by go_num, (HC.out.slash hlt HB.out).1, by rw [(HC.out.slash hlt HB.out).2]; exact HL.out, hb1⟩
        case measure => simp [intOf]; omega
      · have hb : ((s[k]'hlt).toNat : Int) ≠ 47 := not47 h47
        have hb' : (((s[k]'hlt).toNat : Int) == 47) = false := by simpa using hb
        have HB := Lib.hid h47
        clear h47 hb
        go_wp2
        go_roundw
        case rel =>
          have e1 := sp_snoc (s.data.toList.take k) (s[k]'hlt)
          rw [← take_snoc' s k hlt, spStep, if_neg HB.out] at e1
          refine ⟨k + 1, frm, by go_num, rfl, ⟨by omega, hlt, ?_⟩, by rw [e1]; exact hL, hB⟩
          rw [e1, HC.out.cur, take_snoc' s k hlt]
          have := len_size s
          rw [List.drop_append_of_le_length (by rw [List.length_take]; omega)]
        case measure => simp [intOf]; omega
    · obtain rfl : k = s.size := by omega
      go_wp2_with (at_builtin; refine wpList_append_own _ rfl _ _ 36 rfl w.heap.size 9 i0 (.string ⟨#[]⟩) 1 16 Tryd.underlying36 hi hz0 hz1 hz2 rfl (by decide) _ _ _ rfl (hL.alloc _) ⟨wr.heap.size, 0, none⟩ 1 1 [.string (s.extract frm s.size)] rfl rfl (cell_one_new _ _ _) (by simp [Value.oneCell']) (by unfold maxLen; omega) (by omega) (by have := hB.size; simp; omega) ?_)
      intro v' w1 hown' hgrow _
      have hb1 := below_app hB hB.size hL hgrow
      have HL := Lib.hid (Lst.snoc (bs_ext s frm s.size) hown')
      clear hown' hgrow hL
      go_wp2
      go_ret
      refine ⟨_, rfl, ?_, hb1⟩
      have h1 := HL.out
      have c := HC.out.cur
      rw [← c] at h1
      rwa [List.take_of_length_le (by rw [len_size]; omega)] at h1
end Go.Proofs.YthobfdcomcknoaaDoor
