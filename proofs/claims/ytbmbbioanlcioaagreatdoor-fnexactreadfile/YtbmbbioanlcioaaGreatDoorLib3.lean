/-
  Joined: ListC ListD FsX IntC.
  Conditions: as each states.
-/
import Derived.Maps.AppendAt
import Derived.Laws.AppendOwnNone
import Derived.Test.YtbmbbioanlcioaaGreatDoorLib2

/-
  Lists of texts in memory: one that the call itself has built by append, and one that can be read; contracts of spec.l1Split (at slashes), spec.l2Parts.
  Conditions: a text of at most 2^30 bytes.
-/
namespace Go.Proofs.YtbmbbioanlcioaaGreatDoor
open Go.ChangeShapes Go.WideShapes Go.ChangeAt Go.RowKit Go.Joins
set_option linter.unusedVariables false

theorem strInfo : (Tryz.prog.info? 9).map (fun i => (i.zero, i.size, i.bytes)) = some (some (.string ⟨#[]⟩), 1, 16) := by kernel_rfl

def strs (ps : List (List UInt8)) : List Value := ps.map fun p => .string (bs p)
/-- The value is a list of texts that the call has built, in blocks from B on. -/
def Lst (w : World) (B : Nat) (v : Value) (ps : List (List UInt8)) : Prop := w.ownsRow B 9 1 v ps.length (strs ps)
/-- The value reads as a list of texts. -/
def Rd (w : World) (v : Value) (ps : List (List UInt8)) : Prop :=
  ∃ o c, v = .slice o ps.length c ∧ ps.length ≤ c ∧ c ≤ maxLen ∧ ∀ i (h : i < ps.length), ∃ g off, o = some ⟨g, off, none⟩ ∧ g < w.heap.size ∧ w.cell? ⟨g, off + i, none⟩ = some (.string (bs ps[i]))

theorem Lst.nil (w : World) (B : Nat) : Lst w B (.slice none 0 0) [] := World.ownsRow_nil _ _ _ _
theorem Lst.alloc {w : World} {B : Nat} {v : Value} {ps : List (List UInt8)} (h : Lst w B v ps) (o : Obj) : w.alloc o |>.ownsRow B 9 1 v ps.length (strs ps) := World.ownsRow.alloc h o
theorem Lst.snoc {w : World} {B : Nat} {v : Value} {ps : List (List UInt8)} {p : List UInt8} {x : ByteArray} (hx : x = bs p) (h : w.ownsRow B 9 1 v (ps.length + 1) (strs ps ++ [.string x])) : Lst w B v (ps ++ [p]) := by
  subst hx
  unfold Lst
  simpa [strs] using h
theorem Lst.read {w : World} {B : Nat} {v : Value} {ps : List (List UInt8)} (h : Lst w B v ps) : Rd w v ps := by
  rcases h with ⟨hl, ⟨rfl, h0⟩ | ⟨g, cap, cur, rfl, hB, hg, hn, hm, hs, ht⟩⟩
  · have : ps = [] := List.eq_nil_of_length_eq_zero h0
    subst this
    exact ⟨none, 0, rfl, Nat.le_refl _, Nat.zero_le _, fun i hi => absurd hi (by simp)⟩
  · refine ⟨_, _, rfl, hn, hm, fun i hi => ⟨g, 0, rfl, (Array.getElem?_eq_some_iff.1 hg).1, ?_⟩⟩
    have h1 : cur[i]? = some (.string (bs ps[i])) := by
      rw [← Array.getElem?_toList]
      have h2 : (cur.toList.take (ps.length * 1))[i]? = some (.string (bs ps[i])) := by
        rw [ht]; simp [strs, hi]
      rw [List.getElem?_take] at h2
      rw [if_pos (by omega)] at h2
      exact h2
    simp [World.cell?, hg, h1]
theorem Rd.below {w w' : World} {v : Value} {ps : List (List UInt8)} (h : Rd w v ps) (hb : Below w.heap.size w w') : Rd w' v ps := by
  obtain ⟨o, c, rfl, h1, h2, h3⟩ := h
  refine ⟨o, c, rfl, h1, h2, fun i hi => ?_⟩
  obtain ⟨g, off, e, hg, hc⟩ := h3 i hi
  exact ⟨g, off, e, Nat.lt_of_lt_of_le hg hb.size, (hb.cell (p := ⟨g, off + i, none⟩) hg).trans hc⟩
theorem Rd.nil (w : World) : Rd w (.slice none 0 0) [] := ⟨none, 0, rfl, Nat.le_refl _, Nat.zero_le _, fun i hi => absurd hi (by simp)⟩

theorem lst_mono {w : World} {A B : Nat} {v : Value} {ps : List (List UInt8)} (h : Lst w B v ps) (hAB : A ≤ B) : Lst w A v ps := by
  rcases h with ⟨hl, hn | ⟨g, cap, cur, e, hB, rest⟩⟩
  · exact ⟨hl, .inl hn⟩
  · exact ⟨hl, .inr ⟨g, cap, cur, e, Nat.le_trans hAB hB, rest⟩⟩

/-- What stands behind an append onto such a list. -/
theorem below_app {w wr w1 : World} {B : Nat} {v : Value} {n : Nat} {xs : List Value} {tmp : Obj} (hb : Below B w wr) (hB : B ≤ wr.heap.size) (hown : wr.ownsRow B 9 1 v n xs) (hg : (wr.alloc tmp).grownBy w1 v.ownBlock) : Below B w w1 := by
  refine (hb.alloc hB tmp).grown hg (by simp; omega) fun j ej => ?_
  rcases hown.2 with ⟨rfl, _⟩ | ⟨g, cap, cur, rfl, hgb, _, _⟩
  · simp [Value.ownBlock] at ej
  · obtain rfl : g = j := by simpa [Value.ownBlock] using ej
    exact hgb

theorem sp_one_le (l : List UInt8) : (sp l).1.length ≤ l.length := by have := sp_le l; omega

theorem not47 {c : UInt8} (h : c ≠ 47) : (c.toNat : Int) ≠ 47 := by
  intro e
  refine h (UInt8.toNat_inj.1 ?_)
  show c.toNat = 47
  omega

set_option maxHeartbeats 1000000 in
theorem l1Split_any (s : ByteArray) (w : World) (hs : s.size ≤ 1073741824) : Calls Tryz.prog 107 #[.string s, .int .u8 47] w fun e w' => ∃ v, e = .returned v ∧ Lst w' w.heap.size v ((sp s.data.toList).1 ++ [(sp s.data.toList).2]) ∧ Below w.heap.size w w' := by
  obtain ⟨i0, hi, hz0, hz1, hz2⟩ := info_parts strInfo
  go_enter Tryz.func107, Tryz.ntmps107
  go_wp2
  go_loopw [5, 6, 7] (fun v f i wr => ∃ k frm : Nat, i = .int .i64 k ∧ f = .int .i64 frm ∧ Cut s k frm ∧ Lst wr w.heap.size v (sp (s.data.toList.take k)).1 ∧ Below w.heap.size w wr) (fun _ _ i _ => s.size - (intOf i).toNat)
  case atStart => exact ⟨0, 0, rfl, rfl, Cut.start s, Lst.nil _ _, Below.refl _ _⟩
  case round =>
    obtain ⟨k, frm, rfl, rfl, hC, hL, hB⟩ := hrel
    have HC := Lib.hid hC
    have hle := hC.le
    have htop := hC.top
    have hlen : (sp (s.data.toList.take k)).1.length ≤ k := Nat.le_trans (sp_one_le _) (List.length_take_le _ _)
    clear hC
    by_cases hlt : k < s.size
    · by_cases h47 : (s[k]'hlt) = 47
      · have hb : ((s[k]'hlt).toNat : Int) = 47 := by rw [h47]; rfl
        have HB := Lib.hid h47
        clear h47
        go_wp2_with (at_builtin; refine wpList_append_own _ rfl _ _ 110 rfl w.heap.size 9 i0 (.string ⟨#[]⟩) 1 16 Tryz.underlying110 hi hz0 hz1 hz2 rfl (by decide) _ _ _ rfl (hL.alloc _) ⟨wr.heap.size, 0, none⟩ 1 1 [.string (s.extract frm k)] rfl rfl (cell_one_new _ _ _) (by simp [Value.oneCell']) (by unfold maxLen; omega) (by omega) (by have := hB.size; simp; omega) ?_)
        intro v' w1 hown' hgrow _
        have hb1 := below_app hB hB.size hL hgrow
        have HL := Lib.hid (Lst.snoc (bs_ext s frm k) hown')
        clear hown' hgrow hL
        go_wp2
        go_roundw
        case rel => exact ⟨k + 1, k + 1, by go_num, by go_num, (HC.out.slash hlt HB.out).1, by rw [(HC.out.slash hlt HB.out).2]; exact HL.out, hb1⟩
        case measure => simp [intOf]; omega
      · have hb : ((s[k]'hlt).toNat : Int) ≠ 47 := not47 h47
        have hb' : (((s[k]'hlt).toNat : Int) == 47) = false := by simpa using hb
        have HB := Lib.hid h47
        clear h47 hb
        go_wp2
        go_roundw
        case rel =>
          have e1 := sp_snoc (s.data.toList.take k) (s[k]'hlt)
          rw [← take_snoc' s k hlt, spStep, if_neg HB.out] at e1
          refine ⟨k + 1, frm, by go_num, rfl, ⟨by omega, hlt, ?_⟩, by rw [e1]; exact hL, hB⟩
          rw [e1, HC.out.cur, take_snoc' s k hlt]
          have := len_size s
          rw [List.drop_append_of_le_length (by rw [List.length_take]; omega)]
        case measure => simp [intOf]; omega
    · obtain rfl : k = s.size := by omega
      go_wp2_with (at_builtin; refine wpList_append_own _ rfl _ _ 110 rfl w.heap.size 9 i0 (.string ⟨#[]⟩) 1 16 Tryz.underlying110 hi hz0 hz1 hz2 rfl (by decide) _ _ _ rfl (hL.alloc _) ⟨wr.heap.size, 0, none⟩ 1 1 [.string (s.extract frm s.size)] rfl rfl (cell_one_new _ _ _) (by simp [Value.oneCell']) (by unfold maxLen; omega) (by omega) (by have := hB.size; simp; omega) ?_)
      intro v' w1 hown' hgrow _
      have hb1 := below_app hB hB.size hL hgrow
      have HL := Lib.hid (Lst.snoc (bs_ext s frm s.size) hown')
      clear hown' hgrow hL
      go_wp2
      go_ret
      refine ⟨_, rfl, ?_, hb1⟩
      have h1 := HL.out
      have c := HC.out.cur
      rw [← c] at h1
      rwa [List.take_of_length_le (by rw [len_size]; omega)] at h1
end Go.Proofs.YtbmbbioanlcioaaGreatDoor


/-
  Contracts of spec.l2Parts, spec.l2Path, spec.GoodPath.
  Conditions: a text of at most 2^30 bytes.
-/
namespace Go.Proofs.YtbmbbioanlcioaaGreatDoor
open Go.ChangeShapes Go.WideShapes Go.ChangeAt Go.RowKit Go.Joins
set_option linter.unusedVariables false

theorem full_take_yes {qs : List (List UInt8)} {k : Nat} (h : k < qs.length) (hn : qs[k] ≠ []) : full (qs.take (k + 1)) = full (qs.take k) ++ [qs[k]] := by
  rw [List.take_succ_eq_append_getElem h, full_app]; simp [full, hn]
theorem full_take_no {qs : List (List UInt8)} {k : Nat} (h : k < qs.length) (hn : qs[k] = []) : full (qs.take (k + 1)) = full (qs.take k) := by
  rw [List.take_succ_eq_append_getElem h, full_app]; simp [full, hn]
theorem full_le (qs : List (List UInt8)) : (full qs).length ≤ qs.length := List.length_filter_le _ _
theorem text_ne {p : List UInt8} (h : p ≠ []) : ((bs p).toList.isEmpty) = false ∧ (!(bs p).toList.isEmpty) = true ∧ (bs p).toList ≠ [] := by
  rw [ByteArray.toList_eq, bs_list]
  refine ⟨?_, ?_, h⟩ <;> cases p <;> simp_all
theorem split_len (l : List UInt8) : ((sp l).1 ++ [(sp l).2]).length ≤ l.length + 1 := by have := sp_one_le l; simp; omega

set_option maxHeartbeats 1000000 in
theorem l2Parts_any (s : ByteArray) (w : World) (hs : s.size ≤ 1073741824) : Calls Tryz.prog 78 #[.string s] w fun e w' => ∃ v, e = .returned v ∧ Lst w' w.heap.size v (parts s.data.toList) ∧ Below w.heap.size w w' := by
  obtain ⟨i0, hi, hz0, hz1, hz2⟩ := info_parts strInfo
  have hql := split_len s.data.toList
  rw [len_size] at hql
  have HQ : Hid (parts s.data.toList = full ((sp s.data.toList).1 ++ [(sp s.data.toList).2])) := Lib.hid rfl
  go_enter Tryz.func78, Tryz.ntmps78
  go_wp2_with fail
  refine (l1Split_any s _ hs).mono ?_
  rintro e w1 ⟨v, rfl, hL, hb1⟩
  obtain ⟨qs, hqs⟩ : ∃ qs, qs = (sp s.data.toList).1 ++ [(sp s.data.toList).2] := ⟨_, rfl⟩
  rw [← hqs] at hL hql
  have HQ2 := Lib.hid (HQ.out.trans (congrArg full hqs.symm))
  clear hqs HQ
  obtain ⟨o, c, rfl, hlc, hcm, hH⟩ := hL.read
  have HH := Lib.hid hH
  clear hH hL
  unfold maxLen at hcm
  go_wp2
  go_loopw [3, 9] (fun out i wr => ∃ k : Nat, k ≤ qs.length ∧ i = .int .i64 k ∧ Lst wr w1.heap.size out (full (qs.take k)) ∧ Below w1.heap.size w1 wr) (fun _ i _ => qs.length - (intOf i).toNat)
  case atStart => exact ⟨0, Nat.zero_le _, rfl, Lst.nil _ _, Below.refl _ _⟩
  case round =>
    obtain ⟨k, hk, rfl, hL, hB⟩ := hrel
    have hfl : (full (qs.take k)).length ≤ k := Nat.le_trans (full_le _) (List.length_take_le _ _)
    by_cases hlt : k < qs.length
    · obtain ⟨g, off, rfl, hg, hc⟩ := HH.out k hlt
      have hcell : wr.cell? ⟨g, off + k, none⟩ = some (.string (bs qs[k])) := (hB.cell (p := ⟨g, off + k, none⟩) hg).trans hc
      clear hc
      by_cases hp : qs[k] = []
      · have HF := Lib.hid (full_take_no hlt hp)
        rw [hp] at hcell
        clear hp
        have hcell' : wr.cell? ⟨g, off + k, none⟩ = some (.string ⟨#[]⟩) := hcell
        clear hcell
        go_wp2
        go_roundw
        case rel => exact ⟨k + 1, hlt, by go_num, by rw [HF.out]; exact hL, hB⟩
        case measure => simp [intOf]; omega
      · have HF := Lib.hid (full_take_yes hlt hp)
        obtain ⟨hp1, hp2, hp3⟩ := text_ne hp
        obtain ⟨x, hx⟩ : ∃ x, x = bs qs[k] := ⟨_, rfl⟩
        rw [← hx] at hcell hp1 hp2 hp3
        have HX := Lib.hid hx
        clear hx hp
        go_wp2_with (at_builtin; refine wpList_append_own _ rfl _ _ 110 rfl w1.heap.size 9 i0 (.string ⟨#[]⟩) 1 16 Tryz.underlying110 hi hz0 hz1 hz2 rfl (by decide) _ _ _ rfl (hL.alloc _) ⟨wr.heap.size, 0, none⟩ 1 1 [.string x] rfl rfl (cell_one_new _ _ _) (by simp [Value.oneCell']) (by unfold maxLen; omega) (by omega) (by have := hB.size; simp; omega) ?_)
        intro v' w2 hown' hgrow _
        have hb2 := below_app hB hB.size hL hgrow
        have HL := Lib.hid (Lst.snoc HX.out hown')
        clear hown' hgrow hL
        go_wp2
        go_roundw
        case rel => exact ⟨k + 1, hlt, by go_num, by rw [HF.out]; exact HL.out, hb2⟩
        case measure => simp [intOf]; omega
    · have HF : Hid (full (qs.take k) = parts s.data.toList) := Lib.hid (by rw [HQ2.out, List.take_of_length_le (by omega)])
      go_wp2
      go_ret
      refine ⟨_, rfl, ?_, hb1.trans (hB.mono hb1.size)⟩
      rw [HF.out] at hL
      exact lst_mono hL hb1.size

theorem snoc_ind {P : List UInt8 → Prop} (h0 : P []) (hs : ∀ l c, P l → P (l ++ [c])) (l : List UInt8) : P l := by
  have : ∀ m : List UInt8, P m.reverse := by
    intro m
    induction m with
    | nil => exact h0
    | cons c m ih => rw [List.reverse_cons]; exact hs _ _ ih
  simpa using this l.reverse
theorem sp_pieces (l : List UInt8) : (∀ p ∈ (sp l).1, p.length ≤ l.length) ∧ (sp l).2.length ≤ l.length := by
  induction l using snoc_ind with
  | h0 => simp [sp]
  | hs l c ih =>
    rw [sp_snoc, spStep]
    split
    · refine ⟨fun p hp => ?_, by simp⟩
      rcases List.mem_append.1 hp with h | h
      · have := ih.1 p h; simp; omega
      · simp at h; subst h; have := ih.2; simp; omega
    · refine ⟨fun p hp => by have := ih.1 p hp; simp; omega, by have := ih.2; simp; omega⟩
theorem part_le {l p : List UInt8} (h : p ∈ parts l) : p.length ≤ l.length := by
  unfold parts full at h
  have h1 := (List.mem_filter.1 h).1
  rcases List.mem_append.1 h1 with h2 | h2
  · exact (sp_pieces l).1 p h2
  · simp at h2; subst h2; exact (sp_pieces l).2
theorem name_part {p : List UInt8} (h : nameB p = true) : partB p = true := by simp [nameB] at h; exact h.1
theorem part_else {p : List UInt8} (hn : nameB p = false) (h1 : p ≠ [46]) (h2 : p ≠ [46, 46]) : partB p = false := by
  simpa [nameB, h1, h2] using hn
theorem text_neq {p q : List UInt8} (h : p ≠ q) : ((bs p).toList == q) = false := by
  rw [ByteArray.toList_eq, bs_list]; simpa using h
theorem parts_le (l : List UInt8) : (parts l).length ≤ l.length + 1 := Nat.le_trans (full_le _) (split_len l)

set_option maxHeartbeats 1000000 in
theorem l2Path_any (s : ByteArray) (w : World) (hs : s.size ≤ 1073741824) : Calls Tryz.prog 106 #[.string s] w fun e w' => e = .returned (.bool (goodB s.data.toList)) ∧ Below w.heap.size w w' := by
  have hpl := parts_le s.data.toList
  rw [len_size] at hpl
  have HP : Hid (∀ p ∈ parts s.data.toList, p.length ≤ s.size) := Lib.hid (fun p hp => by have := part_le hp; rwa [len_size] at this)
  have HG : Hid (goodB s.data.toList = (inB 1 60 s.size && (parts s.data.toList).all partB)) := Lib.hid (by
    have : decide (1 ≤ s.data.toList.length ∧ s.data.toList.length ≤ 60) = inB 1 60 s.size := by
      rw [len_size, Bool.eq_iff_iff]; simp [inB]; omega
    rw [goodB, this])
  go_enter Tryz.func106, Tryz.ntmps106
  go_wp2_with fail
  refine (l2Parts_any s _ hs).mono ?_
  rintro e w1 ⟨v, rfl, hL, hb1⟩
  obtain ⟨ps, hps⟩ : ∃ ps, ps = parts s.data.toList := ⟨_, rfl⟩
  rw [← hps] at hL hpl
  have HP2 : Hid (∀ p ∈ ps, p.length ≤ s.size) := Lib.hid (by rw [hps]; exact HP.out)
  have HG2 : Hid (goodB s.data.toList = (inB 1 60 s.size && ps.all partB)) := Lib.hid (by rw [hps]; exact HG.out)
  clear hps HP HG
  obtain ⟨o, c, rfl, hlc, hcm, hH⟩ := hL.read
  have HH := Lib.hid hH
  clear hH hL
  unfold maxLen at hcm
  go_wp2
  go_loop [8] (fun i => ∃ k : Nat, k ≤ ps.length ∧ i = .int .i64 k ∧ (ps.take k).all partB = true) (fun i => ps.length - (intOf i).toNat)
  case atStart => exact ⟨0, Nat.zero_le _, rfl, rfl⟩
  case round =>
    obtain ⟨k, hk, rfl, hA⟩ := hrel
    have HA := Lib.hid hA
    clear hA
    by_cases hlt : k < ps.length
    · obtain ⟨g, off, rfl, hg, hcell⟩ := HH.out k hlt
      have hsz : (bs ps[k]).size ≤ maxLen := by
        rw [bs_size]; have := HP2.out _ (List.getElem_mem hlt); unfold maxLen; omega
      have HT : Hid ((ps.take (k + 1)).all partB = partB ps[k]) := Lib.hid (by rw [List.take_succ_eq_append_getElem hlt, List.all_append, HA.out]; simp)
      have HBad : partB ps[k] = false → ps.all partB = false := fun h => by
        rw [List.all_eq_false]; exact ⟨_, List.getElem_mem hlt, by simp [h]⟩
      have HBd := Lib.hid HBad
      clear HBad
      by_cases hn : nameB ps[k] = true
      · have HN : Hid (nameB (bs ps[k]).data.toList = true) := Lib.hid (by rw [bs_list]; exact hn)
        have HPt := Lib.hid (name_part hn)
        clear hn
        go_wp2_with (go_at_call 131; refine (l2Name_any _ _ hsz).mono ?_; rintro e w' ⟨rfl, rfl⟩; rw [HN.out])
        go_round
        case rel => exact ⟨k + 1, hlt, by go_num, by rw [HT.out, HPt.out]⟩
        case measure => simp [intOf]; omega
      · have hn' : nameB ps[k] = false := by simpa using hn
        by_cases h1 : ps[k] = [46]
        · have HPt : Hid (partB ps[k] = true) := Lib.hid (by rw [h1]; decide)
          rw [h1] at hcell
          have hcell' : w1.cell? ⟨g, off + k, none⟩ = some (.string ⟨#[46]⟩) := hcell
          have HN : Hid (nameB (ByteArray.mk #[46]).data.toList = false) := Lib.hid (by decide)
          clear hcell hn hn' h1 hsz
          go_wp2_with (go_at_call 131; refine (l2Name_any _ _ (by decide)).mono ?_; rintro e w' ⟨rfl, rfl⟩; rw [HN.out])
          go_round
          case rel => exact ⟨k + 1, hlt, by go_num, by rw [HT.out, HPt.out]⟩
          case measure => simp [intOf]; omega
        · by_cases h2 : ps[k] = [46, 46]
          · have HPt : Hid (partB ps[k] = true) := Lib.hid (by rw [h2]; decide)
            rw [h2] at hcell
            have hcell' : w1.cell? ⟨g, off + k, none⟩ = some (.string ⟨#[46, 46]⟩) := hcell
            have HN : Hid (nameB (ByteArray.mk #[46, 46]).data.toList = false) := Lib.hid (by decide)
            clear hcell hn hn' h1 h2 hsz
            go_wp2_with (go_at_call 131; refine (l2Name_any _ _ (by decide)).mono ?_; rintro e w' ⟨rfl, rfl⟩; rw [HN.out])
            go_round
            case rel => exact ⟨k + 1, hlt, by go_num, by rw [HT.out, HPt.out]⟩
            case measure => simp [intOf]; omega
          · have HPt := Lib.hid (part_else hn' h1 h2)
            have HN : Hid (nameB (bs ps[k]).data.toList = false) := Lib.hid (by rw [bs_list]; exact hn')
            have t1 := text_neq h1
            have t2 := text_neq h2
            obtain ⟨x, hx⟩ : ∃ x, x = bs ps[k] := ⟨_, rfl⟩
            rw [← hx] at hcell hsz t1 t2 HN
            clear hn hn' h1 h2 hx
            go_wp2_with (go_at_call 131; refine (l2Name_any _ _ hsz).mono ?_; rintro e w' ⟨rfl, rfl⟩; rw [HN.out])
            go_ret
            exact ⟨ret_bool (by rw [HG2.out, HBd.out HPt.out, Bool.and_false]), hb1⟩
    · go_wp2_with (go_at_call 52; refine (l1In_any _ _ _ _).mono ?_; rintro e w' ⟨rfl, rfl⟩)
      go_ret
      refine ⟨ret_bool ?_, hb1⟩
      have := HA.out
      rw [List.take_of_length_le (by omega)] at this
      rw [HG2.out, this, Bool.and_true]

end Go.Proofs.YtbmbbioanlcioaaGreatDoor


/-
  The model's l3Node: a node is good.
  Conditions: at most 2^20 values and letters together.
-/
namespace Go.Proofs.YtbmbbioanlcioaaGreatDoor
open Go.ChangeShapes Go.WideShapes Go.ChangeAt Go.RowKit Go.Joins
set_option linter.unusedVariables false
set_option linter.unusedSimpArgs false

def nodOk (ns : List Nod) (x : Nod) : Bool :=
  if x.kind = 0 then x.mode == 0 && (x.uid == 0 && (x.gid == 0 && (x.time == 0 && (x.data.isEmpty && x.list.isEmpty))))
  else inB 0 511 x.mode && (inB 0 99 x.uid && (inB 0 99 x.gid && (inB 0 1000000 x.time &&
    (if x.kind = 1 then decide (x.data.length ≤ 60) && x.list.isEmpty
     else if x.kind = 2 then x.data.isEmpty && entsOk ns x.list
     else x.kind == 3 && (goodB x.data && x.list.isEmpty)))))

theorem l1In_eq {n lo hi : Int} {b : Bool} (h : inB lo hi n = b) (w : World) : Calls Tryz.prog 52 #[.int .i64 n, .int .i64 lo, .int .i64 hi] w fun e w' => e = .returned (.bool b) ∧ w = w' :=
  (l1In_any n lo hi w).mono fun e w' ⟨h1, h2⟩ => ⟨by rw [h1, h], h2⟩
set_option maxHeartbeats 400000 in
theorem l1Mode_eq {n : Int} {b : Bool} (h : inB 0 511 n = b) (w : World) : Calls Tryz.prog 48 #[.int .i64 n] w fun e w' => e = .returned (.bool b) ∧ w = w' := by
  go_enter Tryz.func48, Tryz.ntmps48
  go_wp2_with (go_at_call 52; refine (l1In_eq h _).mono ?_; rintro e w' ⟨rfl, rfl⟩)
  go_ret
  exact ⟨rfl, rfl⟩
theorem heap_alloc_new2 (w : World) (o1 o2 : Obj) : ((w.alloc o1).alloc o2).heap[w.heap.size + 1]? = some o2 := by
  have h := heap_alloc_new (w.alloc o1) o2
  rw [World.size_alloc] at h
  exact h
theorem isE_no {α : Type} {l : List α} (h : l.length ≠ 0) : l.isEmpty = false := by cases l <;> simp_all
theorem isE_yes {α : Type} {l : List α} (h : l.length = 0) : l.isEmpty = true := by cases l <;> simp_all

set_option maxHeartbeats 4000000 in
theorem l3Node_any (f : FsD) (q : Nod) (v lv : Value) (w : World) (hR : FsA w v f) (hE : EntsA w lv q.list) (hs : f.nodes.length ≤ 1048576) (hs2 : q.list.length ≤ 1048576) (hd : q.data.length ≤ 1048576) :
    Calls Tryz.prog 91 #[v, .agg #[.int .i64 q.kind, .int .i64 q.mode, .int .i64 q.uid, .int .i64 q.gid, .int .i64 q.time, .string (bs q.data), lv]] w fun e w' => e = .returned (.bool (nodOk f.nodes q)) ∧ Below w.heap.size w w' := by
  have HR := Lib.hid hR
  have HE := Lib.hid hE
  obtain ⟨nv, rfl, hN⟩ := hR
  obtain ⟨o, c, rfl, hm, -⟩ := hN
  obtain ⟨o2, c2, rfl, -, -⟩ := hE
  obtain ⟨k, m, u, gi, t, dd, es⟩ := q
  simp only at HE hs2 hd ⊢
  have HDL : Hid ((bs dd).size = dd.length) := Lib.hid (bs_size _)
  obtain ⟨x, hx⟩ : ∃ x, x = bs dd := ⟨_, rfl⟩
  rw [← hx] at HDL ⊢
  have HX := Lib.hid hx
  clear hx
  have HB : Hid (∀ o1 o3, Below w.heap.size w ((w.alloc o1).alloc o3)) := Lib.hid (fun o1 o3 => ((Below.refl _ _).alloc (Nat.le_refl _) _).alloc (by simp) _)
  unfold maxLen at hm
  by_cases hk : k = 0
  · skip
    by_cases h1 : m = 0
    · skip
      by_cases h2 : u = 0
      · skip
        by_cases h3 : gi = 0
        · skip
          by_cases h4 : t = 0
          · skip
            by_cases h5 : dd = []
            · obtain rfl : x = ⟨#[]⟩ := by rw [HX.out, h5]; rfl
              by_cases h6 : es.length = 0
              · have h7 := isE_yes h6
                have HF : Hid (nodOk f.nodes ⟨k, m, u, gi, t, dd, es⟩ = true) := Lib.hid (by simp [nodOk, hk, h1, h2, h3, h4, h5, h7])
                go_enter Tryz.func91, Tryz.ntmps91
                go_wp2
                go_ret
                exact ⟨ret_bool (by first | exact HF.out.symm | (have hz := HF.out.symm; rw [k1] at hz; exact hz)), HB.out _ _⟩
              · have h7 := isE_no h6; have h8 : ((es.length : Int) == 0) = false := beq_eq_false_iff_ne.2 (by omega)
                have HF : Hid (nodOk f.nodes ⟨k, m, u, gi, t, dd, es⟩ = false) := Lib.hid (by simp [nodOk, hk, h1, h2, h3, h4, h5, h7])
                go_enter Tryz.func91, Tryz.ntmps91
                go_wp2
                go_ret
                exact ⟨ret_bool (by first | exact HF.out.symm | (have hz := HF.out.symm; rw [k1] at hz; exact hz)), HB.out _ _⟩
            · obtain ⟨n1, n2, n3⟩ := text_ne h5
              rw [← HX.out] at n1 n2 n3
              have HF : Hid (nodOk f.nodes ⟨k, m, u, gi, t, dd, es⟩ = false) := Lib.hid (by simp [nodOk, hk, h1, h2, h3, h4, h5])
              go_enter Tryz.func91, Tryz.ntmps91
              go_wp2
              go_ret
              exact ⟨ret_bool (by first | exact HF.out.symm | (have hz := HF.out.symm; rw [k1] at hz; exact hz)), HB.out _ _⟩
          · skip
            have HF : Hid (nodOk f.nodes ⟨k, m, u, gi, t, dd, es⟩ = false) := Lib.hid (by simp [nodOk, hk, h1, h2, h3, h4])
            go_enter Tryz.func91, Tryz.ntmps91
            go_wp2
            go_ret
            exact ⟨ret_bool (by first | exact HF.out.symm | (have hz := HF.out.symm; rw [k1] at hz; exact hz)), HB.out _ _⟩
        · skip
          have HF : Hid (nodOk f.nodes ⟨k, m, u, gi, t, dd, es⟩ = false) := Lib.hid (by simp [nodOk, hk, h1, h2, h3])
          go_enter Tryz.func91, Tryz.ntmps91
          go_wp2
          go_ret
          exact ⟨ret_bool (by first | exact HF.out.symm | (have hz := HF.out.symm; rw [k1] at hz; exact hz)), HB.out _ _⟩
      · skip
        have HF : Hid (nodOk f.nodes ⟨k, m, u, gi, t, dd, es⟩ = false) := Lib.hid (by simp [nodOk, hk, h1, h2])
        go_enter Tryz.func91, Tryz.ntmps91
        go_wp2
        go_ret
        exact ⟨ret_bool (by first | exact HF.out.symm | (have hz := HF.out.symm; rw [k1] at hz; exact hz)), HB.out _ _⟩
    · skip
      have HF : Hid (nodOk f.nodes ⟨k, m, u, gi, t, dd, es⟩ = false) := Lib.hid (by simp [nodOk, hk, h1])
      go_enter Tryz.func91, Tryz.ntmps91
      go_wp2
      go_ret
      exact ⟨ret_bool (by first | exact HF.out.symm | (have hz := HF.out.symm; rw [k1] at hz; exact hz)), HB.out _ _⟩
  · skip
    by_cases g1 : inB 0 511 m = true
    · have HM := Lib.hid g1
      by_cases g2 : inB 0 99 u = true
      · have HU := Lib.hid g2
        by_cases g3 : inB 0 99 gi = true
        · have HG := Lib.hid g3
          by_cases g4 : inB 0 1000000 t = true
          · have HT := Lib.hid g4
            by_cases k1 : k = 1
            · by_cases k2 : dd.length ≤ 60
              · have k3 : x.size ≤ 60 := by rw [HDL.out]; exact k2
                by_cases h6 : es.length = 0
                · have h7 := isE_yes h6
                  have HF : Hid (nodOk f.nodes ⟨k, m, u, gi, t, dd, es⟩ = true) := Lib.hid (by simp [nodOk, hk, g1, g2, g3, g4, k1, k2, h7])
                  go_enter Tryz.func91, Tryz.ntmps91
                  go_wp2_with (first | (go_at_call 48; refine (l1Mode_eq HM.out _).mono ?_; rintro e w' ⟨rfl, rfl⟩) | (go_at_call 52; refine (l1In_eq (by first | exact HU.out | exact HG.out | exact HT.out) _).mono ?_; rintro e w' ⟨rfl, rfl⟩))
                  go_ret
                  exact ⟨ret_bool (by first | exact HF.out.symm | (have hz := HF.out.symm; rw [k1] at hz; exact hz)), HB.out _ _⟩
                · have h7 := isE_no h6; have h8 : ((es.length : Int) == 0) = false := beq_eq_false_iff_ne.2 (by omega)
                  have HF : Hid (nodOk f.nodes ⟨k, m, u, gi, t, dd, es⟩ = false) := Lib.hid (by simp [nodOk, hk, g1, g2, g3, g4, k1, k2, h7])
                  go_enter Tryz.func91, Tryz.ntmps91
                  go_wp2_with (first | (go_at_call 48; refine (l1Mode_eq HM.out _).mono ?_; rintro e w' ⟨rfl, rfl⟩) | (go_at_call 52; refine (l1In_eq (by first | exact HU.out | exact HG.out | exact HT.out) _).mono ?_; rintro e w' ⟨rfl, rfl⟩))
                  go_ret
                  exact ⟨ret_bool (by first | exact HF.out.symm | (have hz := HF.out.symm; rw [k1] at hz; exact hz)), HB.out _ _⟩
              · have k3 : ¬ x.size ≤ 60 := by rw [HDL.out]; exact k2
                have HF : Hid (nodOk f.nodes ⟨k, m, u, gi, t, dd, es⟩ = false) := Lib.hid (by simp [nodOk, hk, g1, g2, g3, g4, k1, k2])
                go_enter Tryz.func91, Tryz.ntmps91
                go_wp2_with (first | (go_at_call 48; refine (l1Mode_eq HM.out _).mono ?_; rintro e w' ⟨rfl, rfl⟩) | (go_at_call 52; refine (l1In_eq (by first | exact HU.out | exact HG.out | exact HT.out) _).mono ?_; rintro e w' ⟨rfl, rfl⟩))
                go_ret
                exact ⟨ret_bool (by first | exact HF.out.symm | (have hz := HF.out.symm; rw [k1] at hz; exact hz)), HB.out _ _⟩
            · by_cases k2 : k = 2
              · by_cases h5 : dd = []
                · obtain rfl : x = ⟨#[]⟩ := by rw [HX.out, h5]; rfl
                  have HF : Hid (nodOk f.nodes ⟨k, m, u, gi, t, dd, es⟩ = entsOk f.nodes es) := Lib.hid (by simp [nodOk, hk, g1, g2, g3, g4, k1, k2, h5])
                  go_enter Tryz.func91, Tryz.ntmps91
                  go_wp2_with (first | (go_at_call 48; refine (l1Mode_eq HM.out _).mono ?_; rintro e w' ⟨rfl, rfl⟩) | (go_at_call 52; refine (l1In_eq (by first | exact HU.out | exact HG.out | exact HT.out) _).mono ?_; rintro e w' ⟨rfl, rfl⟩))
                  refine (l3Entries_any f es _ _ _ (HR.out.below (HB.out _ _)) (HE.out.below (HB.out _ _)) hs hs2).mono ?_
                  rintro e w1 ⟨rfl, hb1⟩
                  have HB1 := Lib.hid ((HB.out _ _).trans (hb1.mono (HB.out _ _).size))
                  clear hb1
                  go_wp2
                  go_ret
                  exact ⟨ret_bool HF.out.symm, HB1.out⟩
                · obtain ⟨n1, n2, n3⟩ := text_ne h5
                  rw [← HX.out] at n1 n2 n3
                  have HF : Hid (nodOk f.nodes ⟨k, m, u, gi, t, dd, es⟩ = false) := Lib.hid (by simp [nodOk, hk, g1, g2, g3, g4, k1, k2, h5])
                  go_enter Tryz.func91, Tryz.ntmps91
                  go_wp2_with (first | (go_at_call 48; refine (l1Mode_eq HM.out _).mono ?_; rintro e w' ⟨rfl, rfl⟩) | (go_at_call 52; refine (l1In_eq (by first | exact HU.out | exact HG.out | exact HT.out) _).mono ?_; rintro e w' ⟨rfl, rfl⟩))
                  go_ret
                  exact ⟨ret_bool (by first | exact HF.out.symm | (have hz := HF.out.symm; rw [k1] at hz; exact hz)), HB.out _ _⟩
              · by_cases k3 : k = 3
                · have HKK : Hid (k = 3) := Lib.hid k3
                  by_cases k4 : goodB dd = true
                  · have HP : Hid (goodB x.data.toList = true) := Lib.hid (by rw [HX.out, bs_list]; exact k4)
                    by_cases h6 : es.length = 0
                    · have h7 := isE_yes h6
                      have HF : Hid (nodOk f.nodes ⟨k, m, u, gi, t, dd, es⟩ = true) := Lib.hid (by simp [nodOk, hk, g1, g2, g3, g4, k1, k2, k3, k4, h7])
                      go_enter Tryz.func91, Tryz.ntmps91
                      go_wp2_with (first | (go_at_call 48; refine (l1Mode_eq HM.out _).mono ?_; rintro e w' ⟨rfl, rfl⟩) | (go_at_call 52; refine (l1In_eq (by first | exact HU.out | exact HG.out | exact HT.out) _).mono ?_; rintro e w' ⟨rfl, rfl⟩))
                      refine (l2Path_any x _ (by rw [HDL.out]; omega)).mono ?_
                      rintro e w1 ⟨rfl, hb1⟩
                      rw [HP.out]
                      have HB1 := Lib.hid ((HB.out _ _).trans (hb1.mono (HB.out _ _).size))
                      obtain ⟨L1, -⟩ := old_cells hb1
                      have j6 := L1 (w.heap.size + 1) 6 (by simp)
                      rw [cell_blk (heap_alloc_new2 w _ _) 6] at j6
                      have j7 := j6.trans rfl
                      clear hb1 L1 j6
                      go_wp2
                      go_ret
                      exact ⟨ret_bool HF.out.symm, HB1.out⟩
                    · have h7 := isE_no h6; have h8 : ((es.length : Int) == 0) = false := beq_eq_false_iff_ne.2 (by omega)
                      have HF : Hid (nodOk f.nodes ⟨k, m, u, gi, t, dd, es⟩ = false) := Lib.hid (by simp [nodOk, hk, g1, g2, g3, g4, k1, k2, k3, k4, h7])
                      go_enter Tryz.func91, Tryz.ntmps91
                      go_wp2_with (first | (go_at_call 48; refine (l1Mode_eq HM.out _).mono ?_; rintro e w' ⟨rfl, rfl⟩) | (go_at_call 52; refine (l1In_eq (by first | exact HU.out | exact HG.out | exact HT.out) _).mono ?_; rintro e w' ⟨rfl, rfl⟩))
                      refine (l2Path_any x _ (by rw [HDL.out]; omega)).mono ?_
                      rintro e w1 ⟨rfl, hb1⟩
                      rw [HP.out]
                      have HB1 := Lib.hid ((HB.out _ _).trans (hb1.mono (HB.out _ _).size))
                      obtain ⟨L1, -⟩ := old_cells hb1
                      have j6 := L1 (w.heap.size + 1) 6 (by simp)
                      rw [cell_blk (heap_alloc_new2 w _ _) 6] at j6
                      have j7 := j6.trans rfl
                      clear hb1 L1 j6
                      go_wp2
                      go_ret
                      exact ⟨ret_bool HF.out.symm, HB1.out⟩
                  · have HP : Hid (goodB x.data.toList = false) := Lib.hid (by rw [HX.out, bs_list]; simpa using k4)
                    have HF : Hid (nodOk f.nodes ⟨k, m, u, gi, t, dd, es⟩ = false) := Lib.hid (by simp [nodOk, hk, g1, g2, g3, g4, k1, k2, k3, k4])
                    go_enter Tryz.func91, Tryz.ntmps91
                    go_wp2_with (first | (go_at_call 48; refine (l1Mode_eq HM.out _).mono ?_; rintro e w' ⟨rfl, rfl⟩) | (go_at_call 52; refine (l1In_eq (by first | exact HU.out | exact HG.out | exact HT.out) _).mono ?_; rintro e w' ⟨rfl, rfl⟩))
                    refine (l2Path_any x _ (by rw [HDL.out]; omega)).mono ?_
                    rintro e w1 ⟨rfl, hb1⟩
                    rw [HP.out]
                    have HB1 := Lib.hid ((HB.out _ _).trans (hb1.mono (HB.out _ _).size))
                    obtain ⟨L1, -⟩ := old_cells hb1
                    have j6 := L1 (w.heap.size + 1) 6 (by simp)
                    rw [cell_blk (heap_alloc_new2 w _ _) 6] at j6
                    have j7 := j6.trans rfl
                    clear hb1 L1 j6
                    go_wp2
                    go_ret
                    exact ⟨ret_bool HF.out.symm, HB1.out⟩
                · skip
                  have HF : Hid (nodOk f.nodes ⟨k, m, u, gi, t, dd, es⟩ = false) := Lib.hid (by simp [nodOk, hk, g1, g2, g3, g4, k1, k2, k3])
                  go_enter Tryz.func91, Tryz.ntmps91
                  go_wp2_with (first | (go_at_call 48; refine (l1Mode_eq HM.out _).mono ?_; rintro e w' ⟨rfl, rfl⟩) | (go_at_call 52; refine (l1In_eq (by first | exact HU.out | exact HG.out | exact HT.out) _).mono ?_; rintro e w' ⟨rfl, rfl⟩))
                  go_ret
                  exact ⟨ret_bool (by first | exact HF.out.symm | (have hz := HF.out.symm; rw [k1] at hz; exact hz)), HB.out _ _⟩
          · have g4' : inB 0 1000000 t = false := by simpa using g4
            have HT := Lib.hid g4'
            have HF : Hid (nodOk f.nodes ⟨k, m, u, gi, t, dd, es⟩ = false) := Lib.hid (by simp [nodOk, hk, g1, g2, g3, g4'])
            go_enter Tryz.func91, Tryz.ntmps91
            go_wp2_with (first | (go_at_call 48; refine (l1Mode_eq HM.out _).mono ?_; rintro e w' ⟨rfl, rfl⟩) | (go_at_call 52; refine (l1In_eq (by first | exact HU.out | exact HG.out | exact HT.out) _).mono ?_; rintro e w' ⟨rfl, rfl⟩))
            go_ret
            exact ⟨ret_bool (by first | exact HF.out.symm | (have hz := HF.out.symm; rw [k1] at hz; exact hz)), HB.out _ _⟩
        · have g3' : inB 0 99 gi = false := by simpa using g3
          have HG := Lib.hid g3'
          have HF : Hid (nodOk f.nodes ⟨k, m, u, gi, t, dd, es⟩ = false) := Lib.hid (by simp [nodOk, hk, g1, g2, g3'])
          have HT := HF
          go_enter Tryz.func91, Tryz.ntmps91
          go_wp2_with (first | (go_at_call 48; refine (l1Mode_eq HM.out _).mono ?_; rintro e w' ⟨rfl, rfl⟩) | (go_at_call 52; refine (l1In_eq (by first | exact HU.out | exact HG.out | exact HT.out) _).mono ?_; rintro e w' ⟨rfl, rfl⟩))
          go_ret
          exact ⟨ret_bool (by first | exact HF.out.symm | (have hz := HF.out.symm; rw [k1] at hz; exact hz)), HB.out _ _⟩
      · have g2' : inB 0 99 u = false := by simpa using g2
        have HU := Lib.hid g2'
        have HF : Hid (nodOk f.nodes ⟨k, m, u, gi, t, dd, es⟩ = false) := Lib.hid (by simp [nodOk, hk, g1, g2'])
        have HG := HF
        have HT := HF
        go_enter Tryz.func91, Tryz.ntmps91
        go_wp2_with (first | (go_at_call 48; refine (l1Mode_eq HM.out _).mono ?_; rintro e w' ⟨rfl, rfl⟩) | (go_at_call 52; refine (l1In_eq (by first | exact HU.out | exact HG.out | exact HT.out) _).mono ?_; rintro e w' ⟨rfl, rfl⟩))
        go_ret
        exact ⟨ret_bool (by first | exact HF.out.symm | (have hz := HF.out.symm; rw [k1] at hz; exact hz)), HB.out _ _⟩
    · have g1' : inB 0 511 m = false := by simpa using g1
      have HM := Lib.hid g1'
      have HF : Hid (nodOk f.nodes ⟨k, m, u, gi, t, dd, es⟩ = false) := Lib.hid (by simp [nodOk, hk, g1'])
      have HU := HF
      have HG := HF
      have HT := HF
      go_enter Tryz.func91, Tryz.ntmps91
      go_wp2_with (first | (go_at_call 48; refine (l1Mode_eq HM.out _).mono ?_; rintro e w' ⟨rfl, rfl⟩) | (go_at_call 52; refine (l1In_eq (by first | exact HU.out | exact HG.out | exact HT.out) _).mono ?_; rintro e w' ⟨rfl, rfl⟩))
      go_ret
      exact ⟨ret_bool (by first | exact HF.out.symm | (have hz := HF.out.symm; rw [k1] at hz; exact hz)), HB.out _ _⟩
end Go.Proofs.YtbmbbioanlcioaaGreatDoor


/-
  Lists of numbers that a call reads or has built; the model's l1Has, l1Put.
  Conditions: at most 2^20 numbers; what is put is not there yet.
-/
namespace Go.Proofs.YtbmbbioanlcioaaGreatDoor
open Go.ChangeShapes Go.WideShapes Go.ChangeAt Go.RowKit Go.Joins
set_option linter.unusedVariables false

theorem intInfo : (Tryz.prog.info? 3).map (fun i => (i.zero, i.size, i.bytes)) = some (some (.int .i64 0), 1, 8) := by kernel_rfl

def ints (l : List Int) : List Value := l.map fun n => .int .i64 n
/-- The value is a list of numbers that the call has built, in blocks from B on. -/
def LstI (w : World) (B : Nat) (v : Value) (l : List Int) : Prop := w.ownsRow B 3 1 v l.length (ints l)
/-- The value reads as a list of numbers. -/
def RdI (w : World) (v : Value) (l : List Int) : Prop :=
  ∃ o c, v = .slice o l.length c ∧ l.length ≤ c ∧ c ≤ maxLen ∧ (o = none → c = 0) ∧ ∀ a, o = some a → ∃ g off, a = ⟨g, off, none⟩ ∧ g < w.heap.size ∧ ∀ i (h : i < l.length), w.cell? ⟨g, off + i, none⟩ = some (.int .i64 l[i])

theorem LstI.read {w : World} {B : Nat} {v : Value} {l : List Int} (h : LstI w B v l) : RdI w v l := by
  rcases h with ⟨hl, ⟨rfl, h0⟩ | ⟨g, cap, cur, rfl, hB, hg, hn, hm, hs, ht⟩⟩
  · have : l = [] := List.eq_nil_of_length_eq_zero h0
    subst this
    exact ⟨none, 0, rfl, Nat.le_refl _, Nat.zero_le _, fun _ => rfl, fun a ha => by cases ha⟩
  · refine ⟨_, _, rfl, hn, hm, (fun e => by cases e), fun a ha => ?_⟩
    cases ha
    refine ⟨g, 0, rfl, (Array.getElem?_eq_some_iff.1 hg).1, fun i hi => ?_⟩
    have h1 : cur[i]? = some (.int .i64 l[i]) := by
      rw [← Array.getElem?_toList]
      have h2 : (cur.toList.take (l.length * 1))[i]? = some (.int .i64 l[i]) := by
        rw [ht]; simp [ints, hi]
      rw [List.getElem?_take] at h2
      rw [if_pos (by omega)] at h2
      exact h2
    simp [World.cell?, hg, h1]
theorem RdI.below {w w' : World} {v : Value} {l : List Int} (h : RdI w v l) (hb : Below w.heap.size w w') : RdI w' v l := by
  obtain ⟨o, c, rfl, h1, h2, h0, h3⟩ := h
  refine ⟨o, c, rfl, h1, h2, h0, fun a ha => ?_⟩
  obtain ⟨g, off, e, hg, hc⟩ := h3 a ha
  exact ⟨g, off, e, Nat.lt_of_lt_of_le hg hb.size, fun i hi => (hb.cell (p := ⟨g, off + i, none⟩) hg).trans (hc i hi)⟩
theorem RdI.nil (w : World) : RdI w (.slice none 0 0) [] := ⟨none, 0, rfl, Nat.le_refl _, Nat.zero_le _, fun _ => rfl, fun a ha => by cases ha⟩
theorem below_appI {w wr w1 : World} {B : Nat} {v : Value} {n : Nat} {xs : List Value} (hb : Below B w wr) (hB : B ≤ wr.heap.size) (hown : wr.ownsRow B 3 1 v n xs) (hg : wr.grownBy w1 v.ownBlock) : Below B w w1 := by
  refine hb.grown hg (by first | omega | exact hB) fun j ej => ?_
  rcases hown.2 with ⟨rfl, _⟩ | ⟨g, cap, cur, rfl, hgb, _, _⟩
  · simp [Value.ownBlock] at ej
  · obtain rfl : g = j := by simpa [Value.ownBlock] using ej
    exact hgb

theorem own_none (w : World) : (w.alloc (.cells #[] 3)).ownsRow w.heap.size 3 1 (.slice (some ⟨w.heap.size, 0, none⟩) 0 0) 0 [] :=
  ⟨rfl, .inr ⟨w.heap.size, 0, #[], rfl, Nat.le_refl _, heap_alloc_new w _, Nat.le_refl _, Nat.zero_le _, rfl, rfl⟩⟩
theorem ints_one (l : List Int) : ∀ u ∈ ints l, u.oneCell' = true := by
  intro u hu
  simp only [ints, List.mem_map] at hu
  obtain ⟨y, -, rfl⟩ := hu
  rfl
theorem add_plainI (g off i : Nat) : (⟨g, off, none⟩ : Addr).add i = ⟨g, off + i, none⟩ := by
  unfold Addr.add; split
  · rename_i h; subst h; rfl
  · rfl
def hasI (l : List Int) (n : Int) : Bool := l.any fun x => x == n

set_option maxHeartbeats 1000000 in
theorem l1Has_any (l : List Int) (n : Int) (v : Value) (w : World) (hR : RdI w v l) (hs : l.length ≤ 1048576) : Calls Tryz.prog 93 #[v, .int .i64 n] w fun e w' => e = .returned (.bool (hasI l n)) ∧ w = w' := by
  obtain ⟨o, c, rfl, h1, h2, h0, h3⟩ := hR
  have H3 := Lib.hid h3
  have H0 := Lib.hid h0
  clear h3 h0
  go_enter Tryz.func93, Tryz.ntmps93
  go_wp2
  go_loopw [9] (fun i wr => ∃ k : Nat, k ≤ l.length ∧ i = .int .i64 k ∧ wr = w ∧ ∀ j (hj : j < l.length), j < k → (l[j] == n) = false) (fun i _ => l.length - (intOf i).toNat)
  case atStart => exact ⟨0, Nat.zero_le _, rfl, rfl, fun j hj h => absurd h (Nat.not_lt_zero _)⟩
  case round =>
    obtain ⟨k, hk, rfl, rfl, hj⟩ := hrel
    have HJ := Lib.hid hj
    clear hj
    by_cases hlt : k < l.length
    · obtain ⟨g, off, rfl, hg, hc⟩ : ∃ g off, o = some ⟨g, off, none⟩ ∧ g < wr.heap.size ∧ ∀ i (h : i < l.length), wr.cell? ⟨g, off + i, none⟩ = some (.int .i64 l[i]) := by
        cases o with
        | none => have := H0.out rfl; omega
        | some a => obtain ⟨g, off, rfl, h⟩ := H3.out a rfl; exact ⟨g, off, rfl, h⟩
      have d0 := hc k hlt
      clear hc
      obtain ⟨x, hx⟩ : ∃ x, x = l[k] := ⟨_, rfl⟩
      have HX := Lib.hid hx
      rw [← hx] at d0
      clear hx
      by_cases he : x = n
      · have HF : Hid (hasI l n = true) := Lib.hid (by unfold hasI; rw [List.any_eq_true]; exact ⟨l[k], List.getElem_mem hlt, by rw [← HX.out, he]; simp⟩)
        go_wp2
        go_ret
        exact ⟨ret_bool HF.out.symm, rfl⟩
      · have HJ2 : Hid (∀ j (hj : j < l.length), j < k + 1 → (l[j] == n) = false) := Lib.hid (by
          intro j hj h
          rcases Nat.lt_succ_iff_lt_or_eq.1 h with h1 | rfl
          · exact HJ.out j hj h1
          · rw [← HX.out]; simpa using he)
        go_wp2
        go_roundw
        case rel => exact ⟨k + 1, hlt, by go_num, trivial, HJ2.out⟩
        case measure => simp [intOf]; omega
    · have HF : Hid (hasI l n = false) := Lib.hid (by
        unfold hasI
        rw [List.any_eq_false]
        intro e he
        obtain ⟨m, hm, rfl⟩ := List.getElem_of_mem he
        rw [HJ.out m hm (by omega)]; simp)
      go_wp2
      go_ret
      exact ⟨ret_bool HF.out.symm, rfl⟩

set_option maxHeartbeats 4000000 in
theorem l1Put_any (l : List Int) (n : Int) (v : Value) (w : World) (hR : RdI w v l) (hn : n ∉ l) (hs : l.length ≤ 1048576) : Calls Tryz.prog 118 #[v, .int .i64 n] w fun e w' => ∃ v' k, e = .returned v' ∧ LstI w' w.heap.size v' (l.take k ++ n :: l.drop k) ∧ Below w.heap.size w w' := by
  have HR := Lib.hid hR
  obtain ⟨o, c, rfl, h1, h2, h0, h3⟩ := hR
  have H3 := Lib.hid h3
  have H0 := Lib.hid h0
  have HNL := Lib.hid hn
  clear h3 h0 hn
  unfold maxLen at h2
  go_enter Tryz.func118, Tryz.ntmps118
  go_wp2
  go_loopw [5] (fun i wr => ∃ k : Nat, k ≤ l.length ∧ i = .int .i64 k ∧ wr = w) (fun i _ => l.length - (intOf i).toNat)
  case atStart => exact ⟨0, Nat.zero_le _, rfl, rfl⟩
  case round =>
    obtain ⟨k, hk, rfl, rfl⟩ := hrel
    obtain ⟨i0, hi, hz0, hz1, hz2⟩ := info_parts intInfo
    by_cases hlt : k < l.length
    · obtain ⟨g, off, rfl, hg, hc⟩ : ∃ g off, o = some ⟨g, off, none⟩ ∧ g < wr.heap.size ∧ ∀ i (h : i < l.length), wr.cell? ⟨g, off + i, none⟩ = some (.int .i64 l[i]) := by
        cases o with
        | none => have := H0.out rfl; omega
        | some a => obtain ⟨g, off, rfl, h⟩ := H3.out a rfl; exact ⟨g, off, rfl, h⟩
      have d0 := hc k hlt
      have HC := Lib.hid hc
      clear hc
      obtain ⟨x, hx⟩ : ∃ x, x = l[k] := ⟨_, rfl⟩
      have HX := Lib.hid hx
      rw [← hx] at d0
      clear hx
      have hne : x ≠ n := fun e => HNL.out (by rw [← e, HX.out]; exact List.getElem_mem hlt)
      have hneb : (x == n) = false := by simpa using hne
      by_cases hl : x < n
      · go_wp2
        go_roundw
        case rel => exact ⟨k + 1, hlt, by go_num, trivial⟩
        case measure => simp [intOf]; omega
      · have HNEW : Hid (∀ j u, (ints (l.take k))[j]? = some u → (wr.alloc (.cells #[] 3)).cell? ((⟨g, off, none⟩ : Addr).add j) = some u) := Lib.hid (by
          intro j u hj
          rw [add_plainI]
          simp only [ints, List.getElem?_map, Option.map_eq_some_iff] at hj
          obtain ⟨y, hy, rfl⟩ := hj
          rw [List.getElem?_take] at hy
          split at hy
          · obtain ⟨hjl, rfl⟩ := List.getElem?_eq_some_iff.1 hy
            exact (((Below.refl wr.heap.size wr).alloc (Nat.le_refl _) _).cell (p := ⟨g, off + j, none⟩) hg).trans (HC.out j hjl)
          · cases hy)
        go_wp2_with (at_builtin; refine wpList_append_own _ rfl _ _ 126 rfl wr.heap.size 3 i0 (.int .i64 0) 1 8 Tryz.underlying126 hi hz0 hz1 hz2 rfl (by decide) _ 0 [] rfl (own_none wr) ⟨g, off, none⟩ k c (ints (l.take k)) rfl (by simp [ints]; omega) (HNEW.out) (ints_one _) (by unfold maxLen; omega) (by omega) (by simp) ?_)
        intro v1 w1 hown1 hgrow1 _
        have hbA : Below wr.heap.size wr (wr.alloc (.cells #[] 3)) := (Below.refl _ _).alloc (Nat.le_refl _) _
        have hb1 := below_appI hbA (by simp) (own_none wr) hgrow1
        have HO1 := Lib.hid hown1
        clear hown1 hgrow1 hbA
        go_wp2_with (at_builtin; refine wpList_append_own _ rfl _ _ 126 rfl wr.heap.size 3 i0 (.int .i64 0) 1 8 Tryz.underlying126 hi hz0 hz1 hz2 rfl (by decide) _ _ _ rfl (World.ownsRow.alloc HO1.out _) ⟨w1.heap.size, 0, none⟩ 1 1 [.int .i64 n] rfl rfl (cell_one_new _ _ _) (by simp [Value.oneCell']) (by unfold maxLen; omega) (by omega) (by have := hb1.size; simp; omega) ?_)
        intro v2 w2 hown2 hgrow2 _
        have hb2 := below_appI (hb1.alloc hb1.size (.cells #[.int .i64 n] 3)) (by have := hb1.size; simp; omega) (World.ownsRow.alloc HO1.out _) hgrow2
        have HO2 := Lib.hid hown2
        clear hown2 hgrow2 HO1 hb1
        have hck : ¬ c = k := by omega
        have hck2 : ¬ k = c := by omega
        have HNEW3 : Hid (∀ j u, (ints (l.drop k))[j]? = some u → w2.cell? ((⟨g, off + k, none⟩ : Addr).add j) = some u) := Lib.hid (by
          intro j u hj
          rw [add_plainI]
          simp only [ints, List.getElem?_map, Option.map_eq_some_iff] at hj
          obtain ⟨y, hy, rfl⟩ := hj
          rw [List.getElem?_drop] at hy
          obtain ⟨hjl, rfl⟩ := List.getElem?_eq_some_iff.1 hy
          rw [Nat.add_assoc]
          exact (hb2.cell (p := ⟨g, off + (k + j), none⟩) hg).trans (HC.out (k + j) hjl))
        go_wp2_with (at_builtin; refine wpList_append_own _ rfl _ _ 126 rfl wr.heap.size 3 i0 (.int .i64 0) 1 8 Tryz.underlying126 hi hz0 hz1 hz2 rfl (by decide) _ _ _ rfl HO2.out ⟨g, off + k, none⟩ (l.length - k) (c - k) (ints (l.drop k)) rfl (by simp [ints]) (HNEW3.out) (ints_one _) (by unfold maxLen; omega) (by omega) hb2.size ?_)
        intro v3 w3 hown3 hgrow3 _
        have hb3 := below_appI hb2 hb2.size HO2.out hgrow3
        have HO3 := Lib.hid hown3
        clear hown3 hgrow3 HO2 hb2
        go_wp2
        go_ret
        refine ⟨_, k, rfl, ?_, hb3⟩
        have hq := HO3.out
        unfold LstI
        have e1 : (l.take k ++ n :: l.drop k).length = 0 + k + 1 + (l.length - k) := by simp; omega
        rw [e1]
        simpa [ints] using hq
    · obtain rfl : k = l.length := by omega
      cases o with
      | none =>
        have hc0 := H0.out rfl
        have hl0 : l = [] := List.eq_nil_of_length_eq_zero (by omega)
        subst hl0
        subst hc0
        simp only [List.length_nil] at hk hlt ⊢
        have HCN : Hid (∀ j u, [Value.int .i64 n][j]? = some u → ((wr.alloc (.cells #[] 3)).alloc (.cells #[.int .i64 n] 3)).cell? ((⟨wr.heap.size + 1, 0, none⟩ : Addr).add j) = some u) := Lib.hid (by
          have h := cell_one_new (wr.alloc (.cells #[] 3)) (.int .i64 n) 3
          rw [World.size_alloc] at h
          exact h)
        have HO1 : Hid ((wr.alloc (.cells #[] 3)).ownsRow wr.heap.size 3 1 (.slice (some ⟨wr.heap.size, 0, none⟩) 0 0) 0 []) := Lib.hid (own_none wr)
        have hb1 : Below wr.heap.size wr (wr.alloc (.cells #[] 3)) := (Below.refl _ _).alloc (Nat.le_refl _) _
        go_wp2_with (first | (at_builtin; refine wpList_append_own_none rfl _ _ 126 rfl wr.heap.size 3 i0 1 Tryz.underlying126 hi _ _ _ rfl (own_none wr) rfl ?_) | (at_builtin; refine wpList_append_own _ rfl _ _ 126 rfl wr.heap.size 3 i0 (.int .i64 0) 1 8 Tryz.underlying126 hi hz0 hz1 hz2 rfl (by decide) _ _ _ rfl (World.ownsRow.alloc HO1.out _) ⟨wr.heap.size + 1, 0, none⟩ 1 1 [.int .i64 n] rfl rfl (HCN.out) (by simp [Value.oneCell']) (by unfold maxLen; omega) (by omega) (by have := hb1.size; simp at this ⊢; omega) ?_))
        intro v2 w2 hown2 hgrow2 _
        have hb2 := below_appI (hb1.alloc hb1.size (.cells #[.int .i64 n] 3)) (by have := hb1.size; simp at this ⊢; omega) (World.ownsRow.alloc HO1.out _) hgrow2
        have HO2 := Lib.hid hown2
        clear hown2 hgrow2 HO1 hb1
        go_wp2_with (at_builtin; refine wpList_append_own_none rfl _ _ 126 rfl wr.heap.size 3 i0 1 Tryz.underlying126 hi _ _ _ rfl HO2.out rfl ?_)
        go_ret
        refine ⟨_, 0, rfl, ?_, hb2⟩
        have hq := HO2.out
        unfold LstI
        simpa [ints] using hq
      | some a =>
        obtain ⟨g, off, rfl, hg, hc⟩ := H3.out a rfl
        have HC := Lib.hid hc
        clear hc
        have HNEW : Hid (∀ j u, (ints l)[j]? = some u → (wr.alloc (.cells #[] 3)).cell? ((⟨g, off, none⟩ : Addr).add j) = some u) := Lib.hid (by
          intro j u hj
          rw [add_plainI]
          simp only [ints, List.getElem?_map, Option.map_eq_some_iff] at hj
          obtain ⟨y, hy, rfl⟩ := hj
          obtain ⟨hjl, rfl⟩ := List.getElem?_eq_some_iff.1 hy
          exact (((Below.refl wr.heap.size wr).alloc (Nat.le_refl _) _).cell (p := ⟨g, off + j, none⟩) hg).trans (HC.out j hjl))
        by_cases hc0 : c = 0
        · have hl0 : l = [] := List.eq_nil_of_length_eq_zero (by omega)
          subst hl0
          subst hc0
          simp only [List.length_nil] at hk hlt ⊢
          go_wp2_with (at_builtin; refine wpList_append_own _ rfl _ _ 126 rfl wr.heap.size 3 i0 (.int .i64 0) 1 8 Tryz.underlying126 hi hz0 hz1 hz2 rfl (by decide) _ 0 [] rfl (own_none wr) ⟨g, off, none⟩ 0 0 (ints []) rfl (by simp [ints]) (HNEW.out) (ints_one _) (by unfold maxLen; omega) (by omega) (by simp) ?_)
          intro v1 w1 hown1 hgrow1 _
          have hbA : Below wr.heap.size wr (wr.alloc (.cells #[] 3)) := (Below.refl _ _).alloc (Nat.le_refl _) _
          have hb1 := below_appI hbA (by simp) (own_none wr) hgrow1
          have HO1 := Lib.hid hown1
          clear hown1 hgrow1 hbA
          go_wp2_with (at_builtin; refine wpList_append_own _ rfl _ _ 126 rfl wr.heap.size 3 i0 (.int .i64 0) 1 8 Tryz.underlying126 hi hz0 hz1 hz2 rfl (by decide) _ _ _ rfl (World.ownsRow.alloc HO1.out _) ⟨w1.heap.size, 0, none⟩ 1 1 [.int .i64 n] rfl rfl (cell_one_new _ _ _) (by simp [Value.oneCell']) (by unfold maxLen; omega) (by omega) (by have := hb1.size; simp at this ⊢; omega) ?_)
          intro v2 w2 hown2 hgrow2 _
          have hb2 := below_appI (hb1.alloc hb1.size (.cells #[.int .i64 n] 3)) (by have := hb1.size; simp at this ⊢; omega) (World.ownsRow.alloc HO1.out _) hgrow2
          have HO2 := Lib.hid hown2
          clear hown2 hgrow2 HO1 hb1
          go_wp2_with (first | (at_builtin; refine wpList_append_own _ rfl _ _ 126 rfl wr.heap.size 3 i0 (.int .i64 0) 1 8 Tryz.underlying126 hi hz0 hz1 hz2 rfl (by decide) _ _ _ rfl HO2.out ⟨g, off, none⟩ 0 0 [] rfl (by simp) (by simp) (by simp) (by unfold maxLen; omega) (by omega) hb2.size ?_) | (at_builtin; refine wpList_append_own _ rfl _ _ 126 rfl wr.heap.size 3 i0 (.int .i64 0) 1 8 Tryz.underlying126 hi hz0 hz1 hz2 rfl (by decide) _ _ _ rfl HO2.out ⟨g, off, none⟩ (0 - 0) 0 [] rfl (by simp) (by simp) (by simp) (by unfold maxLen; omega) (by omega) hb2.size ?_))
          intro v3 w3 hown3 hgrow3 _
          have hb3 := below_appI hb2 hb2.size HO2.out hgrow3
          have HO3 := Lib.hid hown3
          clear hown3 hgrow3 HO2 hb2
          go_wp2
          go_ret
          refine ⟨_, 0, rfl, ?_, hb3⟩
          have hq := HO3.out
          unfold LstI
          simpa [ints] using hq
        by_cases hck : c = l.length
        · have hpos : ¬ l.length = 0 := by omega
          go_wp2_with (at_builtin; refine wpList_append_own _ rfl _ _ 126 rfl wr.heap.size 3 i0 (.int .i64 0) 1 8 Tryz.underlying126 hi hz0 hz1 hz2 rfl (by decide) _ 0 [] rfl (own_none wr) ⟨g, off, none⟩ l.length l.length (ints l) rfl (by simp [ints]) (HNEW.out) (ints_one _) (by unfold maxLen; omega) (by omega) (by simp) ?_)
          intro v1 w1 hown1 hgrow1 _
          have hbA : Below wr.heap.size wr (wr.alloc (.cells #[] 3)) := (Below.refl _ _).alloc (Nat.le_refl _) _
          have hb1 := below_appI hbA (by simp) (own_none wr) hgrow1
          have HO1 := Lib.hid hown1
          clear hown1 hgrow1 hbA
          go_wp2_with (at_builtin; refine wpList_append_own _ rfl _ _ 126 rfl wr.heap.size 3 i0 (.int .i64 0) 1 8 Tryz.underlying126 hi hz0 hz1 hz2 rfl (by decide) _ _ _ rfl (World.ownsRow.alloc HO1.out _) ⟨w1.heap.size, 0, none⟩ 1 1 [.int .i64 n] rfl rfl (cell_one_new _ _ _) (by simp [Value.oneCell']) (by unfold maxLen; omega) (by omega) (by have := hb1.size; simp at this ⊢; omega) ?_)
          intro v2 w2 hown2 hgrow2 _
          have hb2 := below_appI (hb1.alloc hb1.size (.cells #[.int .i64 n] 3)) (by have := hb1.size; simp at this ⊢; omega) (World.ownsRow.alloc HO1.out _) hgrow2
          have HO2 := Lib.hid hown2
          clear hown2 hgrow2 HO1 hb1
          go_wp2_with (first | (at_builtin; refine wpList_append_own _ rfl _ _ 126 rfl wr.heap.size 3 i0 (.int .i64 0) 1 8 Tryz.underlying126 hi hz0 hz1 hz2 rfl (by decide) _ _ _ rfl HO2.out ⟨g, off, none⟩ 0 0 [] rfl (by simp) (by simp) (by simp) (by unfold maxLen; omega) (by omega) hb2.size ?_) | (at_builtin; refine wpList_append_own _ rfl _ _ 126 rfl wr.heap.size 3 i0 (.int .i64 0) 1 8 Tryz.underlying126 hi hz0 hz1 hz2 rfl (by decide) _ _ _ rfl HO2.out ⟨g, off, none⟩ 0 (c - l.length) [] rfl (by simp) (by simp) (by simp) (by unfold maxLen; omega) (by omega) hb2.size ?_) | (at_builtin; refine wpList_append_own _ rfl _ _ 126 rfl wr.heap.size 3 i0 (.int .i64 0) 1 8 Tryz.underlying126 hi hz0 hz1 hz2 rfl (by decide) _ _ _ rfl HO2.out ⟨g, off, none⟩ (l.length - l.length) 0 [] rfl (by simp) (by simp) (by simp) (by unfold maxLen; omega) (by omega) hb2.size ?_) | (at_builtin; refine wpList_append_own _ rfl _ _ 126 rfl wr.heap.size 3 i0 (.int .i64 0) 1 8 Tryz.underlying126 hi hz0 hz1 hz2 rfl (by decide) _ _ _ rfl HO2.out ⟨g, off, none⟩ (l.length - l.length) (c - l.length) [] rfl (by simp) (by simp) (by simp) (by unfold maxLen; omega) (by omega) hb2.size ?_))
          intro v3 w3 hown3 hgrow3 _
          have hb3 := below_appI hb2 hb2.size HO2.out hgrow3
          have HO3 := Lib.hid hown3
          clear hown3 hgrow3 HO2 hb2
          go_wp2
          go_ret
          refine ⟨_, l.length, rfl, ?_, hb3⟩
          have hq := HO3.out
          unfold LstI
          simpa [ints] using hq
        · have hck2 : ¬ l.length = c := fun e => hck e.symm
          go_wp2_with (at_builtin; refine wpList_append_own _ rfl _ _ 126 rfl wr.heap.size 3 i0 (.int .i64 0) 1 8 Tryz.underlying126 hi hz0 hz1 hz2 rfl (by decide) _ 0 [] rfl (own_none wr) ⟨g, off, none⟩ l.length c (ints l) rfl (by simp [ints]) (HNEW.out) (ints_one _) (by unfold maxLen; omega) (by omega) (by simp) ?_)
          intro v1 w1 hown1 hgrow1 _
          have hbA : Below wr.heap.size wr (wr.alloc (.cells #[] 3)) := (Below.refl _ _).alloc (Nat.le_refl _) _
          have hb1 := below_appI hbA (by simp) (own_none wr) hgrow1
          have HO1 := Lib.hid hown1
          clear hown1 hgrow1 hbA
          go_wp2_with (at_builtin; refine wpList_append_own _ rfl _ _ 126 rfl wr.heap.size 3 i0 (.int .i64 0) 1 8 Tryz.underlying126 hi hz0 hz1 hz2 rfl (by decide) _ _ _ rfl (World.ownsRow.alloc HO1.out _) ⟨w1.heap.size, 0, none⟩ 1 1 [.int .i64 n] rfl rfl (cell_one_new _ _ _) (by simp [Value.oneCell']) (by unfold maxLen; omega) (by omega) (by have := hb1.size; simp at this ⊢; omega) ?_)
          intro v2 w2 hown2 hgrow2 _
          have hb2 := below_appI (hb1.alloc hb1.size (.cells #[.int .i64 n] 3)) (by have := hb1.size; simp at this ⊢; omega) (World.ownsRow.alloc HO1.out _) hgrow2
          have HO2 := Lib.hid hown2
          clear hown2 hgrow2 HO1 hb1
          go_wp2_with (first | (at_builtin; refine wpList_append_own _ rfl _ _ 126 rfl wr.heap.size 3 i0 (.int .i64 0) 1 8 Tryz.underlying126 hi hz0 hz1 hz2 rfl (by decide) _ _ _ rfl HO2.out ⟨g, off + l.length, none⟩ 0 (c - l.length) [] rfl (by simp) (by simp) (by simp) (by unfold maxLen; omega) (by omega) hb2.size ?_) | (at_builtin; refine wpList_append_own _ rfl _ _ 126 rfl wr.heap.size 3 i0 (.int .i64 0) 1 8 Tryz.underlying126 hi hz0 hz1 hz2 rfl (by decide) _ _ _ rfl HO2.out ⟨g, off + l.length, none⟩ (l.length - l.length) (c - l.length) [] rfl (by simp) (by simp) (by simp) (by unfold maxLen; omega) (by omega) hb2.size ?_))
          intro v3 w3 hown3 hgrow3 _
          have hb3 := below_appI hb2 hb2.size HO2.out hgrow3
          have HO3 := Lib.hid hown3
          clear hown3 hgrow3 HO2 hb2
          go_wp2
          go_ret
          refine ⟨_, l.length, rfl, ?_, hb3⟩
          have hq := HO3.out
          unfold LstI
          simpa [ints] using hq
end Go.Proofs.YtbmbbioanlcioaaGreatDoor
