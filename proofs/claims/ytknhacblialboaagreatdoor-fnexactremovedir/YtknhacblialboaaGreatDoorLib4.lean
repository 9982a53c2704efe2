/-
  Joined: IterC ListC ListD IterD GoodC WholeC FsV.
  Conditions: as each states.
-/
import Derived.RangeFuncNested
import Derived.RangeFuncBound
import Derived.RangeFuncCalls
import Derived.RangeFuncLeaves
import Derived.Shelf.Abstract
import Derived.Shelf.RegionOpen
import Derived.WalkKit
import Derived.OwnWalkIn
import Derived.TacticsInMore
import Derived.LoopNIn
import Derived.LoopIn
import Derived.Maps.AppendAt
import Derived.Laws.Cover1
import Derived.Test.YtknhacblialboaaGreatDoorLib2
import Derived.Test.YtknhacblialboaaGreatDoorLib3
namespace Go.Proofs.YtknhacblialboaaGreatDoor
open Go.RowKit Go.Shelf
set_option linter.unusedVariables false
set_option linter.unusedSimpArgs false
set_option maxHeartbeats 16000000
attribute [local go_sem] Oper.semAt_some
def KpB (b : Nat) (W W' : World) : Prop := KeepsWalks W W' ∧ W'.cell? ⟨b, 0, none⟩ = W.cell? ⟨b, 0, none⟩
theorem kpB_t {b : Nat} {X Y Z : World} (h : KpB b X Y) (k : KpB b Y Z) : KpB b X Z := ⟨h.1.trans k.1, k.2.trans h.2⟩
theorem kpB_b {b : Nat} {w : World} (hb : b < w.heap.size) (W : World) (l : Nat) (o o' : Obj) (hl : w.heap.size ≤ l) (h : W.heap[l]? = some o) (_ : o.isCells = false) (hw : o.isWalk = false) : KpB b W (W.putObj l o') :=
 ⟨KeepsWalks.putObj _ h hw, World.cell?_of_block (World.putObj_heap_other (show b ≠ l by omega))⟩
theorem kpB_below {b n₀ : Nat} {W W' : World} (h : KeepsOthers W W') (hb : Below n₀ W W') (hn : b < n₀) : KpB b W W' := ⟨h.walks, hb.cell (p := ⟨b, 0, none⟩) hn⟩
theorem others_below {W W' : World} (hb : Below W.heap.size W W') : KeepsOthers W W' := ⟨hb.size, fun k o hk _ => (hb.block k (Array.getElem?_eq_some_iff.1 hk).1).trans hk⟩
theorem sp_prefix (a b : List UInt8) : (sp a).1 <+: (sp (a ++ b)).1 := by
 induction b generalizing a with
 | nil => simp
 | cons c b ih =>
   have e : a ++ c :: b = (a ++ [c]) ++ b := by simp
   rw [e]
   refine List.IsPrefix.trans ?_ (ih (a ++ [c]))
   rw [sp_snoc, spStep]
   split
   · exact ⟨[(sp a).2], rfl⟩
   · exact List.prefix_refl _
theorem full_prefix {a b : List (List UInt8)} (h : a <+: b) : full a <+: full b := by
 obtain ⟨t, rfl⟩ := h
 exact ⟨full t, (full_app a t).symm⟩
theorem done_prefix (l : List UInt8) (k : Nat) : full (sp (l.take k)).1 <+: parts l := by
 have h := sp_prefix (l.take k) (l.drop k)
 rw [List.take_append_drop] at h
 refine (full_prefix h).trans ?_
 exact full_prefix ⟨[(sp l).2], rfl⟩
theorem len_of_prefix {a b : List (List UInt8)} {x : List UInt8} (h : a ++ [x] <+: b) : a.length < b.length := by
 have := h.length_le; simp at this; omega
theorem map_prefix {a b : List (List UInt8)} (h : a <+: b) : a.map bs <+: b.map bs := by
 obtain ⟨t, rfl⟩ := h
 exact ⟨t.map bs, by simp⟩
structure Cut (s : ByteArray) (pos frm : Nat) : Prop where
 le : frm ≤ pos
 top : pos ≤ s.size
 cur : (sp (s.data.toList.take pos)).2 = (s.data.toList.take pos).drop frm
def given (s : ByteArray) (pos : Nat) : List (List UInt8) := full (sp (s.data.toList.take pos)).1
theorem Cut.start (s : ByteArray) : Cut s 0 0 := ⟨Nat.le_refl _, Nat.zero_le _, by simp [sp]⟩
theorem given_start (s : ByteArray) : given s 0 = [] := by simp [given, sp, full]
theorem Cut.rune {s : ByteArray} {pos frm : Nat} (h : Cut s pos frm) (hp : pos < s.size) (hn : (Utf8.decode s pos).1 ≠ 47) : Cut s (pos + (Utf8.decode s pos).2) frm ∧ given s (pos + (Utf8.decode s pos).2) = given s pos := by
 obtain ⟨hle, h1, _⟩ := decode_bytes s pos hp
 have e := sp_rune s pos hp hn
 refine ⟨⟨by have := h.le; omega, hle, ?_⟩, by unfold given; rw [e]⟩
 rw [e]
 simp only
 rw [h.cur]
 have hl := aW9 s
 have e1 := (List.take_append_drop pos (s.data.toList.take (pos + (Utf8.decode s pos).2))).symm
 rw [List.take_take, Nat.min_eq_left (by omega)] at e1
 conv => rhs; rw [e1]
 rw [List.drop_append_of_le_length (by rw [List.length_take]; have := h.le; omega)]
theorem Cut.slash {s : ByteArray} {pos frm : Nat} (h : Cut s pos frm) (hp : pos < s.size) (h47 : (s[pos]'hp) = 47) :
   Cut s (pos + 1) (pos + 1) ∧ sp (s.data.toList.take (pos + 1)) = ((sp (s.data.toList.take pos)).1 ++ [(s.data.toList.take pos).drop frm], []) := by
 have e : sp (s.data.toList.take (pos + 1)) = ((sp (s.data.toList.take pos)).1 ++ [(s.data.toList.take pos).drop frm], []) := by
   rw [take_snoc' s pos hp, sp_snoc, spStep, if_pos h47, h.cur]
 refine ⟨⟨Nat.le_refl _, hp, ?_⟩, e⟩
 rw [e]
 exact (List.drop_eq_nil_of_le (by rw [List.length_take]; omega)).symm
theorem Cut.gives {s : ByteArray} {pos frm : Nat} (h : Cut s pos frm) (hp : pos < s.size) (h47 : (s[pos]'hp) = 47) (hlt : frm < pos) : given s (pos + 1) = given s pos ++ [(s.data.toList.take pos).drop frm] := by
 unfold given
 rw [(h.slash hp h47).2, full_app]
 have : (s.data.toList.take pos).drop frm ≠ [] := by
   intro e
   have := congrArg List.length e
   have hl := aW9 s
   simp only [List.length_drop, List.length_take, List.length_nil, hl] at this
   omega
 simp [full, this]
theorem Cut.skips {s : ByteArray} {pos frm : Nat} (h : Cut s pos frm) (hp : pos < s.size) (h47 : (s[pos]'hp) = 47) (hlt : ¬ frm < pos) : given s (pos + 1) = given s pos := by
 unfold given
 rw [(h.slash hp h47).2, full_app]
 have : (s.data.toList.take pos).drop frm = [] := List.drop_eq_nil_of_le (by rw [List.length_take]; have := h.le; omega)
 simp [full, this]
theorem Cut.last {s : ByteArray} {frm : Nat} (h : Cut s s.size frm) (hlt : frm < s.size) : parts s.data.toList = given s s.size ++ [(s.data.toList.take s.size).drop frm] := by
 have hl := aW9 s
 have c := h.cur
 have ht : s.data.toList.take s.size = s.data.toList := List.take_of_length_le (by omega)
 unfold parts given
 rw [full_app]
 rw [ht] at c ⊢
 rw [c]
 have : s.data.toList.drop frm ≠ [] := by
   intro e
   have := congrArg List.length e
   simp only [List.length_drop, List.length_nil, hl] at this
   omega
 simp [full, this]
theorem Cut.ended {s : ByteArray} {frm : Nat} (h : Cut s s.size frm) (hlt : ¬ frm < s.size) : parts s.data.toList = given s s.size := by
 have hl := aW9 s
 have c := h.cur
 have ht : s.data.toList.take s.size = s.data.toList := List.take_of_length_le (by omega)
 unfold parts given
 rw [full_app]
 rw [ht] at c ⊢
 rw [c, List.drop_eq_nil_of_le (by omega)]
 simp [full]
theorem given_prefix (s : ByteArray) (pos : Nat) : given s pos <+: parts s.data.toList := done_prefix _ _
theorem slash_byte {s : ByteArray} {pos : Nat} (hp : pos < s.size) (h : (Utf8.decode s pos).1 = 47) : (s[pos]'hp) = 47 ∧ (Utf8.decode s pos).2 = 1 := by
 obtain ⟨h1, h2⟩ := decode_low s pos hp (by omega)
 exact ⟨UInt8.toNat_inj.1 (by rw [h1, h]; rfl), h2⟩
theorem abides_next {J : List ByteArray → World → Prop} {B I : Nat} (h : AbidesFrom B J) {pre : List ByteArray} {W : World} (hj : J pre W) {s : ByteArray} {pos : Nat} (hI : W.heap[I]? = some (.stringIter s pos)) (hB : B ≤ I) (pos' : Nat) : J pre (W.iterAt I s pos') :=
 h pre W _ (some I) hj ⟨rfl, rfl, rfl, by rw [Lib.iterAt_size]; exact Nat.le_refl _, fun k _ hk => Lib.iterAt_other W I k s pos' (fun e => hk (by rw [e]))⟩ (fun r e => by cases e; exact ⟨hB, _, hI, rfl⟩)
theorem cell_iterAt {W : World} {I : Nat} {s : ByteArray} {pos : Nat} {b : Nat} {v : Value} (hI : W.heap[I]? = some (.stringIter s pos)) (h : W.cell? ⟨b, 0, none⟩ = some v) (pos' : Nat) : (W.iterAt I s pos').cell? ⟨b, 0, none⟩ = some v := by
 have hne : b ≠ I := by
   intro e
   subst e
   simp [World.cell?, hI] at h
 exact (World.cell?_of_block (a := ⟨b, 0, none⟩) (Lib.iterAt_other W I b s pos' hne)).trans h
end Go.Proofs.YtknhacblialboaaGreatDoor
namespace Go.Proofs.YtknhacblialboaaGreatDoor
open Go.ChangeShapes Go.WideShapes Go.ChangeAt Go.RowKit Go.Joins
set_option linter.unusedVariables false
set_option linter.unusedSimpArgs false
set_option maxHeartbeats 16000000
theorem strInfo : (Tryz.prog.info? 9).map (fun i => (i.zero, i.size, i.bytes)) = some (some (.string ⟨#[]⟩), 1, 16) := by kernel_rfl
def strs (ps : List (List UInt8)) : List Value := ps.map fun p => .string (bs p)
def Lst (w : World) (B : Nat) (v : Value) (ps : List (List UInt8)) : Prop := w.ownsRow B 9 1 v ps.length (strs ps)
def Rd (w : World) (v : Value) (ps : List (List UInt8)) : Prop :=
 ∃ o c, v = .slice o ps.length c ∧ ps.length ≤ c ∧ c ≤ maxLen ∧ ∀ i (h : i < ps.length), ∃ g off, o = some ⟨g, off, none⟩ ∧ g < w.heap.size ∧ w.cell? ⟨g, off + i, none⟩ = some (.string (bs ps[i]))
theorem Lst.nil (w : World) (B : Nat) : Lst w B (.slice none 0 0) [] := World.ownsRow_nil _ _ _ _
theorem Lst.alloc {w : World} {B : Nat} {v : Value} {ps : List (List UInt8)} (h : Lst w B v ps) (o : Obj) : w.alloc o |>.ownsRow B 9 1 v ps.length (strs ps) := World.ownsRow.alloc h o
theorem Lst.snoc {w : World} {B : Nat} {v : Value} {ps : List (List UInt8)} {p : List UInt8} {x : ByteArray} (hx : x = bs p) (h : w.ownsRow B 9 1 v (ps.length + 1) (strs ps ++ [.string x])) : Lst w B v (ps ++ [p]) := by
 subst hx
 unfold Lst
 simpa [strs] using h
theorem Lst.read {w : World} {B : Nat} {v : Value} {ps : List (List UInt8)} (h : Lst w B v ps) : Rd w v ps := by
 rcases h with ⟨hl, ⟨rfl, h0⟩ | ⟨g, cap, cur, rfl, hB, hg, hn, hm, hs, ht⟩⟩
 · have : ps = [] := List.eq_nil_of_length_eq_zero h0
   subst this
   exact ⟨none, 0, rfl, Nat.le_refl _, Nat.zero_le _, fun i hi => absurd hi (by simp)⟩
 · refine ⟨_, _, rfl, hn, hm, fun i hi => ⟨g, 0, rfl, (Array.getElem?_eq_some_iff.1 hg).1, ?_⟩⟩
   have h1 : cur[i]? = some (.string (bs ps[i])) := by
     rw [← Array.getElem?_toList]
     have h2 : (cur.toList.take (ps.length * 1))[i]? = some (.string (bs ps[i])) := by
       rw [ht]; simp [strs, hi]
     rw [List.getElem?_take] at h2
     rw [if_pos (by omega)] at h2
     exact h2
   simp [World.cell?, hg, h1]
theorem Rd.below {w w' : World} {v : Value} {ps : List (List UInt8)} (h : Rd w v ps) (hb : Below w.heap.size w w') : Rd w' v ps := by
 obtain ⟨o, c, rfl, h1, h2, h3⟩ := h
 refine ⟨o, c, rfl, h1, h2, fun i hi => ?_⟩
 obtain ⟨g, off, e, hg, hc⟩ := h3 i hi
 exact ⟨g, off, e, Nat.lt_of_lt_of_le hg hb.size, (hb.cell (p := ⟨g, off + i, none⟩) hg).trans hc⟩
theorem Rd.nil (w : World) : Rd w (.slice none 0 0) [] := ⟨none, 0, rfl, Nat.le_refl _, Nat.zero_le _, fun i hi => absurd hi (by simp)⟩
theorem lst_mono {w : World} {A B : Nat} {v : Value} {ps : List (List UInt8)} (h : Lst w B v ps) (hAB : A ≤ B) : Lst w A v ps := by
 rcases h with ⟨hl, hn | ⟨g, cap, cur, e, hB, rest⟩⟩
 · exact ⟨hl, .inl hn⟩
 · exact ⟨hl, .inr ⟨g, cap, cur, e, Nat.le_trans hAB hB, rest⟩⟩
theorem below_app {w wr w1 : World} {B : Nat} {v : Value} {n : Nat} {xs : List Value} {tmp : Obj} (hb : Below B w wr) (hB : B ≤ wr.heap.size) (hown : wr.ownsRow B 9 1 v n xs) (hg : (wr.alloc tmp).grownBy w1 v.ownBlock) : Below B w w1 := by
 refine (hb.alloc hB tmp).grown hg (by simp; omega) fun j ej => ?_
 rcases hown.2 with ⟨rfl, _⟩ | ⟨g, cap, cur, rfl, hgb, _, _⟩
 · simp [Value.ownBlock] at ej
 · obtain rfl : g = j := by simpa [Value.ownBlock] using ej
   exact hgb
theorem sp_one_le (l : List UInt8) : (sp l).1.length ≤ l.length := by have := sp_le l; omega
theorem not47 {c : UInt8} (h : c ≠ 47) : (c.toNat : Int) ≠ 47 := by
 intro e
 refine h (UInt8.toNat_inj.1 ?_)
 show c.toNat = 47
 omega
theorem l1Split_any (s : ByteArray) (w : World) (hs : s.size ≤ 1073741824) : Calls Tryz.prog 113 #[.string s, .int .u8 47] w fun e w' => ∃ v, e = .returned v ∧ Lst w' w.heap.size v ((sp s.data.toList).1 ++ [(sp s.data.toList).2]) ∧ Below w.heap.size w w' := by
 obtain ⟨i0, hi, hz0, hz1, hz2⟩ := info_parts strInfo
 go_enter Tryz.func113, Tryz.ntmps113
 go_wp2
 go_loopw [5, 6, 7] (fun v f i wr => ∃ k frm : Nat, i = .int .i64 k ∧ f = .int .i64 frm ∧ Cut s k frm ∧ Lst wr w.heap.size v (sp (s.data.toList.take k)).1 ∧ Below w.heap.size w wr) (fun _ _ i _ => s.size - (intOf i).toNat)
 case atStart => exact ⟨0, 0, rfl, rfl, Cut.start s, Lst.nil _ _, Below.refl _ _⟩
 case round =>
   obtain ⟨k, frm, rfl, rfl, hC, hL, hB⟩ := hrel
   have HC := qhZ hC
   have hle := hC.le
   have htop := hC.top
   have hlen : (sp (s.data.toList.take k)).1.length ≤ k := Nat.le_trans (sp_one_le _) (List.length_take_le _ _)
   clear hC
   by_cases hlt : k < s.size
   · by_cases h47 : (s[k]'hlt) = 47
     · have hb : ((s[k]'hlt).toNat : Int) = 47 := by rw [h47]; rfl
       have HB := qhZ h47
       clear h47
       go_wp2_with (at_builtin; refine wpList_append_own _ rfl _ _ 97 rfl w.heap.size 9 i0 (.string ⟨#[]⟩) 1 16 Tryz.underlying97 hi hz0 hz1 hz2 rfl (by decide) _ _ _ rfl (hL.alloc _) ⟨wr.heap.size, 0, none⟩ 1 1 [.string (s.extract frm k)] rfl rfl (cell_one_new _ _ _) (by simp [Value.oneCell']) (by unfold maxLen; omega) (by omega) (by have := hB.size; simp; omega) ?_)
       intro v' w1 hown' hgrow _
       have hb1 := below_app hB hB.size hL hgrow
       have HL := qhZ (Lst.snoc (bs_ext s frm k) hown')
       clear hown' hgrow hL
       go_wp2
       go_roundw
       case rel => exact ⟨k + 1, k + 1, by go_num, by go_num, (HC.out.slash hlt HB.out).1, by rw [(HC.out.slash hlt HB.out).2]; exact HL.out, hb1⟩
       case measure => simp [intOf]; omega
     · have hb : ((s[k]'hlt).toNat : Int) ≠ 47 := not47 h47
       have hb' : (((s[k]'hlt).toNat : Int) == 47) = false := by simpa using hb
       have HB := qhZ h47
       clear h47 hb
       go_wp2
       go_roundw
       case rel =>
         have e1 := sp_snoc (s.data.toList.take k) (s[k]'hlt)
         rw [← take_snoc' s k hlt, spStep, if_neg HB.out] at e1
         refine ⟨k + 1, frm, by go_num, rfl, ⟨by omega, hlt, ?_⟩, by rw [e1]; exact hL, hB⟩
         rw [e1, HC.out.cur, take_snoc' s k hlt]
         have := aW9 s
         rw [List.drop_append_of_le_length (by rw [List.length_take]; omega)]
       case measure => simp [intOf]; omega
   · obtain rfl : k = s.size := by omega
     go_wp2_with (at_builtin; refine wpList_append_own _ rfl _ _ 97 rfl w.heap.size 9 i0 (.string ⟨#[]⟩) 1 16 Tryz.underlying97 hi hz0 hz1 hz2 rfl (by decide) _ _ _ rfl (hL.alloc _) ⟨wr.heap.size, 0, none⟩ 1 1 [.string (s.extract frm s.size)] rfl rfl (cell_one_new _ _ _) (by simp [Value.oneCell']) (by unfold maxLen; omega) (by omega) (by have := hB.size; simp; omega) ?_)
     intro v' w1 hown' hgrow _
     have hb1 := below_app hB hB.size hL hgrow
     have HL := qhZ (Lst.snoc (bs_ext s frm s.size) hown')
     clear hown' hgrow hL
     go_wp2
     go_ret
     refine ⟨_, rfl, ?_, hb1⟩
     have h1 := HL.out
     have c := HC.out.cur
     rw [← c] at h1
     rwa [List.take_of_length_le (by rw [aW9]; omega)] at h1
theorem full_take_yes {qs : List (List UInt8)} {k : Nat} (h : k < qs.length) (hn : qs[k] ≠ []) : full (qs.take (k + 1)) = full (qs.take k) ++ [qs[k]] := by
 rw [List.take_succ_eq_append_getElem h, full_app]; simp [full, hn]
theorem full_take_no {qs : List (List UInt8)} {k : Nat} (h : k < qs.length) (hn : qs[k] = []) : full (qs.take (k + 1)) = full (qs.take k) := by
 rw [List.take_succ_eq_append_getElem h, full_app]; simp [full, hn]
theorem full_le (qs : List (List UInt8)) : (full qs).length ≤ qs.length := List.length_filter_le _ _
theorem text_ne {p : List UInt8} (h : p ≠ []) : ((bs p).toList.isEmpty) = false ∧ (!(bs p).toList.isEmpty) = true ∧ (bs p).toList ≠ [] := by
 rw [ByteArray.toList_eq, aY9]
 refine ⟨?_, ?_, h⟩ <;> cases p <;> simp_all
theorem split_len (l : List UInt8) : ((sp l).1 ++ [(sp l).2]).length ≤ l.length + 1 := by have := sp_one_le l; simp; omega
theorem l2Parts_any (s : ByteArray) (w : World) (hs : s.size ≤ 1073741824) : Calls Tryz.prog 76 #[.string s] w fun e w' => ∃ v, e = .returned v ∧ Lst w' w.heap.size v (parts s.data.toList) ∧ Below w.heap.size w w' := by
 obtain ⟨i0, hi, hz0, hz1, hz2⟩ := info_parts strInfo
 have hql := split_len s.data.toList
 rw [aW9] at hql
 have HQ : Hid (parts s.data.toList = full ((sp s.data.toList).1 ++ [(sp s.data.toList).2])) := qhZ rfl
 go_enter Tryz.func76, Tryz.ntmps76
 go_wp2_with fail
 refine (l1Split_any s _ hs).mono ?_
 rintro e w1 ⟨v, rfl, hL, hb1⟩
 obtain ⟨qs, hqs⟩ : ∃ qs, qs = (sp s.data.toList).1 ++ [(sp s.data.toList).2] := ⟨_, rfl⟩
 rw [← hqs] at hL hql
 have HQ2 := qhZ (HQ.out.trans (congrArg full hqs.symm))
 clear hqs HQ
 obtain ⟨o, c, rfl, hlc, hcm, hH⟩ := hL.read
 have HH := qhZ hH
 clear hH hL
 unfold maxLen at hcm
 go_wp2
 go_loopw [3, 9] (fun out i wr => ∃ k : Nat, k ≤ qs.length ∧ i = .int .i64 k ∧ Lst wr w1.heap.size out (full (qs.take k)) ∧ Below w1.heap.size w1 wr) (fun _ i _ => qs.length - (intOf i).toNat)
 case atStart => exact ⟨0, Nat.zero_le _, rfl, Lst.nil _ _, Below.refl _ _⟩
 case round =>
   obtain ⟨k, hk, rfl, hL, hB⟩ := hrel
   have hfl : (full (qs.take k)).length ≤ k := Nat.le_trans (full_le _) (List.length_take_le _ _)
   by_cases hlt : k < qs.length
   · obtain ⟨g, off, rfl, hg, hc⟩ := HH.out k hlt
     have hcell : wr.cell? ⟨g, off + k, none⟩ = some (.string (bs qs[k])) := (hB.cell (p := ⟨g, off + k, none⟩) hg).trans hc
     clear hc
     by_cases hp : qs[k] = []
     · have HF := qhZ (full_take_no hlt hp)
       rw [hp] at hcell
       clear hp
       have hcell' : wr.cell? ⟨g, off + k, none⟩ = some (.string ⟨#[]⟩) := hcell
       clear hcell
       go_wp2
       go_roundw
       case rel => exact ⟨k + 1, hlt, by go_num, by rw [HF.out]; exact hL, hB⟩
       case measure => simp [intOf]; omega
     · have HF := qhZ (full_take_yes hlt hp)
       obtain ⟨hp1, hp2, hp3⟩ := text_ne hp
       obtain ⟨x, hx⟩ : ∃ x, x = bs qs[k] := ⟨_, rfl⟩
       rw [← hx] at hcell hp1 hp2 hp3
       have HX := qhZ hx
       clear hx hp
       go_wp2_with (at_builtin; refine wpList_append_own _ rfl _ _ 97 rfl w1.heap.size 9 i0 (.string ⟨#[]⟩) 1 16 Tryz.underlying97 hi hz0 hz1 hz2 rfl (by decide) _ _ _ rfl (hL.alloc _) ⟨wr.heap.size, 0, none⟩ 1 1 [.string x] rfl rfl (cell_one_new _ _ _) (by simp [Value.oneCell']) (by unfold maxLen; omega) (by omega) (by have := hB.size; simp; omega) ?_)
       intro v' w2 hown' hgrow _
       have hb2 := below_app hB hB.size hL hgrow
       have HL := qhZ (Lst.snoc HX.out hown')
       clear hown' hgrow hL
       go_wp2
       go_roundw
       case rel => exact ⟨k + 1, hlt, by go_num, by rw [HF.out]; exact HL.out, hb2⟩
       case measure => simp [intOf]; omega
   · have HF : Hid (full (qs.take k) = parts s.data.toList) := qhZ (by rw [HQ2.out, List.take_of_length_le (by omega)])
     go_wp2
     go_ret
     refine ⟨_, rfl, ?_, hb1.trans (hB.mono hb1.size)⟩
     rw [HF.out] at hL
     exact lst_mono hL hb1.size
theorem snoc_ind {P : List UInt8 → Prop} (h0 : P []) (hs : ∀ l c, P l → P (l ++ [c])) (l : List UInt8) : P l := by
 have : ∀ m : List UInt8, P m.reverse := by
   intro m
   induction m with
   | nil => exact h0
   | cons c m ih => rw [List.reverse_cons]; exact hs _ _ ih
 simpa using this l.reverse
theorem sp_pieces (l : List UInt8) : (∀ p ∈ (sp l).1, p.length ≤ l.length) ∧ (sp l).2.length ≤ l.length := by
 induction l using snoc_ind with
 | h0 => simp [sp]
 | hs l c ih =>
   rw [sp_snoc, spStep]
   split
   · refine ⟨fun p hp => ?_, by simp⟩
     rcases List.mem_append.1 hp with h | h
     · have := ih.1 p h; simp; omega
     · simp at h; subst h; have := ih.2; simp; omega
   · refine ⟨fun p hp => by have := ih.1 p hp; simp; omega, by have := ih.2; simp; omega⟩
theorem part_le {l p : List UInt8} (h : p ∈ parts l) : p.length ≤ l.length := by
 unfold parts full at h
 have h1 := (List.mem_filter.1 h).1
 rcases List.mem_append.1 h1 with h2 | h2
 · exact (sp_pieces l).1 p h2
 · simp at h2; subst h2; exact (sp_pieces l).2
theorem name_part {p : List UInt8} (h : nameB p = true) : partB p = true := by simp [nameB] at h; exact h.1
theorem part_else {p : List UInt8} (hn : nameB p = false) (h1 : p ≠ [46]) (h2 : p ≠ [46, 46]) : partB p = false := by
 simpa [nameB, h1, h2] using hn
theorem text_neq {p q : List UInt8} (h : p ≠ q) : ((bs p).toList == q) = false := by
 rw [ByteArray.toList_eq, aY9]; simpa using h
theorem parts_le (l : List UInt8) : (parts l).length ≤ l.length + 1 := Nat.le_trans (full_le _) (split_len l)
theorem l2Path_any (s : ByteArray) (w : World) (hs : s.size ≤ 1073741824) : Calls Tryz.prog 43 #[.string s] w fun e w' => e = .returned (.bool (goodB s.data.toList)) ∧ Below w.heap.size w w' := by
 have hpl := parts_le s.data.toList
 rw [aW9] at hpl
 have HP : Hid (∀ p ∈ parts s.data.toList, p.length ≤ s.size) := qhZ (fun p hp => by have := part_le hp; rwa [aW9] at this)
 have HG : Hid (goodB s.data.toList = (inB 1 60 s.size && (parts s.data.toList).all partB)) := qhZ (by
   have : decide (1 ≤ s.data.toList.length ∧ s.data.toList.length ≤ 60) = inB 1 60 s.size := by
     rw [aW9, Bool.eq_iff_iff]; simp [inB]; omega
   rw [goodB, this])
 go_enter Tryz.func43, Tryz.ntmps43
 go_wp2_with fail
 refine (l2Parts_any s _ hs).mono ?_
 rintro e w1 ⟨v, rfl, hL, hb1⟩
 obtain ⟨ps, hps⟩ : ∃ ps, ps = parts s.data.toList := ⟨_, rfl⟩
 rw [← hps] at hL hpl
 have HP2 : Hid (∀ p ∈ ps, p.length ≤ s.size) := qhZ (by rw [hps]; exact HP.out)
 have HG2 : Hid (goodB s.data.toList = (inB 1 60 s.size && ps.all partB)) := qhZ (by rw [hps]; exact HG.out)
 clear hps HP HG
 obtain ⟨o, c, rfl, hlc, hcm, hH⟩ := hL.read
 have HH := qhZ hH
 clear hH hL
 unfold maxLen at hcm
 go_wp2
 go_loop [8] (fun i => ∃ k : Nat, k ≤ ps.length ∧ i = .int .i64 k ∧ (ps.take k).all partB = true) (fun i => ps.length - (intOf i).toNat)
 case atStart => exact ⟨0, Nat.zero_le _, rfl, rfl⟩
 case round =>
   obtain ⟨k, hk, rfl, hA⟩ := hrel
   have HA := qhZ hA
   clear hA
   by_cases hlt : k < ps.length
   · obtain ⟨g, off, rfl, hg, hcell⟩ := HH.out k hlt
     have hsz : (bs ps[k]).size ≤ maxLen := by
       rw [bs_size]; have := HP2.out _ (List.getElem_mem hlt); unfold maxLen; omega
     have HT : Hid ((ps.take (k + 1)).all partB = partB ps[k]) := qhZ (by rw [List.take_succ_eq_append_getElem hlt, List.all_append, HA.out]; simp)
     have HBad : partB ps[k] = false → ps.all partB = false := fun h => by
       rw [List.all_eq_false]; exact ⟨_, List.getElem_mem hlt, by simp [h]⟩
     have HBd := qhZ HBad
     clear HBad
     by_cases hn : nameB ps[k] = true
     · have HN : Hid (nameB (bs ps[k]).data.toList = true) := qhZ (by rw [aY9]; exact hn)
       have HPt := qhZ (name_part hn)
       clear hn
       go_wp2_with (go_at_call 77; refine (l2Name_any _ _ hsz).mono ?_; rintro e w' ⟨rfl, rfl⟩; rw [HN.out])
       go_round
       case rel => exact ⟨k + 1, hlt, by go_num, by rw [HT.out, HPt.out]⟩
       case measure => simp [intOf]; omega
     · have hn' : nameB ps[k] = false := by simpa using hn
       by_cases h1 : ps[k] = [46]
       · have HPt : Hid (partB ps[k] = true) := qhZ (by rw [h1]; decide)
         rw [h1] at hcell
         have hcell' : w1.cell? ⟨g, off + k, none⟩ = some (.string ⟨#[46]⟩) := hcell
         have HN : Hid (nameB (ByteArray.mk #[46]).data.toList = false) := qhZ (by decide)
         clear hcell hn hn' h1 hsz
         go_wp2_with (go_at_call 77; refine (l2Name_any _ _ (by decide)).mono ?_; rintro e w' ⟨rfl, rfl⟩; rw [HN.out])
         go_round
         case rel => exact ⟨k + 1, hlt, by go_num, by rw [HT.out, HPt.out]⟩
         case measure => simp [intOf]; omega
       · by_cases h2 : ps[k] = [46, 46]
         · have HPt : Hid (partB ps[k] = true) := qhZ (by rw [h2]; decide)
           rw [h2] at hcell
           have hcell' : w1.cell? ⟨g, off + k, none⟩ = some (.string ⟨#[46, 46]⟩) := hcell
           have HN : Hid (nameB (ByteArray.mk #[46, 46]).data.toList = false) := qhZ (by decide)
           clear hcell hn hn' h1 h2 hsz
           go_wp2_with (go_at_call 77; refine (l2Name_any _ _ (by decide)).mono ?_; rintro e w' ⟨rfl, rfl⟩; rw [HN.out])
           go_round
           case rel => exact ⟨k + 1, hlt, by go_num, by rw [HT.out, HPt.out]⟩
           case measure => simp [intOf]; omega
         · have HPt := qhZ (part_else hn' h1 h2)
           have HN : Hid (nameB (bs ps[k]).data.toList = false) := qhZ (by rw [aY9]; exact hn')
           have t1 := text_neq h1
           have t2 := text_neq h2
           obtain ⟨x, hx⟩ : ∃ x, x = bs ps[k] := ⟨_, rfl⟩
           rw [← hx] at hcell hsz t1 t2 HN
           clear hn hn' h1 h2 hx
           go_wp2_with (go_at_call 77; refine (l2Name_any _ _ hsz).mono ?_; rintro e w' ⟨rfl, rfl⟩; rw [HN.out])
           go_ret
           exact ⟨aK9 (by rw [HG2.out, HBd.out HPt.out, Bool.and_false]), hb1⟩
   · go_wp2_with (go_at_call 61; refine (l1In_any _ _ _ _).mono ?_; rintro e w' ⟨rfl, rfl⟩)
     go_ret
     refine ⟨aK9 ?_, hb1⟩
     have := HA.out
     rw [List.take_of_length_le (by omega)] at this
     rw [HG2.out, this, Bool.and_true]
end Go.Proofs.YtknhacblialboaaGreatDoor
namespace Go.Proofs.YtknhacblialboaaGreatDoor
open Go.RowKit Go.Shelf
set_option linter.unusedVariables false
set_option linter.unusedSimpArgs false
set_option maxHeartbeats 16000000
attribute [local go_sem] Oper.semAt_some
theorem partsIn_in (F : Fence) (n : Nat) (hf : F.fn 151) (hro : F.round = none) (s : ByteArray) (w : World) :
   CallsIn F n Tryz.prog 151 #[.string s] w fun e w' => e = .returned (.func (.func 173) #[] #[.pointer (some ⟨w.heap.size, 0, none⟩)]) ∧ w' = w.alloc (.cells #[.string s] 9) := by
 refine callsIn_of_wp Tryz.func151 rfl hf ?_ hro
 simp only [Tryz.ntmps151, List.size_toArray, List.length_cons, List.length_nil, Nat.reduceAdd, Nat.reduceSub, Array.replicate_succ, Array.replicate_zero, List.push_toArray, List.append_toArray, List.nil_append, List.cons_append]
 gi_wp2
 go_ret
 exact ⟨rfl, rfl⟩
set_option maxRecDepth 100000 in
theorem iter_in (F : Fence) (n : Nat) (hf : F.fn 173) (hro : F.round = none) (hn : 1 ≤ n) (l b : Nat) (s : ByteArray) (hs : s.size ≤ maxLen) (J Jx : List ByteArray → World → Prop) (W : World) (hJ : AbidesFrom W.heap.size J)
   (hY : ∀ pre x W1, J pre W1 → pre.length < (parts s.data.toList).length → YieldAt F (n - 1) Tryz.prog l #[.string x] W1 fun e W' =>
     (e = .returned (.bool true) ∧ J (pre ++ [x]) W' ∧ KpB b W1 W') ∨ (e = .returned (.bool false) ∧ Jx (pre ++ [x]) W'))
   (hB : W.cell? ⟨b, 0, none⟩ = some (.string s)) (h0 : J [] W) :
   CallsIn F n Tryz.prog 173 #[.func (.yield l) #[] #[], .pointer (some ⟨b, 0, none⟩)] W fun e W' => (∃ v, e = .returned v) ∧
     ((∃ ys, ys = (parts s.data.toList).map bs ∧ J ys W') ∨ (∃ pre, pre <+: (parts s.data.toList).map bs ∧ Jx pre W')) := by
 unfold maxLen at hs
 refine callsIn_of_wp Tryz.func173 rfl hf ?_ hro
 simp only [Tryz.ntmps173, List.size_toArray, List.length_cons, List.length_nil, Nat.reduceAdd, Nat.reduceSub, Array.replicate_succ, Array.replicate_zero, List.push_toArray, List.append_toArray, List.nil_append, List.cons_append]
 gi_wp2
 gi_loopw [3] (fun f wr => ∃ (pos frm : Nat), f = .int .i64 frm ∧ Cut s pos frm ∧ wr.heap[W.heap.size]? = some (.stringIter s pos) ∧ wr.cell? ⟨b, 0, none⟩ = some (.string s) ∧ J ((given s pos).map bs) wr)
   (fun _ wr => s.size - wr.iterPos W.heap.size)
 case atStart =>
   refine ⟨0, 0, rfl, Cut.start s, ?_, ?_, ?_⟩
   · exact World.iter_heap W s 0
   · exact (World.cell?_of_block (a := ⟨b, 0, none⟩) (Below.heap_alloc W _ b (World.block_lt_of_cell? W _ hB))).trans hB
   · rw [given_start]
     exact hJ [] W _ none h0 (World.grownBy_alloc W _ none) (fun r e => by cases e)
 case round =>
   obtain ⟨pos, frm, rfl, hC, hit, hcell, hj⟩ := hrel
   have HC := qhZ hC
   have htop := hC.top
   have hle := hC.le
   clear hC
   by_cases hp : pos < s.size
   · by_cases h47 : (Utf8.decode s pos).1 = 47
     · obtain ⟨hb47, hw1⟩ := slash_byte hp h47
       have hnx : ∀ ty, (Instr.next (.pointer (some ⟨W.heap.size, 0, none⟩)) true ty).run Tryz.prog wr = .ok (.tuple #[.bool true, .int .i64 pos, .int .i32 47]) (wr.iterAt W.heap.size s (pos + 1)) := by
         intro ty
         rw [Lib.run_next_any_at wr W.heap.size s pos ty hit hp, h47, hw1]
         rfl
       have hit2 := Lib.iterAt_heap wr W.heap.size s pos (pos + 1) hit
       have hcell2 := cell_iterAt hit hcell (pos + 1)
       have hj2 := abides_next hJ hj hit (Nat.le_refl _) (pos + 1)
       have HS := qhZ (HC.out.slash hp hb47).1
       have HM : Hid (wr.iterPos W.heap.size = pos) := qhZ (by simp [World.iterPos, hit])
       by_cases hlt : frm < pos
       · have HG := qhZ (HC.out.gives hp hb47 hlt)
         have hpre : (given s pos).length < (parts s.data.toList).length := len_of_prefix (by rw [← HG.out]; exact given_prefix s (pos + 1))
         have HX : Hid (s.extract frm pos = bs ((s.data.toList.take pos).drop frm)) := qhZ (bs_ext s frm pos)
         obtain ⟨fn, tmps, assign, body, hy, hR⟩ := hY ((given s pos).map bs) (s.extract frm pos) _ hj2 (by simpa using hpre)
         clear hb47 hw1 h47
         have HIT := qhZ hit2
         clear hit hit2
         gi_wp2
         refine hR.mono ?_
         rintro e W3 (⟨rfl, hJ3, hk3⟩ | ⟨rfl, hJx3⟩)
         · have hc3 : W3.cell? ⟨b, 0, none⟩ = some (.string s) := hk3.2.trans hcell2
           gi_wp2
           go_roundw
           case rel =>
             refine ⟨pos + 1, pos + 1, by go_num, HS.out, hk3.1.same _ _ HIT.out rfl, hc3, ?_⟩
             rw [HG.out, List.map_append, List.map_cons, List.map_nil, ← HX.out]
             exact hJ3
           case measure =>
             have : W3.iterPos W.heap.size = pos + 1 := by simp [World.iterPos, hk3.1.same _ _ HIT.out rfl]
             rw [HM.out, this]; omega
         · gi_wp2
           refine bodyPost_ret (results_none rfl _ _ _) rfl ?_
           refine ⟨⟨_, rfl⟩, .inr ⟨_, ?_, hJx3⟩⟩
           have := map_prefix (given_prefix s (pos + 1))
           rw [HG.out, List.map_append, List.map_cons, List.map_nil, ← HX.out] at this
           exact this
       · have HG := qhZ (HC.out.skips hp hb47 hlt)
         clear hb47 hw1 h47
         have HIT := qhZ hit2
         clear hit hit2
         gi_wp2
         refine ⟨fun _ h => (by cases h), ?_⟩
         gi_wp2
         go_roundw
         case rel => exact ⟨pos + 1, pos + 1, by go_num, HS.out, HIT.out, hcell2, by rw [HG.out]; exact hj2⟩
         case measure =>
           have : (wr.iterAt W.heap.size s (pos + 1)).iterPos W.heap.size = pos + 1 := by simp [World.iterPos, HIT.out]
           rw [HM.out, this]; omega
     · obtain ⟨HR, HG⟩ := HC.out.rune hp h47
       have hd := decode_bytes s pos hp
       have hdl := decode_le s pos
       obtain ⟨r, hr⟩ : ∃ r, r = (Utf8.decode s pos).1 := ⟨_, rfl⟩
       obtain ⟨wd, hwd⟩ : ∃ wd, wd = (Utf8.decode s pos).2 := ⟨_, rfl⟩
       have hnx : ∀ ty, (Instr.next (.pointer (some ⟨W.heap.size, 0, none⟩)) true ty).run Tryz.prog wr = .ok (.tuple #[.bool true, .int .i64 pos, .int .i32 (r : Int)]) (wr.iterAt W.heap.size s (pos + wd)) := by
         intro ty
         rw [hr, hwd]
         exact Lib.run_next_any_at wr W.heap.size s pos ty hit hp
       rw [← hr] at h47 hdl
       rw [← hwd] at HR HG hd
       have hne : ((r : Int) != 47) = true := by simp; omega
       have HR' := qhZ HR
       have HG' := qhZ HG
       obtain ⟨hd1, hd2, _⟩ := hd
       clear HR HG hr hwd
       have hit2 := Lib.iterAt_heap wr W.heap.size s pos (pos + wd) hit
       have hcell2 := cell_iterAt hit hcell (pos + wd)
       have hj2 := abides_next hJ hj hit (Nat.le_refl _) (pos + wd)
       have HM : Hid (wr.iterPos W.heap.size = pos) := qhZ (by simp [World.iterPos, hit])
       have HIT := qhZ hit2
       clear hit hit2
       gi_wp2
       go_roundw
       case rel => exact ⟨pos + wd, frm, rfl, HR'.out, HIT.out, hcell2, by rw [HG'.out]; exact hj2⟩
       case measure =>
         have : (wr.iterAt W.heap.size s (pos + wd)).iterPos W.heap.size = pos + wd := by simp [World.iterPos, HIT.out]
         rw [HM.out, this]; omega
   · obtain rfl : pos = s.size := by omega
     have hnx : ∀ ty, (Instr.next (.pointer (some ⟨W.heap.size, 0, none⟩)) true ty).run Tryz.prog wr = _ := fun ty => Lib.run_next_end_at wr W.heap.size s s.size ty hit hp
     clear hit
     by_cases hlt : frm < s.size
     · have HG := qhZ (HC.out.last hlt)
       have hpre : (given s s.size).length < (parts s.data.toList).length := by rw [HG.out]; simp
       have HX : Hid (s.extract frm s.size = bs ((s.data.toList.take s.size).drop frm)) := qhZ (bs_ext s frm s.size)
       obtain ⟨fn, tmps, assign, body, hy, hR⟩ := hY ((given s s.size).map bs) (s.extract frm s.size) _ hj (by simpa using hpre)
       gi_wp2
       refine hR.mono ?_
       rintro e W3 (⟨rfl, hJ3, hk3⟩ | ⟨rfl, hJx3⟩)
       · gi_wp2
         go_end0
         refine ⟨⟨_, rfl⟩, .inl ⟨_, rfl, ?_⟩⟩
         rw [HG.out, List.map_append, List.map_cons, List.map_nil, ← HX.out]
         exact hJ3
       · gi_wp2
         go_end0
         refine ⟨⟨_, rfl⟩, .inr ⟨_, ?_, hJx3⟩⟩
         rw [HG.out, List.map_append, List.map_cons, List.map_nil, ← HX.out]
         exact List.prefix_refl _
     · have HG := qhZ (HC.out.ended hlt)
       gi_wp2
       go_end0
       exact ⟨⟨_, rfl⟩, .inl ⟨_, rfl, by rw [HG.out]; exact hj⟩⟩
theorem iter_stops (F : Fence) (n : Nat) (hf : F.fn 173) (hro : F.round = none) (hn : 1 ≤ n) (b : Nat) (s : ByteArray) (hs : s.size ≤ maxLen) (w : World) (hb : b < w.heap.size) (hc : w.cell? ⟨b, 0, none⟩ = some (.string s)) :
   SeqStopsK F n Tryz.prog 173 #[.pointer (some ⟨b, 0, none⟩)] (fun x : ByteArray => #[Value.string x]) (KpB b) (fun ys => ys = (parts s.data.toList).map bs) (fun pre => pre <+: (parts s.data.toList).map bs) (parts s.data.toList).length w := fun l J Jx W hW hJ _ hY h0 =>
 iter_in F n hf hro hn l b s hs J Jx W hJ hY ((hW.cell (p := ⟨b, 0, none⟩) hb).trans hc) h0
end Go.Proofs.YtknhacblialboaaGreatDoor
namespace Go.Proofs.YtknhacblialboaaGreatDoor
open Go.RowKit Go.Shelf
set_option linter.unusedVariables false
set_option linter.unusedSimpArgs false
set_option maxHeartbeats 16000000
attribute [local go_sem] Oper.semAt_some
theorem boxed_below {W W' : World} {b : Nat} {t : TypeId} {v : Value} (h : Boxed W b t v) (hb : Below W.heap.size W W') : Boxed W' b t v := (hb.block b h.lt).trans h
theorem all_bs (ps : List (List UInt8)) : (ps.map bs).all (fun x => partB x.data.toList) = ps.all partB := by
 induction ps with
 | nil => rfl
 | cons p r ih => simp only [List.map_cons, List.all_cons, ih, aY9]
def formB (l : List UInt8) : Bool := !(l == []) && (parts l).all partB
theorem form_some {l : List UInt8} (h : l ≠ []) : formB l = (parts l).all partB := by simp [formB, h]
theorem form_bad {l : List UInt8} (h : (parts l).all partB = false) : formB l = false := by simp [formB, h]
theorem good_form (l : List UInt8) : goodB l = (decide (l.length ≤ 60) && formB l) := by
 by_cases h : l = []
 · subst h; rfl
 · have h1 : 1 ≤ l.length := List.length_pos_iff.2 h
   rw [form_some h]; unfold goodB; simp [h1]
theorem text_some {s : ByteArray} (h : s.data.toList ≠ []) : (s.toList.isEmpty) = false ∧ (!s.toList.isEmpty) = true ∧ s.toList ≠ [] ∧ (s.toList == []) = false := by
 rw [ByteArray.toList_eq]
 refine ⟨?_, ?_, h, ?_⟩ <;> cases hq : s.data.toList <;> simp_all
set_option maxRecDepth 100000 in
theorem hasPathForm_any (s : ByteArray) (w : World) (hs : s.size ≤ maxLen) : Calls Tryz.prog 171 #[.string s] w fun e w' => e = .returned (.bool (formB s.data.toList)) ∧ Below w.heap.size w w' := by
 have HS := qhZ hs
 unfold maxLen at hs
 refine (callsIn_wide (n := 6)).1 ?_
 refine callsIn_of_wp_marks Tryz.func171 rfl trivial ?_ rfl
 simp only [Tryz.ntmps171, List.size_toArray, List.length_cons, List.length_nil, Nat.reduceAdd, Nat.reduceSub, Array.replicate_succ, Array.replicate_zero, List.push_toArray, List.append_toArray, List.nil_append, List.cons_append]
 gi_wp2_with (refine ⟨trivial, ?_⟩; gi_at_call 151; refine (partsIn_in Fence.wide _ trivial rfl _ _).mono ?_; rintro e w' ⟨rfl, rfl⟩)
 have bR := Boxed.new w 4 (.bool false)
 have bS := Boxed.new (w.alloc (.cells #[.bool false] 4)) 9 (.string s)
 rw [World.size_alloc] at bS
 have hB0 : Below w.heap.size w ((w.alloc (.cells #[.bool false] 4)).alloc (.cells #[.string s] 9)) := ((Below.refl _ w).alloc (Nat.le_refl _) _).alloc (by simp) _
 refine wpIn_rangeFunc_ownF rfl (by omega) (gf := 173) (lb := #[.pointer (some ⟨w.heap.size + 1, 0, none⟩)]) rfl trivial (enters_of Tryz.func173 (by kernel_rfl) rfl)
   (iter_stops Fence.wide (6 - 1) trivial rfl (by omega) (w.heap.size + 1) s HS.out _ (by simp) bS.cell) kpB_t (kpB_b (by simp)) (Below.refl _ _) (fun _ => rfl)
   (fun pre W => ((pre.all fun x => partB x.data.toList) = true ∧ Boxed W w.heap.size 4 (.bool false) ∧ Boxed W (w.heap.size + 1) 9 (.string s)) ∧ Below w.heap.size w W)
   (fun c pre W => (c = .ret ∧ (pre.all fun x => partB x.data.toList) = false ∧ Boxed W w.heap.size 4 (.bool false)) ∧ Below w.heap.size w W)
   (OwnFrom.and (OwnFrom.and (ownFrom_pure _ _) (OwnFrom.and (Own.from (boxed_own _ _ _) _) (Own.from (boxed_own _ _ _) _))) (ownFrom_below (Nat.le_refl _) (by simp; omega)))
   (fun c => OwnFrom.and (OwnFrom.and (ownFrom_pure _ (fun _ => c = .ret)) (OwnFrom.and (ownFrom_pure _ _) (Own.from (boxed_own _ _ _) _))) (ownFrom_below (Nat.le_refl _) (by simp; omega)))
   ⟨⟨rfl, bR.alloc _, bS⟩, hB0⟩
   ?a1 ?assign ?body ?done ?stop
 case assign =>
   intro l x W K hK
   gi_wp2
   exact hK
 case body =>
   rintro l pre x W ⟨⟨hp, hbx, hbs⟩, hB⟩ _
   have HPr := qhZ hp
   clear hp
   by_cases hx : partB x.data.toList = true
   · have HX := qhZ hx
     clear hx
     gi_wp2_with (refine ⟨trivial, ?_⟩; gi_at_call 179; refine (CallsIn.inRound l (callsIn_wide.2 (isPart_any _ _))).mono ?_; rintro e w' ⟨rfl, hb⟩; rw [HX.out])
     exact ⟨others_below hb, kpB_below (others_below hb) hb hbs.lt, ⟨by rw [List.all_append, HPr.out]; simp [HX.out], boxed_below hbx hb, boxed_below hbs hb⟩, hB.trans (hb.mono hB.size)⟩
   · have HX := qhZ (show partB x.data.toList = false by simpa using hx)
     clear hx
     gi_wp2_with (refine ⟨trivial, ?_⟩; gi_at_call 179; refine (CallsIn.inRound l (callsIn_wide.2 (isPart_any _ _))).mono ?_; rintro e w' ⟨rfl, hb⟩; rw [HX.out]; have hbx2 := boxed_below hbx hb; have hc := hbx2.cell; have hf := hbx2.frozen)
     exact ⟨(others_below hb).trans (KeepsOthers.setCell _ _ _), ⟨rfl, by rw [List.all_append]; simp [HX.out], (boxed_below hbx hb).set _⟩, (hB.trans (hb.mono hB.size)).setCell (p := ⟨w.heap.size, 0, none⟩) (Nat.le_refl _) _⟩
 case done =>
   rintro D ys W hD rfl ⟨⟨hp, hbx, hbs⟩, hB⟩ hK
   have HPr := qhZ hp
   clear hp
   by_cases h0 : s.data.toList = []
   · have h1 : s = ⟨#[]⟩ := by rw [← bs_of s, h0]; rfl
     subst h1
     clear h0
     have hc := hbx.cell
     have hf := hbx.frozen
     gi_wp2
     have hK' := (KeepsOthers.setCell W ⟨w.heap.size, 0, none⟩ (.bool false)).same D _ hK rfl
     refine ⟨by simp, .inl ⟨_, _, rfl, run_takeDeferred hK', ?_⟩⟩
     have hc5 := cell_kept (hbx.set (.bool false)).cell (grownBy_putObj' _ D (.deferred none)) (fun r e => by cases e; exact ⟨_, hK', rfl⟩)
     refine ⟨.bool false, ?_, aK9 ?_, (hB.setCell (p := ⟨w.heap.size, 0, none⟩) (Nat.le_refl _) _).trans (belowK_b (w := w) (Nat.le_refl _) _ D _ _ (by simp at hD; omega) hK' rfl rfl)⟩
     · simp [results, Tryz.f171, go_sem, hc5]
     · rfl
   · obtain ⟨z1, z2, z3, z4⟩ := text_some h0
     have HF := qhZ (form_some h0)
     clear h0
     have hc := hbx.cell
     have hf := hbx.frozen
     gi_wp2
     have hK' := (KeepsOthers.setCell W ⟨w.heap.size, 0, none⟩ (.bool true)).same D _ hK rfl
     refine ⟨by simp, .inl ⟨_, _, rfl, run_takeDeferred hK', ?_⟩⟩
     have hc5 := cell_kept (hbx.set (.bool true)).cell (grownBy_putObj' _ D (.deferred none)) (fun r e => by cases e; exact ⟨_, hK', rfl⟩)
     refine ⟨.bool true, ?_, aK9 ?_, (hB.setCell (p := ⟨w.heap.size, 0, none⟩) (Nat.le_refl _) _).trans (belowK_b (w := w) (Nat.le_refl _) _ D _ _ (by simp at hD; omega) hK' rfl rfl)⟩
     · simp [results, Tryz.f171, go_sem, hc5]
     · rw [HF.out, ← all_bs, HPr.out]
 case stop =>
   rintro D c pre W hD hpre ⟨⟨rfl, hp, hbx⟩, hB⟩ hK
   have HPr := qhZ hp
   have HPx := qhZ hpre
   clear hp hpre
   gi_wp2
   refine ⟨by simp, .inl ⟨_, _, rfl, run_takeDeferred hK, ?_⟩⟩
   have hc5 := cell_kept hbx.cell (grownBy_putObj' _ D (.deferred none)) (fun r e => by cases e; exact ⟨_, hK, rfl⟩)
   refine ⟨.bool false, ?_, aK9 ?_, hB.trans (belowK_b (w := w) (Nat.le_refl _) W D _ _ (by simp at hD; omega) hK rfl rfl)⟩
   · simp [results, Tryz.f171, go_sem, hc5]
   · symm
     refine form_bad ?_
     rw [← all_bs]
     obtain ⟨t, ht⟩ := HPx.out
     rw [← ht, List.all_append, HPr.out, Bool.false_and]
theorem goodPath_any (s : ByteArray) (w : World) (hs : s.size ≤ maxLen) : Calls Tryz.prog 148 #[.string s] w fun e w' => e = .returned (.bool (goodB s.data.toList)) ∧ Below w.heap.size w w' := by
 have HS := qhZ hs
 have HG := qhZ (good_form s.data.toList)
 have hl : s.data.toList.length = s.size := aW9 s
 rw [hl] at HG
 unfold maxLen at hs
 by_cases h60 : s.size ≤ 60
 · have HV : Hid (goodB s.data.toList = formB s.data.toList) := qhZ (by rw [HG.out]; simp [h60])
   have h9 : (s.size : Int) ≤ 60 := by omega
   clear hl
   go_enter Tryz.func148, Tryz.ntmps148
   go_wp2_with fail
   refine (hasPathForm_any s _ HS.out).mono ?_
   rintro e w1 ⟨rfl, hb1⟩
   go_wp2
   all_goals
     go_ret
     exact ⟨aK9 (by rw [HV.out]; try simp [*]), hb1⟩
 · have HV : Hid (goodB s.data.toList = false) := qhZ (by rw [HG.out]; simp [h60])
   have h9 : ¬ ((s.size : Int) ≤ 60) := by omega
   clear hl
   go_enter Tryz.func148, Tryz.ntmps148
   go_wp2
   go_ret
   exact ⟨aK9 HV.out.symm, Below.refl _ _⟩
end Go.Proofs.YtknhacblialboaaGreatDoor
namespace Go.Proofs.YtknhacblialboaaGreatDoor
open Go.ChangeShapes Go.WideShapes Go.ChangeAt Go.RowKit Go.Joins
set_option linter.unusedVariables false
set_option linter.unusedSimpArgs false
set_option maxHeartbeats 16000000
def wgB (l : List UInt8) : Bool := wholeB l && goodB l
theorem whole_at {s : ByteArray} (h : 0 < s.size) : wholeB s.data.toList = decide ((s[0]'h) = 47) := by
 have hl := aW9 s
 unfold wholeB
 have : s.data.toList.head? = some (s[0]'h) := by
   rw [List.head?_eq_getElem?, List.getElem?_eq_getElem (by omega)]
   rfl
 rw [this, Bool.eq_iff_iff]
 simp
theorem l2Whole_any (s : ByteArray) (w : World) (hs : s.size ≤ 1073741824) : Calls Tryz.prog 102 #[.string s] w fun e w' => e = .returned (.bool (wgB s.data.toList)) ∧ Below w.heap.size w w' := by
 by_cases hg : goodB s.data.toList = true
 · have HG := qhZ hg
   have h0 : 0 < s.size := by simp [goodB] at hg; omega
   have HWA := qhZ (whole_at h0)
   by_cases hw : (s[0]'h0) = 47
   · have hw' : ((s[0]'h0).toNat : Int) = 47 := by rw [hw]; rfl
     have HE : Hid (wgB s.data.toList = true) := qhZ (by simp [wgB, hg, HWA.out, hw])
     clear hg hw
     go_enter Tryz.func102, Tryz.ntmps102
     go_wp2_with fail
     refine (l2Path_any _ _ hs).mono ?_
     rintro e w1 ⟨rfl, hb⟩
     rw [HG.out]
     go_wp2
     go_ret
     exact ⟨aK9 HE.out.symm, hb⟩
   · have hw' : (((s[0]'h0).toNat : Int) == 47) = false := by simpa using not47 hw
     have HE : Hid (wgB s.data.toList = false) := qhZ (by simp [wgB, HWA.out, hw])
     clear hg hw
     go_enter Tryz.func102, Tryz.ntmps102
     go_wp2_with fail
     refine (l2Path_any _ _ hs).mono ?_
     rintro e w1 ⟨rfl, hb⟩
     rw [HG.out]
     go_wp2
     go_ret
     exact ⟨aK9 HE.out.symm, hb⟩
 · have HG := qhZ (show goodB s.data.toList = false by simpa using hg)
   have HE : Hid (wgB s.data.toList = false) := qhZ (by simp [wgB, HG.out])
   clear hg
   go_enter Tryz.func102, Tryz.ntmps102
   go_wp2_with fail
   refine (l2Path_any _ _ hs).mono ?_
   rintro e w1 ⟨rfl, hb⟩
   rw [HG.out]
   go_wp2
   go_ret
   exact ⟨aK9 HE.out.symm, hb⟩
def kindAt (ns : List Nod) (i : Int) : Int := (ns.getD i.toNat ⟨0, 0, 0, 0, 0, [], []⟩).kind
def entOk (ns : List Nod) (es : List Ent) (k : Nat) : Bool :=
 nameB (es.getD k ⟨[], 0⟩).name && (k == 0 || Op.bytesLess (es.getD (k - 1) ⟨[], 0⟩).name (es.getD k ⟨[], 0⟩).name) && inB 1 ((ns.length : Int) - 1) (es.getD k ⟨[], 0⟩).node && !(kindAt ns (es.getD k ⟨[], 0⟩).node == 0)
def entsOk (ns : List Nod) (es : List Ent) : Bool := (List.range es.length).all (entOk ns es)
theorem bsl (l : List UInt8) : (bs l).toList = l := by rw [ByteArray.toList_eq]; simp [bs]
theorem entsOk_no {ns : List Nod} {es : List Ent} {k : Nat} (hk : k < es.length) (h : entOk ns es k = false) : entsOk ns es = false := by
 unfold entsOk
 rw [List.all_eq_false]
 exact ⟨k, List.mem_range.2 hk, by rw [h]; simp⟩
theorem entsOk_yes {ns : List Nod} {es : List Ent} (h : ∀ k, k < es.length → entOk ns es k = true) : entsOk ns es = true := by
 unfold entsOk
 rw [List.all_eq_true]
 exact fun k hk => h k (List.mem_range.1 hk)
theorem l1In_is {n lo hi : Int} {b : Bool} (h : inB lo hi n = b) (w : World) : Calls Tryz.prog 61 #[.int .i64 n, .int .i64 lo, .int .i64 hi] w fun e w' => e = .returned (.bool b) ∧ Below w.heap.size w w' :=
 (l1In_any n lo hi w).mono fun e w' ⟨h1, h2⟩ => ⟨by rw [h1, h], by rw [← h2]; exact Below.refl _ _⟩
theorem l2Name_is {l : List UInt8} {b : Bool} (h : nameB l = b) (hl : l.length ≤ maxLen) (s : ByteArray) (hs : s = bs l) (w : World) : Calls Tryz.prog 77 #[.string s] w fun e w' => e = .returned (.bool b) ∧ Below w.heap.size w w' :=
 (l2Name_any s w (by rw [hs, bs_size]; exact hl)).mono fun e w' ⟨h1, h2⟩ => ⟨by rw [h1, hs, ← h]; simp [bs], by rw [← h2]; exact Below.refl _ _⟩
theorem l3Entries_any (f : FsD) (es : List Ent) (v lv : Value) (w : World) (hR : FsA w v f) (hE0 : EntsA w lv es) (hs : f.nodes.length ≤ 1048576) (hs2 : es.length ≤ 1048576) : Calls Tryz.prog 165 #[v, lv] w fun e w' => e = .returned (.bool (entsOk f.nodes es)) ∧ Below w.heap.size w w' := by
 obtain ⟨nv, rfl, hN⟩ := hR
 obtain ⟨o, c, rfl, hm, hH⟩ := hN
 have HH := qhZ hH
 obtain ⟨o2, c2, rfl, -, hE⟩ := hE0
 have HE := qhZ hE
 clear hH hE
 unfold maxLen at hm
 have hbw : Below w.heap.size w (w.alloc (.cells #[.slice o f.nodes.length c, .int .i64 f.room] 30)) := (Below.refl _ _).alloc (Nat.le_refl _) _
 have hk0 := heap_alloc_new w (.cells #[.slice o f.nodes.length c, .int .i64 f.room] 30)
 go_enter Tryz.func165, Tryz.ntmps165
 go_wp2
 go_loopw [9] (fun i wr => ∃ k : Nat, k ≤ es.length ∧ i = .int .i64 k ∧ Below w.heap.size w wr ∧ wr.heap[w.heap.size]? = some (.cells #[.slice o f.nodes.length c, .int .i64 f.room] 30) ∧ ∀ j, j < k → entOk f.nodes es j = true) (fun i _ => es.length - (intOf i).toNat)
 case atStart => exact ⟨0, Nat.zero_le _, rfl, hbw, hk0, fun j h => absurd h (Nat.not_lt_zero _)⟩
 case round =>
   obtain ⟨k, hk, rfl, hB, hb, hj⟩ := hrel
   have HJ := qhZ hj
   clear hj hbw hk0
   by_cases hlt : k < es.length
   · obtain ⟨g2, f2, rfl, q2, x2, y2, hn⟩ := HE.out k hlt
     have HK : Hid (es.getD k ⟨[], 0⟩ = es[k]) := qhZ (by simp [List.getD, hlt])
     have a1 := (hB.cell (p := ⟨g2, f2 + k * 2, none⟩) q2).trans x2
     have a2 := (hB.cell (p := ⟨g2, f2 + k * 2 + 1, none⟩) q2).trans y2
     obtain ⟨z, hzz⟩ : ∃ z, z = es[k] := ⟨_, rfl⟩
     rw [← hzz] at a1 a2 HK hn
     obtain ⟨y, hyy⟩ : ∃ y, y = bs z.name := ⟨_, rfl⟩
     have HY := qhZ hyy
     rw [← hyy] at a1
     obtain ⟨r, hr⟩ : ∃ r, r = z.node := ⟨_, rfl⟩
     have HR := qhZ hr
     rw [← hr] at a2
     have HNL := qhZ hn
     have HB1 : Hid (∀ oo, Below w.heap.size w (wr.alloc oo)) := qhZ (fun oo => hB.alloc hB.size oo)
     have HW : Hid (∀ oo, (wr.alloc oo).heap[w.heap.size]? = some (.cells #[.slice o f.nodes.length c, .int .i64 f.room] 30)) := qhZ (fun oo => (Below.heap_alloc _ _ _ (aB9 hb)).trans hb)
     have e0 := aA9 (heap_alloc_new wr (.cells #[.string y, .int .i64 r] 126)) 0
     have e1 := aA9 (heap_alloc_new wr (.cells #[.string y, .int .i64 r] 126)) 1
     have s0 := aA9 (HW.out (.cells #[.string y, .int .i64 r] 126)) 0
     clear x2 y2 hzz hyy hr hn
     go_wp2
     have HB2 := qhZ (HB1.out (.cells #[.string y, .int .i64 r] 126))
     have HW2 := qhZ (HW.out (.cells #[.string y, .int .i64 r] 126))
     obtain ⟨W2, hW2⟩ : ∃ W2, wr.alloc (.cells #[.string y, .int .i64 r] 126) = W2 := ⟨_, rfl⟩
     rw [hW2] at e0 e1 s0 HB2 HW2 ⊢
     have e0' := e0.trans rfl
     have e1' := e1.trans rfl
     have s0' := s0.trans rfl
     clear hW2 HW HB1 e0 e1 s0
     have z0 := fun d os => cell_regrown (w := W2) e0' d os
     have z1 := fun d os => cell_regrown (w := W2) e1' d os
     have z2 := fun d os => cell_regrown (w := W2) s0' d os
     by_cases hna : nameB z.name = true
     · have HA := qhZ hna
       clear hna
       rcases Nat.eq_zero_or_pos k with rfl | hpos
       · skip
         by_cases hc : inB 1 ((f.nodes.length : Int) - 1) r = true
         · have HC := qhZ hc
           obtain ⟨r1, r2⟩ := inB_t hc
           obtain ⟨m, rfl⟩ : ∃ m : Nat, r = m := ⟨r.toNat, by omega⟩
           have hml : m < f.nodes.length := by omega
           obtain ⟨g, off, nl, rfl, hg, hcc, -, -⟩ := HH.out m hml
           have d0 := (HB2.out.cell (p := ⟨g, off + m * 7, none⟩) hg).trans hcc.c0
           obtain ⟨kd, hkd⟩ : ∃ kd, kd = f.nodes[m].kind := ⟨_, rfl⟩
           rw [← hkd] at d0
           have HKD : Hid (kindAt f.nodes (m : Int) = kd) := qhZ (by rw [hkd]; simp [kindAt, List.getD, hml])
           have z3 := fun d os => cell_regrown (w := W2) d0 d os
           clear hcc hkd hc
           by_cases hz : kd = 0
           · have HF : Hid (entsOk f.nodes es = false) := qhZ (entsOk_no hlt (by unfold entOk; rw [HK.out, HA.out, ← HR.out, HKD.out, hz]; simp))
             subst hz
             refine wp_region_quiet_below (by kernel_rfl) (by kernel_rfl) ?_
             repeat (first | go_big_quiet_step ((first | (go_at_call 77; exact Calls.regrown_of (l2Name_is HA.out HNL.out _ HY.out _)) | (go_at_call 61; exact Calls.regrown_of (l1In_is HC.out _)))) | quiet_step ((first | (go_at_call 77; exact Calls.regrown_of (l2Name_is HA.out HNL.out _ HY.out _)) | (go_at_call 61; exact Calls.regrown_of (l1In_is HC.out _)))))
             refine wpQuiet_nil ?_
             intro w5 hwq
             have hb5 : Below W2.heap.size W2 w5 := by
               obtain ⟨pp, rfl⟩ := hwq
               exact below_regrown _ _ _
             have HB5 := qhZ (HB2.out.trans (hb5.mono HB2.out.size))
             have HW5 := qhZ ((hb5.block w.heap.size (aB9 HW2.out)).trans HW2.out)
             clear hwq hb5
             go_wp2
             go_ret
             exact ⟨aK9 HF.out.symm, HB5.out⟩
           · have HO : Hid (entOk f.nodes es (0) = true) := qhZ (by unfold entOk; rw [HK.out, HA.out, ← HR.out, HKD.out, HC.out]; simp [hz])
             have HJ2 : Hid (∀ i, i < 0 + 1 → entOk f.nodes es i = true) := qhZ (by
               intro i h
               rcases Nat.lt_succ_iff_lt_or_eq.1 h with h1 | rfl
               · exact HJ.out i h1
               · exact HO.out)
             refine wp_region_quiet_below (by kernel_rfl) (by kernel_rfl) ?_
             repeat (first | go_big_quiet_step ((first | (go_at_call 77; exact Calls.regrown_of (l2Name_is HA.out HNL.out _ HY.out _)) | (go_at_call 61; exact Calls.regrown_of (l1In_is HC.out _)))) | quiet_step ((first | (go_at_call 77; exact Calls.regrown_of (l2Name_is HA.out HNL.out _ HY.out _)) | (go_at_call 61; exact Calls.regrown_of (l1In_is HC.out _)))))
             refine wpQuiet_nil ?_
             intro w5 hwq
             have hb5 : Below W2.heap.size W2 w5 := by
               obtain ⟨pp, rfl⟩ := hwq
               exact below_regrown _ _ _
             have HB5 := qhZ (HB2.out.trans (hb5.mono HB2.out.size))
             have HW5 := qhZ ((hb5.block w.heap.size (aB9 HW2.out)).trans HW2.out)
             clear hwq hb5
             go_wp2
             go_roundw
             case rel => exact ⟨_, hlt, by go_num, HB5.out, HW5.out, HJ2.out⟩
             case measure => simp [intOf]; omega
         · have HC : Hid (inB 1 ((f.nodes.length : Int) - 1) r = false) := qhZ (by simpa using hc)
           have HF : Hid (entsOk f.nodes es = false) := qhZ (entsOk_no hlt (by unfold entOk; rw [HK.out, HA.out, ← HR.out, HC.out]; simp))
           clear hc
           refine wp_region_quiet_below (by kernel_rfl) (by kernel_rfl) ?_
           repeat (first | go_big_quiet_step ((first | (go_at_call 77; exact Calls.regrown_of (l2Name_is HA.out HNL.out _ HY.out _)) | (go_at_call 61; exact Calls.regrown_of (l1In_is HC.out _)))) | quiet_step ((first | (go_at_call 77; exact Calls.regrown_of (l2Name_is HA.out HNL.out _ HY.out _)) | (go_at_call 61; exact Calls.regrown_of (l1In_is HC.out _)))))
           refine wpQuiet_nil ?_
           intro w5 hwq
           have hb5 : Below W2.heap.size W2 w5 := by
             obtain ⟨pp, rfl⟩ := hwq
             exact below_regrown _ _ _
           have HB5 := qhZ (HB2.out.trans (hb5.mono HB2.out.size))
           have HW5 := qhZ ((hb5.block w.heap.size (aB9 HW2.out)).trans HW2.out)
           clear hwq hb5
           go_wp2
           go_ret
           exact ⟨aK9 HF.out.symm, HB5.out⟩
       · obtain ⟨j, rfl⟩ : ∃ j, k = j + 1 := ⟨k - 1, by omega⟩
         obtain ⟨g3, f3, e3, -, x3, -, -⟩ := HE.out j (by omega)
         obtain ⟨rfl, rfl⟩ : g2 = g3 ∧ f2 = f3 := by simpa using e3
         have p0 := (HB2.out.cell (p := ⟨g2, f2 + j * 2, none⟩) q2).trans x3
         obtain ⟨x, hx⟩ : ∃ x, x = bs es[j].name := ⟨_, rfl⟩
         rw [← hx] at p0
         have z4 := fun d os => cell_regrown (w := W2) p0 d os
         have HLT : Hid (Op.bytesLess (es.getD (j + 1 - 1) ⟨[], 0⟩).name z.name = Op.bytesLess x.toList y.toList) := qhZ (by
           have h1 : es.getD (j + 1 - 1) ⟨[], 0⟩ = es[j] := by simp [List.getD, show j < es.length by omega]
           rw [h1, hx, HY.out, bsl, bsl])
         clear x3 hx e3
         by_cases hl : Op.bytesLess x.toList y.toList = true
         · have HL : Hid (Op.bytesLess (es.getD (j + 1 - 1) ⟨[], 0⟩).name z.name = true) := qhZ (HLT.out.trans hl)
           by_cases hc : inB 1 ((f.nodes.length : Int) - 1) r = true
           · have HC := qhZ hc
             obtain ⟨r1, r2⟩ := inB_t hc
             obtain ⟨m, rfl⟩ : ∃ m : Nat, r = m := ⟨r.toNat, by omega⟩
             have hml : m < f.nodes.length := by omega
             obtain ⟨g, off, nl, rfl, hg, hcc, -, -⟩ := HH.out m hml
             have d0 := (HB2.out.cell (p := ⟨g, off + m * 7, none⟩) hg).trans hcc.c0
             obtain ⟨kd, hkd⟩ : ∃ kd, kd = f.nodes[m].kind := ⟨_, rfl⟩
             rw [← hkd] at d0
             have HKD : Hid (kindAt f.nodes (m : Int) = kd) := qhZ (by rw [hkd]; simp [kindAt, List.getD, hml])
             have z3 := fun d os => cell_regrown (w := W2) d0 d os
             clear hcc hkd hc
             by_cases hz : kd = 0
             · have HF : Hid (entsOk f.nodes es = false) := qhZ (entsOk_no hlt (by unfold entOk; rw [HK.out, HA.out, ← HR.out, HL.out, HKD.out, hz]; simp))
               subst hz
               refine wp_region_quiet_below (by kernel_rfl) (by kernel_rfl) ?_
               repeat (first | go_big_quiet_step ((first | (go_at_call 77; exact Calls.regrown_of (l2Name_is HA.out HNL.out _ HY.out _)) | (go_at_call 61; exact Calls.regrown_of (l1In_is HC.out _)))) | quiet_step ((first | (go_at_call 77; exact Calls.regrown_of (l2Name_is HA.out HNL.out _ HY.out _)) | (go_at_call 61; exact Calls.regrown_of (l1In_is HC.out _)))))
               refine wpQuiet_nil ?_
               intro w5 hwq
               have hb5 : Below W2.heap.size W2 w5 := by
                 obtain ⟨pp, rfl⟩ := hwq
                 exact below_regrown _ _ _
               have HB5 := qhZ (HB2.out.trans (hb5.mono HB2.out.size))
               have HW5 := qhZ ((hb5.block w.heap.size (aB9 HW2.out)).trans HW2.out)
               clear hwq hb5
               go_wp2
               go_ret
               exact ⟨aK9 HF.out.symm, HB5.out⟩
             · have HO : Hid (entOk f.nodes es (j + 1) = true) := qhZ (by unfold entOk; rw [HK.out, HA.out, ← HR.out, HL.out, HKD.out, HC.out]; simp [hz])
               have HJ2 : Hid (∀ i, i < j + 1 + 1 → entOk f.nodes es i = true) := qhZ (by
                 intro i h
                 rcases Nat.lt_succ_iff_lt_or_eq.1 h with h1 | rfl
                 · exact HJ.out i h1
                 · exact HO.out)
               refine wp_region_quiet_below (by kernel_rfl) (by kernel_rfl) ?_
               repeat (first | go_big_quiet_step ((first | (go_at_call 77; exact Calls.regrown_of (l2Name_is HA.out HNL.out _ HY.out _)) | (go_at_call 61; exact Calls.regrown_of (l1In_is HC.out _)))) | quiet_step ((first | (go_at_call 77; exact Calls.regrown_of (l2Name_is HA.out HNL.out _ HY.out _)) | (go_at_call 61; exact Calls.regrown_of (l1In_is HC.out _)))))
               refine wpQuiet_nil ?_
               intro w5 hwq
               have hb5 : Below W2.heap.size W2 w5 := by
                 obtain ⟨pp, rfl⟩ := hwq
                 exact below_regrown _ _ _
               have HB5 := qhZ (HB2.out.trans (hb5.mono HB2.out.size))
               have HW5 := qhZ ((hb5.block w.heap.size (aB9 HW2.out)).trans HW2.out)
               clear hwq hb5
               go_wp2
               go_roundw
               case rel => exact ⟨_, hlt, by go_num, HB5.out, HW5.out, HJ2.out⟩
               case measure => simp [intOf]; omega
           · have HC : Hid (inB 1 ((f.nodes.length : Int) - 1) r = false) := qhZ (by simpa using hc)
             have HF : Hid (entsOk f.nodes es = false) := qhZ (entsOk_no hlt (by unfold entOk; rw [HK.out, HA.out, ← HR.out, HL.out, HC.out]; simp))
             clear hc
             refine wp_region_quiet_below (by kernel_rfl) (by kernel_rfl) ?_
             repeat (first | go_big_quiet_step ((first | (go_at_call 77; exact Calls.regrown_of (l2Name_is HA.out HNL.out _ HY.out _)) | (go_at_call 61; exact Calls.regrown_of (l1In_is HC.out _)))) | quiet_step ((first | (go_at_call 77; exact Calls.regrown_of (l2Name_is HA.out HNL.out _ HY.out _)) | (go_at_call 61; exact Calls.regrown_of (l1In_is HC.out _)))))
             refine wpQuiet_nil ?_
             intro w5 hwq
             have hb5 : Below W2.heap.size W2 w5 := by
               obtain ⟨pp, rfl⟩ := hwq
               exact below_regrown _ _ _
             have HB5 := qhZ (HB2.out.trans (hb5.mono HB2.out.size))
             have HW5 := qhZ ((hb5.block w.heap.size (aB9 HW2.out)).trans HW2.out)
             clear hwq hb5
             go_wp2
             go_ret
             exact ⟨aK9 HF.out.symm, HB5.out⟩
         · have hl2 : Op.bytesLess x.toList y.toList = false := by simpa using hl
           have HF : Hid (entsOk f.nodes es = false) := qhZ (entsOk_no hlt (by unfold entOk; rw [HK.out, HLT.out, hl2]; simp))
           clear hl
           refine wp_region_quiet_below (by kernel_rfl) (by kernel_rfl) ?_
           repeat (first | go_big_quiet_step ((go_at_call 77; exact Calls.regrown_of (l2Name_is HA.out HNL.out _ HY.out _))) | quiet_step ((go_at_call 77; exact Calls.regrown_of (l2Name_is HA.out HNL.out _ HY.out _))))
           refine wpQuiet_nil ?_
           intro w5 hwq
           have hb5 : Below W2.heap.size W2 w5 := by
             obtain ⟨pp, rfl⟩ := hwq
             exact below_regrown _ _ _
           have HB5 := qhZ (HB2.out.trans (hb5.mono HB2.out.size))
           have HW5 := qhZ ((hb5.block w.heap.size (aB9 HW2.out)).trans HW2.out)
           clear hwq hb5
           go_wp2
           go_ret
           exact ⟨aK9 HF.out.symm, HB5.out⟩
     · have HA : Hid (nameB z.name = false) := qhZ (by simpa using hna)
       have HF : Hid (entsOk f.nodes es = false) := qhZ (entsOk_no hlt (by unfold entOk; rw [HK.out, HA.out]; simp))
       clear hna
       refine wp_region_quiet_below (by kernel_rfl) (by kernel_rfl) ?_
       repeat (first | go_big_quiet_step ((go_at_call 77; exact Calls.regrown_of (l2Name_is HA.out HNL.out _ HY.out _))) | quiet_step ((go_at_call 77; exact Calls.regrown_of (l2Name_is HA.out HNL.out _ HY.out _))))
       refine wpQuiet_nil ?_
       intro w5 hwq
       have hb5 : Below W2.heap.size W2 w5 := by
         obtain ⟨pp, rfl⟩ := hwq
         exact below_regrown _ _ _
       have HB5 := qhZ (HB2.out.trans (hb5.mono HB2.out.size))
       have HW5 := qhZ ((hb5.block w.heap.size (aB9 HW2.out)).trans HW2.out)
       clear hwq hb5
       go_wp2
       go_ret
       exact ⟨aK9 HF.out.symm, HB5.out⟩
   · go_wp2
     go_ret
     exact ⟨aK9 (entsOk_yes fun j h => HJ.out j (by omega)).symm, hB⟩
end Go.Proofs.YtknhacblialboaaGreatDoor
