/-
  Joined: BinM CmpC BinC LookH LookI SrcB InoE.
  Conditions: as each states.
-/
import Derived.Lib.Bytealg
import Derived.Lib.Hide
import Derived.Test.YtknhacblialboaaGreatDoorLib1
import Derived.Test.YtknhacblialboaaGreatDoorLib6
import Derived.Test.YtknhacblialboaaGreatDoorLib7
import Derived.Test.YtknhacblialboaaGreatDoorLib10
import Derived.Test.YtknhacblialboaaGreatDoorLib11
namespace Go.Proofs.YtknhacblialboaaGreatDoor
open Go.RowKit
set_option linter.unusedVariables false
set_option linter.unusedSimpArgs false
set_option maxHeartbeats 16000000
theorem less_trans : ∀ {a b c : List UInt8}, Op.bytesLess a b = true → Op.bytesLess b c = true → Op.bytesLess a c = true
 | _, _, [], _, h => by rw [Op.bytesLess] at h; cases h
 | [], _, z :: zs, _, _ => by simp [Op.bytesLess]
 | x :: xs, [], z :: zs, h, _ => by simp [Op.bytesLess] at h
 | x :: xs, y :: ys, z :: zs, h, k => by
   simp only [Op.bytesLess, Bool.or_eq_true, Bool.and_eq_true, decide_eq_true_eq, beq_iff_eq] at h k ⊢
   rcases h with h | ⟨rfl, h⟩
   · rcases k with k | ⟨rfl, k⟩
     · exact .inl (UInt8.lt_trans h k)
     · exact .inl h
   · rcases k with k | ⟨rfl, k⟩
     · exact .inl k
     · exact .inr ⟨rfl, less_trans h k⟩
theorem less_irr : ∀ (a : List UInt8), Op.bytesLess a a = false
 | [] => by simp [Op.bytesLess]
 | x :: xs => by
   have := less_irr xs
   simp [Op.bytesLess, this]
theorem less_total : ∀ (a b : List UInt8), a ≠ b → Op.bytesLess a b = false → Op.bytesLess b a = true
 | [], [], h, _ => absurd rfl h
 | [], y :: ys, _, k => by simp [Op.bytesLess] at k
 | x :: xs, [], _, _ => by simp [Op.bytesLess]
 | x :: xs, y :: ys, h, k => by
   simp only [Op.bytesLess, Bool.or_eq_false_iff, Bool.and_eq_false_iff, decide_eq_false_iff_not, beq_eq_false_iff_ne] at k
   simp only [Op.bytesLess, Bool.or_eq_true, Bool.and_eq_true, decide_eq_true_eq, beq_iff_eq]
   by_cases e : x = y
   · subst e
     refine .inr ⟨rfl, less_total xs ys (fun e => h (by rw [e])) ?_⟩
     rcases k.2 with k | k
     · exact absurd rfl k
     · exact k
   · left
     have h1 : ¬ x.toNat < y.toNat := fun h => k.1 (UInt8.lt_iff_toNat_lt.2 h)
     have h2 : x.toNat ≠ y.toNat := fun h => e (UInt8.toNat_inj.1 h)
     exact UInt8.lt_iff_toNat_lt.2 (by omega)
theorem cmp_is : ∀ (a b : List UInt8), Lib.compareBytes a b = if Op.bytesLess a b = true then -1 else if a = b then 0 else 1
 | [], [] => rfl
 | [], y :: ys => rfl
 | x :: xs, [] => by simp [Lib.compareBytes, Op.bytesLess]
 | x :: xs, y :: ys => by
   rw [Lib.compareBytes]
   by_cases h : x < y
   · rw [if_pos h, if_pos (by simp [Op.bytesLess, h])]
   · rw [if_neg h]
     by_cases k : y < x
     · have hne : x ≠ y := fun e => by subst e; exact absurd k (UInt8.lt_irrefl _)
       rw [if_pos k, if_neg (by simp [Op.bytesLess, h, hne]), if_neg (fun e => hne (List.cons.inj e).1)]
     · have e : x = y := UInt8.toNat_inj.1 (by
         have h1 : ¬ x.toNat < y.toNat := fun z => h (UInt8.lt_iff_toNat_lt.2 z)
         have h2 : ¬ y.toNat < x.toNat := fun z => k (UInt8.lt_iff_toNat_lt.2 z)
         omega)
       subst e
       rw [if_neg k, cmp_is xs ys]
       have e1 : Op.bytesLess (x :: xs) (x :: ys) = Op.bytesLess xs ys := by simp [Op.bytesLess]
       have e2 : (x :: xs = x :: ys) ↔ (xs = ys) := by simp
       simp only [e1, e2]
def posE (es : List Ent) (p : List UInt8) : Nat := es.countP fun e => Op.bytesLess e.name p
def isE (es : List Ent) (p : List UInt8) : Bool := decide (posE es p < es.length) && decide ((es.getD (posE es p) ent0).name = p)
def Rise (es : List Ent) : Prop := es.Pairwise fun a b => Op.bytesLess a.name b.name = true
theorem posE_le (es : List Ent) (p : List UInt8) : posE es p ≤ es.length := List.countP_le_length
theorem posE_at : ∀ (es : List Ent) (p : List UInt8) (i : Nat), i ≤ es.length → (∀ t, t < i → Op.bytesLess (es.getD t ent0).name p = true) → (∀ t, i ≤ t → t < es.length → Op.bytesLess (es.getD t ent0).name p = false) → posE es p = i
 | [], p, i, hi, _, _ => by simp at hi; simp [posE, hi]
 | e :: es, p, 0, _, _, h2 => by
   unfold posE
   rw [List.countP_eq_zero]
   intro x hx
   obtain ⟨t, ht, rfl⟩ := List.getElem_of_mem hx
   have := h2 t (Nat.zero_le _) ht
   simp only [List.getD, List.getElem?_eq_getElem ht, Option.getD_some] at this
   simp [this]
 | e :: es, p, i + 1, hi, h1, h2 => by
   have ha : Op.bytesLess e.name p = true := by simpa using h1 0 (Nat.succ_pos _)
   have ih := posE_at es p i (by simpa using hi) (fun t ht => by simpa using h1 (t + 1) (by omega)) (fun t h3 h4 => by simpa using h2 (t + 1) (by omega) (by simpa using h4))
   unfold posE at ih ⊢
   rw [List.countP_cons_of_pos (p := fun e : Ent => Op.bytesLess e.name p) ha, ih]
theorem posE_none {es : List Ent} {p : List UInt8} (h : ∀ e ∈ es, Op.bytesLess e.name p = false) : posE es p = 0 := by
 unfold posE
 rw [List.countP_eq_zero]
 intro e he
 simp [h e he]
theorem rise_lt {es : List Ent} (h : Rise es) {a b : Nat} (hab : a < b) (hb : b < es.length) : Op.bytesLess (es.getD a ent0).name (es.getD b ent0).name = true := by
 have h1 := List.pairwise_iff_getElem.1 h a b (by omega) hb hab
 simpa [List.getD, hb, (show a < es.length by omega)] using h1
theorem rise_ahead {es : List Ent} (h : Rise es) {p : List UInt8} {m : Nat} (hm : m < es.length) (hl : Op.bytesLess (es.getD m ent0).name p = true) : ∀ t, t < m + 1 → Op.bytesLess (es.getD t ent0).name p = true := by
 intro t ht
 by_cases e : t = m
 · subst e; exact hl
 · exact less_trans (rise_lt h (show t < m by omega) hm) hl
theorem rise_behind {es : List Ent} (h : Rise es) {p : List UInt8} {m : Nat} (hl : Op.bytesLess (es.getD m ent0).name p = false) : ∀ t, m ≤ t → t < es.length → Op.bytesLess (es.getD t ent0).name p = false := by
 intro t ht hlt
 by_cases e : t = m
 · subst e; exact hl
 · rw [Bool.eq_false_iff]
   intro k
   have := less_trans (rise_lt h (show m < t by omega) hlt) k
   rw [hl] at this
   cases this
theorem atE_none {es : List Ent} {p : List UInt8} (h : ∀ e ∈ es, e.name ≠ p) : atE es p = -1 := by
 induction es with
 | nil => rfl
 | cons e es ih => rw [atE, if_neg (h e (by simp))]; exact ih fun x hx => h x (by simp [hx])
theorem atE_is : ∀ {es : List Ent}, Rise es → ∀ p, atE es p = if isE es p = true then (es.getD (posE es p) ent0).node else -1
 | [], _, p => by simp [atE, isE]
 | e :: es, h, p => by
   have hr : Rise es := (List.pairwise_cons.1 h).2
   have ha : ∀ x ∈ es, Op.bytesLess e.name x.name = true := (List.pairwise_cons.1 h).1
   rw [atE]
   by_cases he : e.name = p
   · have h0 : posE (e :: es) p = 0 := posE_none (by
       intro x hx
       rcases List.mem_cons.1 hx with rfl | hx
       · rw [he]; exact less_irr p
       · rw [Bool.eq_false_iff]
         intro k
         have := less_trans (ha x hx) k
         rw [he, less_irr] at this
         cases this)
     rw [if_pos he, isE, h0]
     simp [he]
   · rw [if_neg he]
     by_cases hl : Op.bytesLess e.name p = true
     · have h1 : posE (e :: es) p = posE es p + 1 := by unfold posE; rw [List.countP_cons_of_pos (p := fun e : Ent => Op.bytesLess e.name p) hl]
       rw [atE_is hr p]
       have h2 : isE (e :: es) p = isE es p := by unfold isE; rw [h1]; simp
       rw [h2, h1]
       simp
     · have hl' : Op.bytesLess e.name p = false := by simpa using hl
       have hp := less_total _ _ he hl'
       have h0 : posE (e :: es) p = 0 := posE_none (by
         intro x hx
         rcases List.mem_cons.1 hx with rfl | hx
         · exact hl'
         · rw [Bool.eq_false_iff]
           intro k
           have := less_trans (ha x hx) k
           rw [hl'] at this
           cases this)
       rw [atE_none (fun x hx e2 => by
         have := less_trans hp (ha x hx)
         rw [e2, less_irr] at this
         cases this), isE, h0]
       simp [he]
theorem rise_of {c : Int} {es : List Ent} (h : entsOkI c es = true) : Rise es := by
 unfold entsOkI at h
 rw [List.all_eq_true] at h
 have h1 : ∀ k, k + 1 < es.length → Op.bytesLess (es.getD k ent0).name (es.getD (k + 1) ent0).name = true := by
   intro k hk
   have h2 := h (k + 1) (by simpa using hk)
   unfold entOkI at h2
   simp only [Bool.and_eq_true, Bool.or_eq_true] at h2
   rcases h2.1.2 with h3 | h3
   · simp at h3
   · simpa [ent0] using h3
 have h2 : ∀ n a, a + n + 1 < es.length → Op.bytesLess (es.getD a ent0).name (es.getD (a + n + 1) ent0).name = true := by
   intro n
   induction n with
   | zero => intro a ha; exact h1 a ha
   | succ n ih => intro a ha; exact less_trans (ih a (by omega)) (h1 (a + n + 1) ha)
 refine List.pairwise_iff_getElem.2 fun a b ha hb hab => ?_
 have h3 := h2 (b - a - 1) a (by omega)
 rw [show a + (b - a - 1) + 1 = b by omega] at h3
 simpa [List.getD, ha, hb] using h3
theorem rise_node {ns : List Nod} (h : ∀ n ∈ ns, bP9 ns.length n = true) (i : Nat) : Rise (aC9 ns i).list := by
 by_cases hi : i < ns.length
 · have e : aC9 ns i = ns[i] := aR9 hi
   rw [e]
   by_cases hl : ns[i].list = []
   · rw [hl]; exact List.Pairwise.nil
   · exact rise_of (nodOkI_dir (h _ (List.getElem_mem hi)) hl).2
 · unfold aC9
   rw [show ns.getD i ⟨0, 0, 0, 0, 0, [], []⟩ = ⟨0, 0, 0, 0, 0, [], []⟩ by simp [List.getD, List.getElem?_eq_none (Nat.le_of_not_lt hi)]]
   exact List.Pairwise.nil
end Go.Proofs.YtknhacblialboaaGreatDoor
namespace Go.Proofs.YtknhacblialboaaGreatDoor
open Go.ChangeShapes Go.WideShapes Go.ChangeAt Go.RowKit Go.Joins
set_option linter.unusedVariables false
set_option linter.unusedSimpArgs false
set_option maxHeartbeats 16000000
set_option maxRecDepth 100000 in
theorem cmpString_any (a b : ByteArray) (w : World) : Calls Tryz.prog 176 #[.string a, .string b] w fun e w' => e = .returned (.int .i64 (Lib.compareBytes a.data.toList b.data.toList)) ∧ w = w' := by
 have hx := @run_callFunc_extern Tryz.prog 185 _ Extern.BytealgCompare.compare Tryz.func185 (by kernel_rfl) (by kernel_rfl) (by kernel_rfl) (by kernel_rfl)
 have hy := fun W => Lib.run_compareString (P := Tryz.prog) a b W
 go_enter Tryz.func176, Tryz.ntmps176
 go_wp2
 go_ret
 exact ⟨rfl, rfl⟩
theorem strings_Compare (a b : ByteArray) (w : World) : Calls Tryz.prog 158 #[.string a, .string b] w fun e w' => e = .returned (.int .i64 (Lib.compareBytes a.data.toList b.data.toList)) ∧ w = w' := by
 go_enter Tryz.func158, Tryz.ntmps158
 go_wp2_with fail
 refine (cmpString_any a b _).mono ?_
 rintro e w1 ⟨rfl, rfl⟩
 go_wp2
 go_ret
 exact ⟨rfl, rfl⟩
theorem byName_is {a : ByteArray} {n c : Int} {p : ByteArray} {w : World} (h : Lib.compareBytes a.data.toList p.data.toList = c) : Calls Tryz.prog 157 #[.agg #[.string a, .int .i64 n], .string p] w fun e w' => e = .returned (.int .i64 c) ∧ Below w.heap.size w w' := by
 have hb0 : Below w.heap.size w (w.alloc (.cells #[.string a, .int .i64 n] 126)) := (Below.refl _ _).alloc (Nat.le_refl _) _
 rw [← h]
 clear h
 go_enter Tryz.func157, Tryz.ntmps157
 go_wp2_with fail
 refine (strings_Compare a p _).mono ?_
 rintro e w1 ⟨rfl, rfl⟩
 go_wp2
 go_ret
 exact ⟨rfl, hb0⟩
theorem binSearch_any (es : List Ent) (v : Value) (p : ByteArray) (w : World) (hR : EntsA w v es) (hs : es.length ≤ 1048576) (hr : Rise es) :
   Calls Tryz.prog 156 #[v, .string p, .func (.func 157) #[] #[]] w fun e w' => e = .returned (.tuple #[.int .i64 (posE es p.data.toList : Nat), .bool (isE es p.data.toList)]) ∧ Below w.heap.size w w' := by
 obtain ⟨o, c, rfl, hm, hH⟩ := hR
 have HH := qhZ hH
 have HR := qhZ hr
 clear hH hr
 unfold maxLen at hm
 go_enter Tryz.func156, Tryz.ntmps156
 go_wp2
 go_loopw [9, 10] (fun i j wr => ∃ lo hi : Nat, i = .int .i64 lo ∧ j = .int .i64 hi ∧ lo ≤ hi ∧ hi ≤ es.length ∧ Hid ((∀ t, t < lo → Op.bytesLess (es.getD t ent0).name p.data.toList = true) ∧ (∀ t, hi ≤ t → t < es.length → Op.bytesLess (es.getD t ent0).name p.data.toList = false)) ∧ Below w.heap.size w wr) (fun i j _ => (intOf j).toNat - (intOf i).toNat)
 case atStart => exact ⟨0, es.length, rfl, rfl, Nat.zero_le _, Nat.le_refl _, qhZ ⟨fun t ht => absurd ht (Nat.not_lt_zero _), fun t h1 h2 => absurd h2 (by omega)⟩, Below.refl _ _⟩
 case round =>
   obtain ⟨lo, hi, rfl, rfl, h1, h2, hI, hB⟩ := hrel
   by_cases hlt : lo < hi
   · have hm2 : (lo + hi) / 2 < es.length := by omega
     obtain ⟨g, off, rfl, hg, x1, x2, -⟩ := HH.out ((lo + hi) / 2) hm2
     have d1 := (hB.cell (p := ⟨g, off + (lo + hi) / 2 * 2, none⟩) hg).trans x1
     have d2 := (hB.cell (p := ⟨g, off + (lo + hi) / 2 * 2 + 1, none⟩) hg).trans x2
     have HG : Hid (es.getD ((lo + hi) / 2) ent0 = es[(lo + hi) / 2]) := qhZ (by simp [List.getD, hm2])
     obtain ⟨q, hq⟩ : ∃ q, q = es[(lo + hi) / 2] := ⟨_, rfl⟩
     rw [← hq] at d1 d2 HG
     obtain ⟨cv, hcv⟩ : ∃ cv, Lib.compareBytes (bs q.name).data.toList p.data.toList = cv := ⟨_, rfl⟩
     have HCV := qhZ hcv
     have hcv2 : cv = if Op.bytesLess q.name p.data.toList = true then -1 else if q.name = p.data.toList then 0 else 1 := by rw [← hcv, aY9, cmp_is]
     obtain ⟨x, hx⟩ : ∃ x, x = bs q.name := ⟨_, rfl⟩
     rw [← hx] at d1 HCV
     clear hcv x1 x2 hq hx
     by_cases hy : Op.bytesLess q.name p.data.toList = true
     · have hneg : cv < 0 := by rw [hcv2, if_pos hy]; decide
       have hI2 : Hid ((∀ t, t < (lo + hi) / 2 + 1 → Op.bytesLess (es.getD t ent0).name p.data.toList = true) ∧ (∀ t, hi ≤ t → t < es.length → Op.bytesLess (es.getD t ent0).name p.data.toList = false)) := qhZ ⟨rise_ahead HR.out hm2 (by rw [HG.out]; exact hy), hI.out.2⟩
       clear hcv2 hy hI
       go_wp2_with fail
       refine (byName_is HCV.out).mono ?_
       rintro e w1 ⟨rfl, hb1⟩
       have HB1 := qhZ (hB.trans (hb1.mono hB.size))
       clear hb1 HCV d1 d2
       go_wp2
       go_roundw
       case rel => exact ⟨(lo + hi) / 2 + 1, hi, by rw [show ((lo : Int) + (hi : Int)) / 2 + 1 = (((lo + hi) / 2 + 1 : Nat) : Int) by omega], rfl, by omega, h2, hI2, HB1.out⟩
       case measure => simp [intOf]; omega
     · have hneg : ¬ cv < 0 := by rw [hcv2, if_neg hy]; split <;> decide
       have hI2 : Hid ((∀ t, t < lo → Op.bytesLess (es.getD t ent0).name p.data.toList = true) ∧ (∀ t, (lo + hi) / 2 ≤ t → t < es.length → Op.bytesLess (es.getD t ent0).name p.data.toList = false)) := qhZ ⟨hI.out.1, rise_behind HR.out (by rw [HG.out]; simpa using hy)⟩
       clear hcv2 hy hI
       go_wp2_with fail
       refine (byName_is HCV.out).mono ?_
       rintro e w1 ⟨rfl, hb1⟩
       have HB1 := qhZ (hB.trans (hb1.mono hB.size))
       clear hb1 HCV d1 d2
       go_wp2
       go_roundw
       case rel => exact ⟨lo, (lo + hi) / 2, rfl, by rw [show ((lo : Int) + (hi : Int)) / 2 = (((lo + hi) / 2 : Nat) : Int) by omega], by omega, by omega, hI2, HB1.out⟩
       case measure => simp [intOf]; omega
   · obtain rfl : hi = lo := by omega
     have HP : Hid (posE es p.data.toList = hi) := qhZ (posE_at es p.data.toList hi h2 hI.out.1 hI.out.2)
     clear hI
     by_cases hn : hi < es.length
     · obtain ⟨g, off, rfl, hg, x1, x2, -⟩ := HH.out hi hn
       have d1 := (hB.cell (p := ⟨g, off + hi * 2, none⟩) hg).trans x1
       have d2 := (hB.cell (p := ⟨g, off + hi * 2 + 1, none⟩) hg).trans x2
       have HG : Hid (es.getD hi ent0 = es[hi]) := qhZ (by simp [List.getD, hn])
       obtain ⟨q, hq⟩ : ∃ q, q = es[hi] := ⟨_, rfl⟩
       rw [← hq] at d1 d2 HG
       obtain ⟨cv, hcv⟩ : ∃ cv, Lib.compareBytes (bs q.name).data.toList p.data.toList = cv := ⟨_, rfl⟩
       have HCV := qhZ hcv
       have hcv2 : cv = if Op.bytesLess q.name p.data.toList = true then -1 else if q.name = p.data.toList then 0 else 1 := by rw [← hcv, aY9, cmp_is]
       obtain ⟨x, hx⟩ : ∃ x, x = bs q.name := ⟨_, rfl⟩
       rw [← hx] at d1 HCV
       clear hcv x1 x2 hq hx
       by_cases hy : q.name = p.data.toList
       · obtain rfl : cv = 0 := by rw [hcv2, hy, less_irr]; simp
         have HI : Hid (isE es p.data.toList = true) := qhZ (by unfold isE; rw [HP.out, HG.out]; simp [hn, hy])
         clear hcv2 hy
         go_wp2_with fail
         refine (byName_is HCV.out).mono ?_
         rintro e w1 ⟨rfl, hb1⟩
         have HB1 := qhZ (hB.trans (hb1.mono hB.size))
         clear hb1 HCV d1 d2
         go_wp2
         go_ret2
         exact ⟨tupIB (by rw [HP.out]) HI.out.symm, HB1.out⟩
       · have hz : cv ≠ 0 := by
           rw [hcv2, if_neg hy]
           split <;> decide
         have hzb : (cv == 0) = false := beq_eq_false_iff_ne.2 hz
         have HI : Hid (isE es p.data.toList = false) := qhZ (by unfold isE; rw [HP.out, HG.out]; simp [hy])
         clear hcv2 hy
         go_wp2_with fail
         refine (byName_is HCV.out).mono ?_
         rintro e w1 ⟨rfl, hb1⟩
         have HB1 := qhZ (hB.trans (hb1.mono hB.size))
         clear hb1 HCV d1 d2
         go_wp2
         go_ret2
         exact ⟨tupIB (by rw [HP.out]) HI.out.symm, HB1.out⟩
     · have HI : Hid (isE es p.data.toList = false) := qhZ (by unfold isE; rw [HP.out]; simp [hn])
       go_wp2
       go_ret2
       exact ⟨tupIB (by rw [HP.out]) HI.out.symm, hB⟩
theorem entryByName_any (q : Nod) (G b : Nat) (lv : Value) (p : ByteArray) (w : World) (hg : G < w.heap.size) (hc : NodC w G b lv q) (hE : EntsA w lv q.list) (hs : q.list.length ≤ 1048576) (hr : Rise q.list) :
   Calls Tryz.prog 122 #[.pointer (some ⟨G, b, none⟩), .string p] w fun e w' => e = .returned (.tuple #[.int .i64 (posE q.list p.data.toList : Nat), .bool (isE q.list p.data.toList)]) ∧ Below w.heap.size w w' := by
 have d6 := hc.c6
 have HE := qhZ hE
 have HR := qhZ hr
 clear hE hr hc
 go_enter Tryz.func122, Tryz.ntmps122
 go_wp2_with fail
 refine (binSearch_any q.list lv p _ HE.out hs HR.out).mono ?_
 rintro e w1 ⟨rfl, hb1⟩
 go_wp2
 go_ret2
 exact ⟨rfl, hb1⟩
def nbN (es : List Ent) (p : List UInt8) : Int := if isE es p = true then (es.getD (posE es p) ent0).node else 0
theorem nodeByName_any (q : Nod) (G b : Nat) (lv : Value) (p : ByteArray) (w : World) (hg : G < w.heap.size) (hc : NodC w G b lv q) (hE : EntsA w lv q.list) (hs : q.list.length ≤ 1048576) (hr : Rise q.list) :
   Calls Tryz.prog 128 #[.pointer (some ⟨G, b, none⟩), .string p] w fun e w' => e = .returned (.tuple #[.int .i64 (nbN q.list p.data.toList), .bool (isE q.list p.data.toList)]) ∧ Below w.heap.size w w' := by
 have HC := qhZ hc
 have HE := qhZ hE
 have HR := qhZ hr
 obtain ⟨o, c, rfl, hm, hH⟩ := hE
 unfold maxLen at hm
 have HH := qhZ hH
 clear hr hc hH
 by_cases hi : isE q.list p.data.toList = true
 · have HI := qhZ hi
   have hlt : posE q.list p.data.toList < q.list.length := by unfold isE at hi; simp at hi; exact hi.1
   obtain ⟨g2, off, rfl, hg2, x1, x2, -⟩ := HH.out _ hlt
   have HN : Hid (nbN q.list p.data.toList = q.list[posE q.list p.data.toList].node) := qhZ (by unfold nbN; rw [if_pos hi]; simp [List.getD, hlt])
   obtain ⟨k, hk⟩ : ∃ k, posE q.list p.data.toList = k := ⟨_, rfl⟩
   have HK := qhZ hk
   obtain ⟨y, hy⟩ : ∃ y, y = q.list[posE q.list p.data.toList].node := ⟨_, rfl⟩
   rw [← hy] at HN x2
   rw [hk] at x2 hlt
   clear hi x1 hy hk
   go_enter Tryz.func128, Tryz.ntmps128
   go_wp2_with fail
   refine (entryByName_any q G b _ p _ hg HC.out HE.out hs HR.out).mono ?_
   rintro e w1 ⟨rfl, hb1⟩
   rw [HI.out, HK.out]
   have d6 := (HC.out.below hb1 hg).c6
   have d2 := (hb1.cell (p := ⟨g2, off + k * 2 + 1, none⟩) hg2).trans x2
   go_wp2
   go_ret2
   exact ⟨tupIB HN.out.symm HI.out.symm, hb1⟩
 · have HI : Hid (isE q.list p.data.toList = false) := qhZ (by simpa using hi)
   have HN : Hid (nbN q.list p.data.toList = 0) := qhZ (by unfold nbN; rw [if_neg hi])
   clear hi
   go_enter Tryz.func128, Tryz.ntmps128
   go_wp2_with fail
   refine (entryByName_any q G b _ p _ hg HC.out HE.out hs HR.out).mono ?_
   rintro e w1 ⟨rfl, hb1⟩
   rw [HI.out]
   go_wp2
   go_ret2
   exact ⟨tupIB HN.out.symm HI.out.symm, hb1⟩
theorem alloc3_fst' (w : World) (a b : Obj) : ((w.alloc a).alloc b).heap[w.heap.size]? = some a := by
 rw [Below.heap_alloc (w.alloc a) b w.heap.size (by simp)]; exact heap_alloc_new w a
theorem alloc3_snd' (w : World) (a b : Obj) : ((w.alloc a).alloc b).heap[w.heap.size + 1]? = some b := by
 have h := heap_alloc_new (w.alloc a) b
 rw [World.size_alloc] at h
 exact h
theorem lkFind_is {ns : List Nod} {u g : Int} {l : List UInt8} {fol : Bool} (h : goodB l = true ∧ wholeB l = true) : bK9 ns u g l fol = if (lkGo ns u g (fol || slashB l) ⟨0, parts l, 0⟩).1 ≠ 0 then ((lkGo ns u g (fol || slashB l) ⟨0, parts l, 0⟩).1, 0)
   else if slashB l = true ∧ (aC9 ns (lkGo ns u g (fol || slashB l) ⟨0, parts l, 0⟩).2).kind ≠ 2 then (3, 0)
   else (0, (lkGo ns u g (fol || slashB l) ⟨0, parts l, 0⟩).2) := by
 unfold bK9; rw [if_pos h]
theorem l2Whole_is {s : ByteArray} {b : Bool} (h : wgB s.data.toList = b) (w : World) (hs : s.size ≤ 1073741824) : Calls Tryz.prog 102 #[.string s] w fun e w' => e = .returned (.bool b) ∧ Below w.heap.size w w' :=
 (l2Whole_any s w hs).mono fun e w' ⟨h1, h2⟩ => ⟨by rw [h1, h], h2⟩
set_option maxRecDepth 100000 in
theorem l4Find_any (f : FsD) (v : Value) (u g : Int) (s : ByteArray) (fol : Bool) (w : World) (hR : FsA w v f) (hF : LookFs f) (hLL : LinkLen f.nodes) (hs : s.size ≤ 1073741824) :
   Calls Tryz.prog 78 #[v, .agg #[.int .i64 u, .int .i64 g], .string s, .bool fol] w fun e w' => e = .returned (.tuple #[.int .i64 ((bK9 f.nodes u g s.data.toList fol).2 : Nat), .int .i64 (bK9 f.nodes u g s.data.toList fol).1]) ∧ Below w.heap.size w w' := by
 obtain ⟨nv, rfl, hN⟩ := hR
 have HN := qhZ hN
 obtain ⟨o, c, rfl, hm, hH⟩ := hN
 have HH := qhZ hH
 unfold maxLen at hm
 have hl : f.nodes.length ≤ 1048576 := (aG9 hF.size).1
 have HBx : Hid (∀ a b, Below w.heap.size w ((w.alloc a).alloc b)) := qhZ (fun a b => ((Below.refl _ _).alloc (Nat.le_refl _) _).alloc (by simp) _)
 have KA0 := qhZ (alloc3_fst' w (.cells #[.slice o f.nodes.length c, .int .i64 f.room] 30) (.cells #[.int .i64 u, .int .i64 g] 34))
 have KB0 := qhZ (alloc3_snd' w (.cells #[.slice o f.nodes.length c, .int .i64 f.room] 30) (.cells #[.int .i64 u, .int .i64 g] 34))
 clear hH
 by_cases hw : wgB s.data.toList = true
 · have HW := qhZ hw
   have hgd : goodB s.data.toList = true ∧ wholeB s.data.toList = true := by
     unfold wgB at hw
     simp only [Bool.and_eq_true] at hw
     exact ⟨hw.2, hw.1⟩
   have HGD := qhZ hgd
   have h60 : 0 < s.size ∧ s.size ≤ 60 := by
     have h1 := hgd.1
     simp [goodB] at h1
     omega
   obtain ⟨hs0, hs60⟩ := h60
   have HSL := qhZ (slash_at hs0)
   clear hw hgd
   go_enter Tryz.func78, Tryz.ntmps78
   go_wp2_with fail
   refine (l2Whole_is HW.out _ hs).mono ?_
   rintro e w1 ⟨rfl, hb1⟩
   have HB1 := qhZ ((HBx.out _ _).trans (hb1.mono (HBx.out _ _).size))
   have KA1 := qhZ ((hb1.block w.heap.size (aB9 KA0.out)).trans KA0.out)
   have KB1 := qhZ ((hb1.block (w.heap.size + 1) (aB9 KB0.out)).trans KB0.out)
   have x0 : w1.cell? ⟨w.heap.size, 0, none⟩ = some (.slice o f.nodes.length c) := aA9 KA1.out 0
   have x1 : w1.cell? ⟨w.heap.size, 1, none⟩ = some (.int .i64 f.room) := aA9 KA1.out 1
   have y0 : w1.cell? ⟨w.heap.size + 1, 0, none⟩ = some (.int .i64 u) := aA9 KB1.out 0
   have y1 : w1.cell? ⟨w.heap.size + 1, 1, none⟩ = some (.int .i64 g) := aA9 KB1.out 1
   obtain ⟨sl, hsl⟩ : ∃ sl, slashB s.data.toList = sl := ⟨_, rfl⟩
   have HSB : Hid ((((s[s.size - 1]'(by omega)).toNat : Int) == 47) = sl) := qhZ (by
     rw [← hsl, HSL.out, Bool.eq_iff_iff]
     simp only [beq_iff_eq, decide_eq_true_eq]
     constructor
     · intro h; exact UInt8.toNat_inj.1 (by rw [show (47 : UInt8).toNat = 47 from rfl]; omega)
     · intro h; rw [h]; rfl)
   have HS2 := qhZ hsl
   have HB1d := qhZ HB1.out.drew
   have KA1d : Hid (w1.drew.heap[w.heap.size]? = _) := qhZ KA1.out
   have KB1d : Hid (w1.drew.heap[w.heap.size + 1]? = _) := qhZ KB1.out
   clear hb1 hsl
   go_wp2
   rw [HSB.out]
   go_region_held3 (fun w' => w'.cell? ⟨w.heap.size, 0, none⟩ = some (.slice o f.nodes.length c) ∧ w'.cell? ⟨w.heap.size, 1, none⟩ = some (.int .i64 f.room) ∧ w'.cell? ⟨w.heap.size + 1, 0, none⟩ = some (.int .i64 u) ∧ w'.cell? ⟨w.heap.size + 1, 1, none⟩ = some (.int .i64 g)) (first | exact ⟨x0, x1, y0, y1⟩ | exact ⟨x2, x3, y2, y3⟩ | exact ⟨(xa 0 _).trans x2, (xa 1 _).trans x3, (ya 0 _).trans y2, (ya 1 _).trans y3⟩)
     (first
       | (go_at_call 76; refine (l2Parts_any s _ hs).mono ?_; rintro e w2 ⟨vP, rfl, hLP, hbP⟩; have HB2 := qhZ (HB1d.out.trans (hbP.mono HB1d.out.size)); have KA2 := qhZ ((hbP.block w.heap.size (aB9 KA1d.out)).trans KA1d.out); have KB2 := qhZ ((hbP.block (w.heap.size + 1) (aB9 KB1d.out)).trans KB1d.out); have x2 : w2.cell? ⟨w.heap.size, 0, none⟩ = some (.slice o f.nodes.length c) := aA9 KA2.out 0; have x3 : w2.cell? ⟨w.heap.size, 1, none⟩ = some (.int .i64 f.room) := aA9 KA2.out 1; have y2 : w2.cell? ⟨w.heap.size + 1, 0, none⟩ = some (.int .i64 u) := aA9 KB2.out 0; have y3 : w2.cell? ⟨w.heap.size + 1, 1, none⟩ = some (.int .i64 g) := aA9 KB2.out 1; have HLP := qhZ hLP; obtain ⟨oo, cap, rfl, hoo⟩ := aM9 hLP; have HOO := qhZ hoo; have xa : ∀ j oo, (w2.alloc oo).cell? ⟨w.heap.size, j, none⟩ = w2.cell? ⟨w.heap.size, j, none⟩ := fun j oo => ((Below.refl _ w2).alloc (Nat.le_refl _) oo).cell (p := ⟨w.heap.size, j, none⟩) (aB9 KA2.out); have ya : ∀ j oo, (w2.alloc oo).cell? ⟨w.heap.size + 1, j, none⟩ = w2.cell? ⟨w.heap.size + 1, j, none⟩ := fun j oo => ((Below.refl _ w2).alloc (Nat.le_refl _) oo).cell (p := ⟨w.heap.size + 1, j, none⟩) (aB9 KB2.out); clear hLP hoo hbP))
   obtain ⟨W3, hW3⟩ : ∃ W3, w2.alloc (.cells #[.slice o f.nodes.length c, .int .i64 f.room, .int .i64 u, .int .i64 g, .int .i64 0, .slice oo (parts s.data.toList).length cap, .int .i64 0] 140) = W3 := ⟨_, rfl⟩
   have hA3 : Below w2.heap.size w2 W3 := by rw [← hW3]; exact (Below.refl _ _).alloc (Nat.le_refl _) _
   have hL3 : LkAt W3 w2.heap.size o f.nodes.length c f.room u g ⟨0, parts s.data.toList, 0⟩ := by
     refine ⟨.slice oo (parts s.data.toList).length cap, by rw [← hW3]; exact heap_alloc_new w2 (.cells #[.slice o f.nodes.length c, .int .i64 f.room, .int .i64 u, .int .i64 g, .int .i64 0, .slice oo (parts s.data.toList).length cap, .int .i64 0] 140), HLP.out.read.below hA3, fun a l k e => ?_⟩
     simp only [Value.slice.injEq] at e
     obtain ⟨g9, rfl, -, h9⟩ := HOO.out a e.1
     simp only
     omega
   have hsz3 : w2.heap.size < W3.heap.size := by rw [← hW3]; simp
   have HA3 := qhZ hA3
   have HB3 := qhZ (HB2.out.trans (hA3.mono HB2.out.size))
   have KA3 := qhZ ((hA3.block w.heap.size (aB9 KA2.out)).trans KA2.out)
   have HL3 := qhZ hL3
   have hw2 := HB2.out.size
   have hw2' := aB9 KA2.out
   have HI3 : Hid (LkInv f.nodes ⟨0, parts s.data.toList, 0⟩) := qhZ ⟨hF.pos, Nat.zero_le _, by have h7 := parts_le s.data.toList; rw [aW9] at h7; simp only; omega⟩
   have HFI := qhZ (lkFind_is (ns := f.nodes) (u := u) (g := g) (fol := fol) HGD.out)
   rw [HS2.out] at HFI
   rw [hW3]
   have HF := qhZ hF
   clear hW3 hA3 hL3 x0 x1 y0 y1 x2 x3 y2 y3 xa ya
   go_wp2
   go_loopw [] (fun wr => ∃ st : Lk, LkAt wr w2.heap.size o f.nodes.length c f.room u g st ∧ LkInv f.nodes st ∧ lkGo f.nodes u g (fol || sl) st = lkGo f.nodes u g (fol || sl) ⟨0, parts s.data.toList, 0⟩ ∧ Below w.heap.size w wr ∧ wr.heap[w.heap.size]? = some (.cells #[.slice o f.nodes.length c, .int .i64 f.room] 30)) (fun wr => lkMeas w2.heap.size wr)
   case atStart => exact ⟨_, HL3.out, HI3.out, rfl, HB3.out, KA3.out⟩
   case round =>
     obtain ⟨⟨node, ps, hops⟩, hL, hI, hG, hB, hKA⟩ := hrel
     have HLr := qhZ hL
     have HIr := qhZ hI
     have HGr := qhZ hG
     have HBr := qhZ hB
     have KAr := qhZ hKA
     obtain ⟨pv, hbk, ⟨o9, c9, rfl, -, -, -⟩, -⟩ := hL
     simp only at hbk
     have hbr := aB9 hbk
     have c4 : wr.cell? ⟨w2.heap.size, 4, none⟩ = some (.int .i64 (node : Int)) := aA9 hbk 4
     have c5 : wr.cell? ⟨w2.heap.size, 5, none⟩ = some (.slice o9 ps.length c9) := aA9 hbk 5
     have hnl : node < f.nodes.length := hI.node
     have hpl : ps.length ≤ 549 := by have h7 := hI.parts; have h8 := hI.hops; simp only at h7 h8; omega
     clear hI hG hB hKA hbk
     cases ps with
     | nil =>
       have HG0 : Hid (lkGo f.nodes u g (fol || sl) ⟨0, parts s.data.toList, 0⟩ = (0, node)) := qhZ (by rw [← HGr.out]; exact lkGo_nil _ _ _ _ _ _)
       simp only [List.length_nil] at c5
       obtain ⟨g3, f3, lv3, e3, hg3, hcc, -, -⟩ := HH.out node hnl
       have d0 := (HBr.out.cell (p := ⟨g3, f3 + node * 7, none⟩) hg3).trans hcc.c0
       have hqe : f.nodes[node] = aC9 f.nodes node := (aR9 hnl).symm
       rw [hqe] at d0
       obtain ⟨kd, hkd⟩ : ∃ kd, (aC9 f.nodes node).kind = kd := ⟨_, rfl⟩
       rw [hkd] at d0
       have HKD := qhZ hkd
       subst e3
       have x0 : wr.cell? ⟨w.heap.size, 0, none⟩ = some (.slice (some ⟨g3, f3, none⟩) f.nodes.length c) := aA9 KAr.out 0
       have z0 := fun d os => cell_regrown (w := wr) x0 d os
       have z4 := fun d os => cell_regrown (w := wr) c4 d os
       have zk := fun d os => cell_regrown (w := wr) d0 d os
       clear hcc hqe hkd
       cases sl with
       | false =>
         have HFD : Hid (bK9 f.nodes u g s.data.toList fol = (0, node)) := qhZ (by rw [HFI.out, HG0.out]; simp)
         go_wp2
         refine wp_region_quiet_below (by kernel_rfl) (by kernel_rfl) ?_
         repeat (first | go_big_quiet_step (fail) | quiet_step (fail))
         refine wpQuiet_nil ?_
         intro w5 hwq
         have hb5 : Below wr.heap.size wr w5 := by
           obtain ⟨pp, rfl⟩ := hwq
           exact below_regrown _ _ _
         have HB5 := qhZ (HBr.out.trans (hb5.mono HBr.out.size))
         have e4 : w5.cell? ⟨w2.heap.size, 4, none⟩ = some (.int .i64 (node : Int)) := (hb5.cell (p := ⟨w2.heap.size, 4, none⟩) hbr).trans c4
         clear hwq hb5
         go_wp2
         go_ret2
         exact ⟨by rw [HFD.out]; rfl, HB5.out⟩
       | true =>
         by_cases hk2 : kd = 2
         · have HFD : Hid (bK9 f.nodes u g s.data.toList fol = (0, node)) := qhZ (by rw [HFI.out, HG0.out]; simp [HKD.out, hk2])
           subst hk2
           go_wp2
           refine wp_region_quiet_below (by kernel_rfl) (by kernel_rfl) ?_
           repeat (first | go_big_quiet_step (fail) | quiet_step (fail))
           refine wpQuiet_nil ?_
           intro w5 hwq
           have hb5 : Below wr.heap.size wr w5 := by
             obtain ⟨pp, rfl⟩ := hwq
             exact below_regrown _ _ _
           have HB5 := qhZ (HBr.out.trans (hb5.mono HBr.out.size))
           have e4 : w5.cell? ⟨w2.heap.size, 4, none⟩ = some (.int .i64 (node : Int)) := (hb5.cell (p := ⟨w2.heap.size, 4, none⟩) hbr).trans c4
           clear hwq hb5
           go_wp2
           go_ret2
           exact ⟨by rw [HFD.out]; rfl, HB5.out⟩
         · have HFD : Hid (bK9 f.nodes u g s.data.toList fol = (3, 0)) := qhZ (by rw [HFI.out, HG0.out]; simp [HKD.out, hk2])
           have hkb : (kd == 2) = false := beq_eq_false_iff_ne.2 hk2
           have hkc : (kd != 2) = true := by rw [bne_iff_ne]; exact hk2
           go_wp2
           refine wp_region_quiet_below (by kernel_rfl) (by kernel_rfl) ?_
           repeat (first | go_big_quiet_step (fail) | quiet_step (fail))
           refine wpQuiet_nil ?_
           intro w5 hwq
           have hb5 : Below wr.heap.size wr w5 := by
             obtain ⟨pp, rfl⟩ := hwq
             exact below_regrown _ _ _
           have HB5 := qhZ (HBr.out.trans (hb5.mono HBr.out.size))
           have e4 : w5.cell? ⟨w2.heap.size, 4, none⟩ = some (.int .i64 (node : Int)) := (hb5.cell (p := ⟨w2.heap.size, 4, none⟩) hbr).trans c4
           clear hwq hb5
           go_wp2
           go_ret2
           exact ⟨by rw [HFD.out]; rfl, HB5.out⟩
     | cons p r =>
       simp only [List.length_cons] at c5 hpl
       have hlp : 0 < ((r.length + 1 : Nat) : Int) := by omega
       have hms := qhZ (lkMeas_is HLr.out)
       cases fol with
       | false =>
         go_wp2_with fail
         refine (step_any f o c u g sl w2.heap.size node hops p r w _ HF.out hLL HN.out HBr.out hw2 HLr.out hnl HIr.out.hops (by omega)).mono ?_
         rintro e w6 ⟨rfl, hb6, hst⟩
         have HST := qhZ hst
         have HB6 := qhZ (HBr.out.trans (hb6.mono hw2))
         have KA6 := qhZ ((hb6.block w.heap.size (by omega)).trans KAr.out)
         have HG1 : Hid (lkGo f.nodes u g sl ⟨node, p :: r, hops⟩ = lkGo f.nodes u g sl ⟨0, parts s.data.toList, 0⟩) := qhZ HGr.out
         have HFI2 : Hid (bK9 f.nodes u g s.data.toList false = if (lkGo f.nodes u g sl ⟨0, parts s.data.toList, 0⟩).1 ≠ 0 then ((lkGo f.nodes u g sl ⟨0, parts s.data.toList, 0⟩).1, 0) else if sl = true ∧ (aC9 f.nodes (lkGo f.nodes u g sl ⟨0, parts s.data.toList, 0⟩).2).kind ≠ 2 then (3, 0) else (0, (lkGo f.nodes u g sl ⟨0, parts s.data.toList, 0⟩).2)) := qhZ HFI.out
         have HSTEP : Hid ((lkStep f.nodes u g sl node p r hops).1 = 0 → lkGo f.nodes u g sl ⟨node, p :: r, hops⟩ = lkGo f.nodes u g sl (lkStep f.nodes u g sl node p r hops).2 ∧ LkInv f.nodes (lkStep f.nodes u g sl node p r hops).2 ∧ lkW (lkStep f.nodes u g sl node p r hops).2 < lkW ⟨node, p :: r, hops⟩) := qhZ (fun h => ⟨lkGo_step HF.out.fit HIr.out.hops h, lkInv_step HF.out.fit HF.out.lead HF.out.pos HIr.out h, (step_less HF.out.fit HIr.out.hops h).1⟩)
         have HSTOP : Hid ((lkStep f.nodes u g sl node p r hops).1 ≠ 0 → lkGo f.nodes u g sl ⟨node, p :: r, hops⟩ = ((lkStep f.nodes u g sl node p r hops).1, 0)) := qhZ (fun h => lkGo_stop h)
         clear hst hb6
         obtain ⟨q, hq⟩ : ∃ q, lkStep f.nodes u g sl node p r hops = q := ⟨_, rfl⟩
         rw [hq] at HST HSTEP HSTOP ⊢
         clear hq HGr HFI
         obtain ⟨cd, st⟩ := q
         simp only at HST HSTEP HSTOP ⊢
         by_cases hc : cd = 0
         · subst hc
           have HL6 := qhZ (HST.out rfl)
           obtain ⟨h6a, h6b, h6c⟩ := HSTEP.out rfl
           have HG6 : Hid (lkGo f.nodes u g sl st = lkGo f.nodes u g sl ⟨0, parts s.data.toList, 0⟩) := qhZ (by rw [← h6a]; exact HG1.out)
           have HI6 := qhZ h6b
           have HM6 : Hid (lkMeas w2.heap.size w6 < lkMeas w2.heap.size wr) := qhZ (by rw [lkMeas_is HL6.out, lkMeas_is HLr.out]; exact h6c)
           clear h6a h6b h6c
           go_wp2
           go_roundw
           case rel => exact ⟨st, HL6.out, HI6.out, HG6.out, HB6.out, KA6.out⟩
           case measure => exact HM6.out
         · have HFD : Hid (bK9 f.nodes u g s.data.toList false = (cd, 0)) := qhZ (by rw [HFI2.out, ← HG1.out, HSTOP.out hc]; simp [hc])
           have hcb : (cd == 0) = false := beq_eq_false_iff_ne.2 hc
           have hcc : (cd != 0) = true := by rw [bne_iff_ne]; exact hc
           go_wp2
           go_ret2
           exact ⟨by rw [HFD.out]; rfl, HB6.out⟩
       | true =>
         go_wp2_with fail
         refine (step_any f o c u g true w2.heap.size node hops p r w _ HF.out hLL HN.out HBr.out hw2 HLr.out hnl HIr.out.hops (by omega)).mono ?_
         rintro e w6 ⟨rfl, hb6, hst⟩
         have HST := qhZ hst
         have HB6 := qhZ (HBr.out.trans (hb6.mono hw2))
         have KA6 := qhZ ((hb6.block w.heap.size (by omega)).trans KAr.out)
         have HG1 : Hid (lkGo f.nodes u g true ⟨node, p :: r, hops⟩ = lkGo f.nodes u g true ⟨0, parts s.data.toList, 0⟩) := qhZ HGr.out
         have HFI2 : Hid (bK9 f.nodes u g s.data.toList true = if (lkGo f.nodes u g true ⟨0, parts s.data.toList, 0⟩).1 ≠ 0 then ((lkGo f.nodes u g true ⟨0, parts s.data.toList, 0⟩).1, 0) else if sl = true ∧ (aC9 f.nodes (lkGo f.nodes u g true ⟨0, parts s.data.toList, 0⟩).2).kind ≠ 2 then (3, 0) else (0, (lkGo f.nodes u g true ⟨0, parts s.data.toList, 0⟩).2)) := qhZ HFI.out
         have HSTEP : Hid ((lkStep f.nodes u g true node p r hops).1 = 0 → lkGo f.nodes u g true ⟨node, p :: r, hops⟩ = lkGo f.nodes u g true (lkStep f.nodes u g true node p r hops).2 ∧ LkInv f.nodes (lkStep f.nodes u g true node p r hops).2 ∧ lkW (lkStep f.nodes u g true node p r hops).2 < lkW ⟨node, p :: r, hops⟩) := qhZ (fun h => ⟨lkGo_step HF.out.fit HIr.out.hops h, lkInv_step HF.out.fit HF.out.lead HF.out.pos HIr.out h, (step_less HF.out.fit HIr.out.hops h).1⟩)
         have HSTOP : Hid ((lkStep f.nodes u g true node p r hops).1 ≠ 0 → lkGo f.nodes u g true ⟨node, p :: r, hops⟩ = ((lkStep f.nodes u g true node p r hops).1, 0)) := qhZ (fun h => lkGo_stop h)
         clear hst hb6
         obtain ⟨q, hq⟩ : ∃ q, lkStep f.nodes u g true node p r hops = q := ⟨_, rfl⟩
         rw [hq] at HST HSTEP HSTOP ⊢
         clear hq HGr HFI
         obtain ⟨cd, st⟩ := q
         simp only at HST HSTEP HSTOP ⊢
         by_cases hc : cd = 0
         · subst hc
           have HL6 := qhZ (HST.out rfl)
           obtain ⟨h6a, h6b, h6c⟩ := HSTEP.out rfl
           have HG6 : Hid (lkGo f.nodes u g true st = lkGo f.nodes u g true ⟨0, parts s.data.toList, 0⟩) := qhZ (by rw [← h6a]; exact HG1.out)
           have HI6 := qhZ h6b
           have HM6 : Hid (lkMeas w2.heap.size w6 < lkMeas w2.heap.size wr) := qhZ (by rw [lkMeas_is HL6.out, lkMeas_is HLr.out]; exact h6c)
           clear h6a h6b h6c
           go_wp2
           go_roundw
           case rel => exact ⟨st, HL6.out, HI6.out, HG6.out, HB6.out, KA6.out⟩
           case measure => exact HM6.out
         · have HFD : Hid (bK9 f.nodes u g s.data.toList true = (cd, 0)) := qhZ (by rw [HFI2.out, ← HG1.out, HSTOP.out hc]; simp [hc])
           have hcb : (cd == 0) = false := beq_eq_false_iff_ne.2 hc
           have hcc : (cd != 0) = true := by rw [bne_iff_ne]; exact hc
           go_wp2
           go_ret2
           exact ⟨by rw [HFD.out]; rfl, HB6.out⟩
 · have HW : Hid (wgB s.data.toList = false) := qhZ (by simpa using hw)
   have HFD : Hid (bK9 f.nodes u g s.data.toList fol = (1, 0)) := qhZ (by
     unfold bK9
     rw [if_neg]
     intro h
     apply hw
     unfold wgB
     rw [h.1, h.2]; rfl)
   clear hw
   go_enter Tryz.func78, Tryz.ntmps78
   go_wp2_with fail
   refine (l2Whole_is HW.out _ hs).mono ?_
   rintro e w1 ⟨rfl, hb1⟩
   have HB1 := qhZ ((HBx.out _ _).trans (hb1.mono (HBx.out _ _).size))
   clear hb1
   go_wp2
   go_ret2
   exact ⟨by rw [HFD.out]; rfl, HB1.out⟩
theorem goodF_G {f : FsD} (h : goodF f = true) : GoodF f := by unfold goodF at h; simpa using h
theorem node_ok {ns : List Nod} (h : ∀ n ∈ ns, bP9 ns.length n = true) {i : Nat} (hi : i < ns.length) : bP9 ns.length (aC9 ns i) = true := by
 have e : aC9 ns i = ns[i] := aR9 hi
 rw [e]; exact h _ (List.getElem_mem hi)
theorem look_of {f : FsD} (h : goodF f = true) (hs : szF f ≤ 1048576) : LookFs f ∧ LinkLen f.nodes := by
 have hG := goodF_G h
 have hall : ∀ n ∈ f.nodes, bP9 f.nodes.length n = true := fun n hn => (nodOk_iff.1 (hG.2.2.2.2.1 n hn)).1
 refine ⟨⟨hs, leadI hall, linksFit_of hall, by have := inB_t hG.1; omega, fun i hi hk => ?_⟩, fun i hi hk => ?_⟩
 · have h1 := node_ok hall hi
   unfold bP9 at h1
   rw [if_neg hk] at h1
   simp only [Bool.and_eq_true] at h1
   exact h1.1
 · have h1 := node_ok hall hi
   unfold bP9 at h1
   rw [if_neg (by omega), if_neg (by omega), if_neg (by omega)] at h1
   simp only [Bool.and_eq_true] at h1
   have h2 : goodB (aC9 f.nodes i).data = true := h1.2.2.2.2.2.1
   simp [goodB] at h2
   omega
theorem lkRun_lt {ns : List Nod} (hf : LinksFit ns) (hld : Lead ns) (hp : 0 < ns.length) (u g : Int) (fol : Bool) : ∀ (n : Nat) (s : Lk), LkInv ns s → (lkRun ns u g fol n s).2 < ns.length
 | 0, s, h => h.node
 | n + 1, ⟨node, [], hops⟩, h => h.node
 | n + 1, ⟨node, p :: r, hops⟩, h => by
   rw [lkRun]
   by_cases h0 : (lkStep ns u g fol node p r hops).1 = 0
   · rw [if_neg (by rw [h0]; simp)]
     exact lkRun_lt hf hld hp u g fol n _ (lkInv_step hf hld hp h h0)
   · rw [if_pos h0]; exact hp
theorem lkFind_lt {f : FsD} (hF : LookFs f) (u g : Int) (l : List UInt8) (fol : Bool) : (bK9 f.nodes u g l fol).2 < f.nodes.length := by
 unfold bK9
 by_cases h : goodB l = true ∧ wholeB l = true
 · rw [if_pos h]
   have hl : l.length ≤ 60 := by
     have h1 := h.1
     simp [goodB] at h1
     omega
   have h1 : (lkGo f.nodes u g (fol || slashB l) ⟨0, parts l, 0⟩).2 < f.nodes.length := lkRun_lt hF.fit hF.lead hF.pos u g _ _ _ ⟨hF.pos, Nat.zero_le _, by have h7 := parts_le l; simp only; omega⟩
   split
   · exact hF.pos
   · split
     · exact hF.pos
     · exact h1
 · rw [if_neg h]; exact hF.pos
noncomputable def bC9 (f : FsD) (u g : Int) : Bool := goodF f && credB u g
theorem l4Asked_any (f : FsD) (v : Value) (u g : Int) (w : World) (hR : FsA w v f) (hs : szF f ≤ 1048576) : Calls Tryz.prog 55 #[v, .agg #[.int .i64 u, .int .i64 g]] w fun e w' => e = .returned (.bool (bC9 f u g)) ∧ Below w.heap.size w w' := by
 have HR := qhZ hR
 obtain ⟨nv, rfl, hN⟩ := hR
 have HN := qhZ hN
 obtain ⟨o, c, rfl, hm, hH⟩ := hN
 have HH := qhZ hH
 unfold maxLen at hm
 have HS := qhZ hs
 have hl : f.nodes.length ≤ 1048576 := (aG9 hs).1
 have HB0 : Hid (Below w.heap.size w ((w.alloc (.cells #[.slice o f.nodes.length c, .int .i64 f.room] 30)).alloc (.cells #[.int .i64 u, .int .i64 g] 34))) := qhZ (((Below.refl _ _).alloc (Nat.le_refl _) _).alloc (by simp) _)
 have KA0 := qhZ (alloc3_fst' w (.cells #[.slice o f.nodes.length c, .int .i64 f.room] 30) (.cells #[.int .i64 u, .int .i64 g] 34))
 have KB0 := qhZ (alloc3_snd' w (.cells #[.slice o f.nodes.length c, .int .i64 f.room] 30) (.cells #[.int .i64 u, .int .i64 g] 34))
 clear hH hs
 by_cases hg : goodF f = true
 · have HG := qhZ hg
   have HF : Hid (bC9 f u g = credB u g) := qhZ (by unfold bC9; rw [HG.out]; rfl)
   clear hg
   go_enter Tryz.func55, Tryz.ntmps55
   go_wp2_with fail
   refine (l3Good_any f _ _ (HR.out.below HB0.out) HS.out).mono ?_
   rintro e w1 ⟨rfl, hb1⟩
   rw [HG.out]
   have HB1 := qhZ (HB0.out.trans (hb1.mono HB0.out.size))
   have KA1 := qhZ ((hb1.block w.heap.size (aB9 KA0.out)).trans KA0.out)
   have KB1 := qhZ ((hb1.block (w.heap.size + 1) (aB9 KB0.out)).trans KB0.out)
   have x1a : w1.cell? ⟨w.heap.size, 0, none⟩ = some (.slice o f.nodes.length c) := aA9 KA1.out 0
   have x1b : w1.cell? ⟨w.heap.size, 1, none⟩ = some (.int .i64 f.room) := aA9 KA1.out 1
   have y1a : w1.cell? ⟨w.heap.size + 1, 0, none⟩ = some (.int .i64 u) := aA9 KB1.out 0
   have y1b : w1.cell? ⟨w.heap.size + 1, 1, none⟩ = some (.int .i64 g) := aA9 KB1.out 1
   clear hb1
   go_wp2_with fail
   refine (l1Cred_any u g _).mono ?_
   rintro e w2 ⟨rfl, hb2⟩
   have HB2 := qhZ (HB1.out.trans (hb2.mono HB1.out.size))
   have KA2 := qhZ ((hb2.block w.heap.size (aB9 KA1.out)).trans KA1.out)
   have KB2 := qhZ ((hb2.block (w.heap.size + 1) (aB9 KB1.out)).trans KB1.out)
   have x2a : w2.cell? ⟨w.heap.size, 0, none⟩ = some (.slice o f.nodes.length c) := aA9 KA2.out 0
   have x2b : w2.cell? ⟨w.heap.size, 1, none⟩ = some (.int .i64 f.room) := aA9 KA2.out 1
   have y2a : w2.cell? ⟨w.heap.size + 1, 0, none⟩ = some (.int .i64 u) := aA9 KB2.out 0
   have y2b : w2.cell? ⟨w.heap.size + 1, 1, none⟩ = some (.int .i64 g) := aA9 KB2.out 1
   clear hb2
   go_wp2
   go_ret
   exact ⟨aK9 HF.out.symm, HB2.out⟩
 · have HG : Hid (goodF f = false) := qhZ (by simpa using hg)
   have HF : Hid (bC9 f u g = false) := qhZ (by unfold bC9; rw [HG.out]; rfl)
   clear hg
   go_enter Tryz.func55, Tryz.ntmps55
   go_wp2_with fail
   refine (l3Good_any f _ _ (HR.out.below HB0.out) HS.out).mono ?_
   rintro e w1 ⟨rfl, hb1⟩
   rw [HG.out]
   have HB1 := qhZ (HB0.out.trans (hb1.mono HB0.out.size))
   have KA1 := qhZ ((hb1.block w.heap.size (aB9 KA0.out)).trans KA0.out)
   have KB1 := qhZ ((hb1.block (w.heap.size + 1) (aB9 KB0.out)).trans KB0.out)
   have x1a : w1.cell? ⟨w.heap.size, 0, none⟩ = some (.slice o f.nodes.length c) := aA9 KA1.out 0
   have x1b : w1.cell? ⟨w.heap.size, 1, none⟩ = some (.int .i64 f.room) := aA9 KA1.out 1
   have y1a : w1.cell? ⟨w.heap.size + 1, 0, none⟩ = some (.int .i64 u) := aA9 KB1.out 0
   have y1b : w1.cell? ⟨w.heap.size + 1, 1, none⟩ = some (.int .i64 g) := aA9 KB1.out 1
   clear hb1
   go_wp2
   go_ret
   exact ⟨aK9 HF.out.symm, HB1.out⟩
theorem bN9 {f : FsD} {u g : Int} (h : bC9 f u g = true) : goodF f = true := by unfold bC9 at h; simp only [Bool.and_eq_true] at h; exact h.1
theorem bL9 {w w' : World} {o : Option Addr} {c : Nat} {f : FsD} {nd : Nat} (hH : ∀ i (h : i < f.nodes.length), ∃ g off lv, o = some ⟨g, off, none⟩ ∧ g < w.heap.size ∧ NodC w g (off + i * 7) lv f.nodes[i] ∧ EntsA w lv f.nodes[i].list ∧ f.nodes[i].data.length ≤ maxLen) (hn : nd < f.nodes.length) (hb : Below w.heap.size w w') :
   ∃ g off lv, o = some ⟨g, off, none⟩ ∧ NodC w' g (off + nd * 7) lv (aC9 f.nodes nd) ∧ EntsA w' lv (aC9 f.nodes nd).list := by
 obtain ⟨g, off, lv, e, hg, hc, he, -⟩ := hH nd hn
 have hq : f.nodes[nd] = aC9 f.nodes nd := (aR9 hn).symm
 rw [hq] at hc he
 exact ⟨g, off, lv, e, hc.below hb hg, he.below hb⟩
def hopR (node : Nat) (d : List UInt8) (r : List (List UInt8)) (hops : Nat) : Int × Lk :=
 if hops = 8 then (5, ⟨0, [], 0⟩) else (0, ⟨if wholeB d = true then 0 else node, parts d ++ r, hops + 1⟩)
theorem isWhole_is {s : ByteArray} {b : Bool} {w : World} (h : wholeB s.data.toList = b) : Calls Tryz.prog 147 #[.string s] w fun e w' => e = .returned (.bool b) ∧ w = w' := by
 rw [← h]; exact isWhole_any s w
theorem hop_any (s : ByteArray) (b : Nat) (o : Option Addr) (n c G k : Nat) (u g : Int) (fol : Bool) (node : Nat) (r : List (List UInt8)) (hops : Nat) (w : World) (hs : s.size ≤ 1048576) (hrl : r.length ≤ 1000) (hh : hops ≤ 8) (h : SkAt w b o n c G k u g fol ⟨node, r, hops⟩) :
   Calls Tryz.prog 182 #[.pointer (some ⟨b, 0, none⟩), .string s] w fun e w' => e = .returned (errC (hopR node s.data.toList r hops).1) ∧ OnlyG w w' b ∧ Below b w w' ∧ ((hopR node s.data.toList r hops).1 = 0 → SkAt w' b o n c G k u g fol (hopR node s.data.toList r hops).2) := by
 obtain ⟨pv, hb, hR, hoff⟩ := h
 simp only at hb hR
 have x7 : w.cell? ⟨b, 7, none⟩ = some (.int .i64 (hops : Int)) := aA9 hb 7
 have f7 := aE9 hb 7
 by_cases h8 : hops = 8
 · have HX : Hid (hopR node s.data.toList r hops = (5, ⟨0, [], 0⟩)) := qhZ (by unfold hopR; rw [if_pos h8])
   subst h8
   clear hb hR hoff
   go_enter Tryz.func182, Tryz.ntmps182
   go_wp2
   go_ret
   rw [HX.out]
   exact ⟨rfl, OnlyG.below b (Below.refl _ _), Below.refl _ _, fun e => absurd e (by decide)⟩
 · have h8b : ((hops : Int) == 8) = false := by rw [beq_eq_false_iff_ne]; omega
   have hhw : (hops : Int) + 1 ≤ 100 := by omega
   obtain ⟨wb, hwb⟩ : ∃ wb, wholeB s.data.toList = wb := ⟨_, rfl⟩
   have HWB := qhZ hwb
   have HX : Hid (hopR node s.data.toList r hops = (0, ⟨if wb = true then 0 else node, parts s.data.toList ++ r, hops + 1⟩)) := qhZ (by unfold hopR; rw [if_neg h8, hwb])
   have hO1 := (OnlyG.below b (Below.refl _ w)).set 7 (.int .i64 ((hops : Int) + 1))
   have hB1 := (Below.refl b w).setCell (p := ⟨b, 7, none⟩) (Nat.le_refl _) (.int .i64 ((hops : Int) + 1))
   have hb1 : (w.setCell ⟨b, 7, none⟩ (.int .i64 ((hops : Int) + 1))).heap[b]? = some (.cells (skCells o n c G k u g fol node pv (hops + 1)) 147 (0, 0)) := heap_setCell_same w b 7 _ _ (.int .i64 ((hops : Int) + 1)) hb
   have HSK : Hid (SkAt (w.setCell ⟨b, 7, none⟩ (.int .i64 ((hops : Int) + 1))) b o n c G k u g fol ⟨node, r, hops + 1⟩) := qhZ ⟨pv, hb1, rd_keptV hR hO1 hoff, hoff⟩
   have HO1 := qhZ hO1
   have HB1 := qhZ hB1
   have y5 : (w.setCell ⟨b, 7, none⟩ (.int .i64 ((hops : Int) + 1))).cell? ⟨b, 5, none⟩ = some (.int .i64 (node : Int)) := aA9 hb1 5
   have f5 := aE9 hb1 5
   have HK1 := qhZ hb1
   have HR := qhZ hR
   have HOF := qhZ hoff
   clear hb hR hoff hO1 hB1 hb1 h8 hwb
   cases wb with
   | false =>
     go_enter Tryz.func182, Tryz.ntmps182
     go_wp2_with fail
     refine (isWhole_is HWB.out).mono ?_
     rintro e w2 ⟨rfl, rfl⟩
     go_wp2_with fail
     refine (putAhead_any s b o n c G k u g fol ⟨node, r, hops + 1⟩ _ hs hrl HSK.out).mono ?_
     rintro e w3 ⟨⟨x, rfl⟩, hS3, hO3, hB3⟩
     have HS3 := qhZ hS3
     have HO3 := qhZ (HO1.out.trans hO3)
     have HB3 := qhZ (HB1.out.trans hB3)
     clear hS3 hO3 hB3
     go_wp2
     go_ret
     rw [HX.out]
     exact ⟨rfl, HO3.out, HB3.out, fun _ => HS3.out⟩
   | true =>
     have hO2 := HO1.out.set 5 (.int .i64 0)
     have HO2 := qhZ hO2
     have HB2 := qhZ (HB1.out.setCell (p := ⟨b, 5, none⟩) (Nat.le_refl _) (.int .i64 0))
     have hb2 : ((w.setCell ⟨b, 7, none⟩ (.int .i64 ((hops : Int) + 1))).setCell ⟨b, 5, none⟩ (.int .i64 0)).heap[b]? = some (.cells (skCells o n c G k u g fol 0 pv (hops + 1)) 147 (0, 0)) := heap_setCell_same _ b 5 _ _ (.int .i64 0) HK1.out
     have HSK2 : Hid (SkAt ((w.setCell ⟨b, 7, none⟩ (.int .i64 ((hops : Int) + 1))).setCell ⟨b, 5, none⟩ (.int .i64 0)) b o n c G k u g fol ⟨0, r, hops + 1⟩) := qhZ ⟨pv, hb2, rd_keptV HR.out hO2 HOF.out, HOF.out⟩
     clear hb2 hO2
     go_enter Tryz.func182, Tryz.ntmps182
     go_wp2_with fail
     refine (isWhole_is HWB.out).mono ?_
     rintro e w2 ⟨rfl, rfl⟩
     go_wp2_with fail
     refine (putAhead_any s b o n c G k u g fol ⟨0, r, hops + 1⟩ _ hs hrl HSK2.out).mono ?_
     rintro e w3 ⟨⟨x, rfl⟩, hS3, hO3, hB3⟩
     have HS3 := qhZ hS3
     have HO3 := qhZ (HO2.out.trans hO3)
     have HB3 := qhZ (HB2.out.trans hB3)
     clear hS3 hO3 hB3
     go_wp2
     go_ret
     rw [HX.out]
     exact ⟨rfl, HO3.out, HB3.out, fun _ => HS3.out⟩
theorem comesFromRoot_any (n : Nat) (P : Int → Pl) (B : Nat) (v : Value) (i : Int) (w : World) (hR : PlsA w B v n P) (hn : n ≤ 1048576) (hin : ∀ k, 0 ≤ upN P k i ∧ upN P k i < n) : Calls Tryz.prog 180 #[v, .int .i64 i] w fun e w' => e = .returned (.bool (upN P n i == 0)) ∧ w = w' := by
 obtain ⟨G, c, rfl, h1, h2, -, hr⟩ := hR
 have HR := qhZ hr
 have HI := qhZ hin
 clear hr hin
 unfold maxLen at h2
 go_enter Tryz.func180, Tryz.ntmps180
 go_wp2
 go_loop [1, 7] (fun t x => ∃ k : Nat, k ≤ n ∧ x = .int .i64 k ∧ t = .int .i64 (upN P k i)) (fun _ x => n - (intOf x).toNat)
 case atStart => exact ⟨0, Nat.zero_le _, rfl, rfl⟩
 case round =>
   obtain ⟨k, hk, rfl, rfl⟩ := hrel
   by_cases hlt : k < n
   · obtain ⟨u0, u1⟩ := HI.out k
     have HNX : Hid (upN P (k + 1) i = ((P (upN P k i)).dir : Int)) := qhZ rfl
     obtain ⟨m, hm⟩ : ∃ m : Nat, upN P k i = m := ⟨(upN P k i).toNat, by omega⟩
     rw [hm] at u0 u1 HNX ⊢
     have hm2 : m < n := by omega
     have b1 := HR.out.cell (j := m * 3 + 1) (by omega)
     rw [plF1] at b1
     clear hm
     go_wp2
     go_round
     case rel => exact ⟨k + 1, hlt, by go_num, by rw [HNX.out]⟩
     case measure => simp [intOf]; omega
   · obtain rfl : k = n := by omega
     go_wp2
     go_ret
     exact ⟨rfl, rfl⟩
def wellV (kind : Int) (node : Nat) (n : Nat) (P : Int → Pl) : Bool :=
 if node = 0 ∨ kind = 0 then (P node).links == 0
 else if kind = 2 then (P node).links == 1 && upN P n node == 0
 else decide (1 ≤ (P node).links)
theorem comes_is {n : Nat} {P : Int → Pl} {B : Nat} {v : Value} {i : Int} {w : World} {b : Bool} (h : (upN P n i == 0) = b) (hR : PlsA w B v n P) (hn : n ≤ 1048576) (hin : ∀ k, 0 ≤ upN P k i ∧ upN P k i < n) : Calls Tryz.prog 180 #[v, .int .i64 i] w fun e w' => e = .returned (.bool b) ∧ w = w' :=
 (comesFromRoot_any n P B v i w hR hn hin).mono fun e w' ⟨h1, h2⟩ => ⟨by rw [h1, h], h2⟩
theorem isWellPlaced_any (kind : Int) (m n : Nat) (P : Int → Pl) (B : Nat) (v : Value) (w : World) (hR : PlsA w B v n P) (hn : n ≤ 1048576) (hm : m < n) (hlk : (P m).links ≤ 1048576) (hin : ∀ k, 0 ≤ upN P k (m : Int) ∧ upN P k (m : Int) < n) : Calls Tryz.prog 167 #[.int .i64 kind, .int .i64 (m : Int), v] w fun e w' => e = .returned (.bool (wellV kind m n P)) ∧ w = w' := by
 have HP := qhZ hR
 obtain ⟨G, c, rfl, h1, h2, -, hr⟩ := hR
 have HI := qhZ hin
 have b0 := hr.cell (j := m * 3) (by omega)
 rw [plF0] at b0
 unfold maxLen at h2
 have HW : Hid (wellV kind m n P = if m = 0 ∨ kind = 0 then (P m).links == 0 else if kind = 2 then (P m).links == 1 && upN P n m == 0 else decide (1 ≤ (P m).links)) := qhZ rfl
 obtain ⟨N, hN⟩ : ∃ N, N = (P m).links := ⟨_, rfl⟩
 rw [← hN] at b0 hlk HW
 clear hr hin hN
 by_cases ha : m = 0
 · subst ha
   rw [if_pos (.inl rfl)] at HW
   go_enter Tryz.func167, Tryz.ntmps167
   go_wp2
   all_goals
     go_ret
     exact ⟨aK9 (by rw [HW.out, Bool.eq_iff_iff]; simp), rfl⟩
 have hm0 : ¬ ((m : Int) = 0) := by omega
 by_cases hb : kind = 0
 · subst hb
   rw [if_pos (.inr rfl)] at HW
   go_enter Tryz.func167, Tryz.ntmps167
   go_wp2
   all_goals
     go_ret
     exact ⟨aK9 (by rw [HW.out, Bool.eq_iff_iff]; simp), rfl⟩
 rw [if_neg (by rintro (h | h) <;> contradiction)] at HW
 by_cases hc : kind = 2
 · subst hc
   rw [if_pos rfl] at HW
   by_cases hd : N = 1
   · subst hd
     obtain ⟨bb, hbb⟩ : ∃ bb, (upN P n (m : Int) == 0) = bb := ⟨_, rfl⟩
     have HBB := qhZ hbb
     rw [hbb] at HW
     clear hbb
     go_enter Tryz.func167, Tryz.ntmps167
     go_wp2_with (go_at_call 180; refine (comes_is HBB.out HP.out hn HI.out).mono ?_; rintro e w' ⟨rfl, rfl⟩)
     all_goals
       go_ret
       exact ⟨aK9 (by rw [HW.out]; simp), rfl⟩
   · have hd1 : ((N : Int) == 1) = false := by rw [beq_eq_false_iff_ne]; omega
     go_enter Tryz.func167, Tryz.ntmps167
     go_wp2
     all_goals
       go_ret
       exact ⟨aK9 (by rw [HW.out]; simp [hd]), rfl⟩
 · rw [if_neg hc] at HW
   have kb : (kind == 0) = false := beq_eq_false_iff_ne.2 hb
   have kc : (kind == 2) = false := beq_eq_false_iff_ne.2 hc
   go_enter Tryz.func167, Tryz.ntmps167
   go_wp2
   all_goals
     go_ret
     refine ⟨aK9 ?_, rfl⟩
     rw [HW.out, Bool.eq_iff_iff]
     simp
     try omega
theorem well_is {kind : Int} {m n : Nat} {P : Int → Pl} {B : Nat} {v : Value} {w : World} {b : Bool} (h : wellV kind m n P = b) (hR : PlsA w B v n P) (hn : n ≤ 1048576) (hm : m < n) (hlk : (P m).links ≤ 1048576) (hin : ∀ k, 0 ≤ upN P k (m : Int) ∧ upN P k (m : Int) < n) : Calls Tryz.prog 167 #[.int .i64 kind, .int .i64 (m : Int), v] w fun e w' => e = .returned (.bool b) ∧ w = w' :=
 (isWellPlaced_any kind m n P B v w hR hn hm hlk hin).mono fun e w' ⟨h1, h2⟩ => ⟨by rw [h1, h], h2⟩
def WellP (ns : List Nod) : Prop := kindAt ns 0 = 2 ∧ ∀ k, k < ns.length → wellB ns (bH9 ns) k = true
open Classical in
noncomputable def wellF (ns : List Nod) : Bool := decide (WellP ns)
theorem wellF_no {ns : List Nod} (h : ¬ WellP ns) : false = wellF ns := by unfold wellF; simp [h]
theorem wellF_yes {ns : List Nod} (h : WellP ns) : true = wellF ns := by unfold wellF; simp [h]
theorem areWellPlaced_any (ns : List Nod) (v : Value) (w : World) (hR : NodsA w v ns) (hs : szNs ns ≤ 1048576) (hl : ns.length ≤ 1048576) (hpos : 0 < ns.length) (hld : Lead ns) : Calls Tryz.prog 133 #[v] w fun e w' => e = .returned (.bool (wellF ns)) ∧ Below w.heap.size w w' := by
 have HR := qhZ hR
 obtain ⟨o, c, rfl, hm, hH⟩ := hR
 have HH := qhZ hH
 clear hH
 unfold maxLen at hm
 obtain ⟨g, off, lv0, rfl, hg, hcc, -, -⟩ := HH.out 0 hpos
 have d0 := hcc.c0
 rw [Nat.zero_mul, Nat.add_zero] at d0
 obtain ⟨kd, hkd⟩ : ∃ kd, kd = ns[0].kind := ⟨_, rfl⟩
 rw [← hkd] at d0
 have HKD : Hid (kindAt ns 0 = kd) := qhZ (by rw [hkd]; simp [kindAt, List.getD, hpos])
 clear hcc hkd
 by_cases c4 : kd = 2
 · subst c4
   have HI : Hid (∀ m : Nat, m < ns.length → ∀ k, 0 ≤ upN (bH9 ns) k (m : Int) ∧ upN (bH9 ns) k (m : Int) < ns.length) := qhZ (fun m hm k => upN_in hpos (by omega) (by omega) k)
   have HLK : Hid (∀ i, (bH9 ns i).links ≤ 1048576) := qhZ (fun i => by have := links_le i ns; rw [pl_links]; omega)
   go_enter Tryz.func133, Tryz.ntmps133
   go_wp2_with fail
   refine (placesIn_any ns _ _ HR.out hs hl hld).mono ?_
   rintro e w1 ⟨u, rfl, hp, hb1⟩
   have HP := qhZ hp
   have HB1 := qhZ hb1
   obtain ⟨G, cp, rfl, -, -, -, -⟩ := hp
   clear hb1 d0
   go_wp2
   go_loop [14] (fun i => ∃ k : Nat, k ≤ ns.length ∧ i = .int .i64 k ∧ ∀ j, j < k → wellB ns (bH9 ns) j = true) (fun i => ns.length - (intOf i).toNat)
   case atStart => exact ⟨0, Nat.zero_le _, rfl, fun j h => absurd h (Nat.not_lt_zero _)⟩
   case round =>
     obtain ⟨k, hk, rfl, hJ⟩ := hrel
     have HJ := qhZ hJ
     clear hJ
     by_cases hlt : k < ns.length
     · obtain ⟨g3, f3, lv, e3, hg3, hcc, -, -⟩ := HH.out k hlt
       obtain ⟨rfl, rfl⟩ : g = g3 ∧ off = f3 := by simpa using e3
       have d0 := (hcc.below HB1.out hg3).c0
       obtain ⟨kq, hkq⟩ : ∃ kq, kq = ns[k].kind := ⟨_, rfl⟩
       rw [← hkq] at d0
       have HW : Hid (wellB ns (bH9 ns) k = wellV kq k ns.length (bH9 ns)) := qhZ (by
         have : kindAt ns (k : Int) = kq := by rw [hkq]; simp [kindAt, List.getD, hlt]
         unfold wellB wellV
         rw [this])
       clear hcc hkq e3
       by_cases hw : wellV kq k ns.length (bH9 ns) = true
       · have HWV := qhZ hw
         have HJ2 : Hid (∀ j, j < k + 1 → wellB ns (bH9 ns) j = true) := qhZ (by
           intro j h
           rcases Nat.lt_succ_iff_lt_or_eq.1 h with h1 | rfl
           · exact HJ.out j h1
           · rw [HW.out, hw])
         go_wp2_with (go_at_call 167; refine (well_is HWV.out HP.out hl hlt (HLK.out _) (HI.out _ hlt)).mono ?_; rintro e w' ⟨rfl, rfl⟩)
         go_round
         case rel => exact ⟨k + 1, hlt, by go_num, HJ2.out⟩
         case measure => simp [intOf]; omega
       · have HWV : Hid (wellV kq k ns.length (bH9 ns) = false) := qhZ (by simpa using hw)
         have HF : Hid (¬ WellP ns) := qhZ (fun h => hw (by rw [← HW.out]; exact h.2 k hlt))
         go_wp2_with (go_at_call 167; refine (well_is HWV.out HP.out hl hlt (HLK.out _) (HI.out _ hlt)).mono ?_; rintro e w' ⟨rfl, rfl⟩)
         go_ret
         exact ⟨aK9 (wellF_no HF.out), HB1.out⟩
     · go_wp2
       go_ret
       exact ⟨aK9 (wellF_yes ⟨HKD.out, fun k h => HJ.out k (by omega)⟩), HB1.out⟩
 · have HF : Hid (¬ WellP ns) := qhZ (fun h => c4 (by rw [← HKD.out]; exact h.1))
   have c4b : (kd == 2) = false := beq_eq_false_iff_ne.2 c4
   have c4d : (kd != 2) = true := by simpa using c4
   go_enter Tryz.func133, Tryz.ntmps133
   go_wp2
   go_ret
   exact ⟨aK9 (wellF_no HF.out), Below.refl _ _⟩
end Go.Proofs.YtknhacblialboaaGreatDoor
