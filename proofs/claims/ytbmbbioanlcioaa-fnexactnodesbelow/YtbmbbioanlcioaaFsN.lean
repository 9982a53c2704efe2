
/-
  Contracts of the laws' helpers on entries: toEntry, toEntryS.
  Conditions: lists of at most 2^20 entries.
-/
import Derived.Test.YtbmbbioanlcioaaFsM
import Derived.Test.YtbmbbioanlcioaaRowC
namespace Go.Proofs.Ytbmbbioanlcioaa
open Go.ChangeShapes Go.WideShapes Go.ChangeAt Go.RowKit Go.Joins
set_option linter.unusedVariables false

theorem entInfo : (Try.prog.info? 67).map (fun i => (i.zero, i.size, i.bytes)) = some (some (.agg #[.string ⟨#[]⟩, .int .i64 0]), 2, 24) := by kernel_rfl

set_option maxHeartbeats 1000000 in
theorem toEntry_any (x : ByteArray) (k : Int) (w : World) : Calls Try.prog 83 #[.agg #[.string x, .int .i64 k]] w fun e w' => e = .returned (.agg #[.string x, .int .i64 k]) ∧ Below w.heap.size w w' := by
  go_enter Try.func83, Try.ntmps83
  go_wp2
  exact bodyPost_ret (v := .agg #[.string x, .int .i64 k]) (by simp [results, Try.results83, go_sem]) rfl ⟨rfl, (((Below.refl _ _).alloc (Nat.le_refl _) _).alloc (by simp) _).alloc (by simp; omega) _⟩

def entCell (e : Ent) (r : Nat) : Value := if r = 0 then .string (bs e.name) else .int .i64 e.node
def ent0 : Ent := ⟨[], 0⟩
/-- The cells of a list of entries; behind it zero values. -/
def entsF (es : List Ent) (j : Nat) : Value := entCell (es[j / 2]?.getD ent0) (j % 2)
/-- The value is a list of entries of the call's own, in a block from B on. -/
def EntsOwn (w : World) (B : Nat) (v : Value) (es : List Ent) : Prop := ∃ G c, v = .slice (some ⟨G, 0, none⟩) es.length c ∧ es.length ≤ c ∧ c ≤ maxLen ∧ B ≤ G ∧ RowAt w G (es.length * 2) 67 (entsF es)

theorem EntsOwn.below {w w' : World} {B : Nat} {v : Value} {es : List Ent} (h : EntsOwn w B v es) (hb : Below w.heap.size w w') : EntsOwn w' B v es := by
  obtain ⟨G, c, e, h1, h2, h3, hr⟩ := h
  exact ⟨G, c, e, h1, h2, h3, hr.below hb hr.lt⟩
theorem EntsOwn.read {w : World} {B : Nat} {v : Value} {es : List Ent} (h : EntsOwn w B v es) (hs : ∀ e ∈ es, e.name.length ≤ maxLen) : EntsA w v es := by
  obtain ⟨G, c, rfl, h1, h2, h3, hr⟩ := h
  refine ⟨_, c, rfl, by omega, fun i hi => ⟨G, 0, rfl, hr.lt, ?_, ?_, hs _ (List.getElem_mem hi)⟩⟩
  · have h4 := hr.cell (j := i * 2) (by omega)
    rw [Nat.zero_add, h4]
    have e1 : i * 2 / 2 = i := by omega
    have e2 : i * 2 % 2 = 0 := by omega
    simp [entsF, entCell, e1, e2, hi]
  · have h4 := hr.cell (j := i * 2 + 1) (by omega)
    rw [Nat.zero_add, h4]
    have e1 : (i * 2 + 1) / 2 = i := by omega
    have e2 : (i * 2 + 1) % 2 = 1 := by omega
    simp [entsF, entCell, e1, e2, hi]
theorem ents_step {es : List Ent} {k : Nat} (h : k < es.length) (j : Nat) : (if j = k * 2 + 1 then .int .i64 es[k].node else if j = k * 2 then .string (bs es[k].name) else entsF (es.take k) j) = entsF (es.take (k + 1)) j := by
  unfold entsF
  by_cases h1 : j = k * 2 + 1
  · subst h1
    have e1 : (k * 2 + 1) / 2 = k := by omega
    have e2 : (k * 2 + 1) % 2 = 1 := by omega
    rw [if_pos rfl, e1, e2, List.getElem?_take, if_pos (by omega), List.getElem?_eq_getElem h]; rfl
  · by_cases h2 : j = k * 2
    · subst h2
      have e1 : k * 2 / 2 = k := by omega
      have e2 : k * 2 % 2 = 0 := by omega
      rw [if_neg (by omega), if_pos rfl, e1, e2, List.getElem?_take, if_pos (by omega), List.getElem?_eq_getElem h]; rfl
    · rw [if_neg h1, if_neg h2, List.getElem?_take, List.getElem?_take]
      by_cases h3 : j / 2 < k
      · rw [if_pos h3, if_pos (by omega)]
      · rw [if_neg h3, if_neg (by omega)]

set_option maxHeartbeats 1000000 in
theorem toEntryS_any (es : List Ent) (v : Value) (w : World) (hR : EntsA w v es) (hl : es.length ≤ 1048576) : Calls Try.prog 61 #[v] w fun e w' => ∃ u, e = .returned u ∧ EntsOwn w' w.heap.size u es ∧ Below w.heap.size w w' := by
  obtain ⟨i0, hi, hz0, hz1, hz2⟩ := info_parts entInfo
  obtain ⟨o, c, rfl, hm, hH⟩ := hR
  have HH := Lib.hid hH
  clear hH
  unfold maxLen at hm
  go_enter Try.func61, Try.ntmps61
  go_wp2_with (at_make; refine wpList_make_full _ rfl _ _ 63 rfl w.heap.size 67 i0 (.agg #[.string ⟨#[]⟩, .int .i64 0]) 2 Try.underlying63 hi hz0 hz1 _ _ _ _ es.length rfl rfl rfl rfl (by rw [hz2]; omega) (by unfold maxLen; omega) (Nat.le_refl _) ?_)
  intro w1 hown hgrow
  have hb1 : Below w.heap.size w w1 := (Below.refl _ w).grown hgrow (Nat.le_refl _) (fun k e => by cases e)
  have hr1 : RowAt w1 w.heap.size (es.length * 2) 67 (entsF (es.take 0)) := by
    refine RowAt.made hown (fun j hj => ?_)
    have hj' : j < es.length * 2 := hj
    simp only [madeCells, entsF, entCell, ent0, List.take_zero, List.getElem?_nil, Option.getD_none]
    rcases Nat.mod_two_eq_zero_or_one j with h2 | h2
    · simp [hj', h2]; rfl
    · simp [hj', h2]
  clear hown hgrow
  go_wp2
  go_loopw [4] (fun i wr => ∃ k : Nat, k ≤ es.length ∧ i = .int .i64 k ∧ RowAt wr w.heap.size (es.length * 2) 67 (entsF (es.take k)) ∧ Below w.heap.size w wr) (fun i _ => es.length - (intOf i).toNat)
  case atStart => exact ⟨0, Nat.zero_le _, rfl, hr1, hb1⟩
  case round =>
    obtain ⟨k, hk, rfl, hr, hB⟩ := hrel
    by_cases hlt : k < es.length
    · obtain ⟨g, off, rfl, hg, hc1, hc2, hml⟩ := HH.out k hlt
      have d1 : wr.cell? ⟨g, off + k * 2, none⟩ = some (.string (bs es[k].name)) := (hB.cell (p := ⟨g, off + k * 2, none⟩) hg).trans hc1
      have d2 : wr.cell? ⟨g, off + k * 2 + 1, none⟩ = some (.int .i64 es[k].node) := (hB.cell (p := ⟨g, off + k * 2 + 1, none⟩) hg).trans hc2
      have HST := Lib.hid (ents_step hlt)
      have HRr := Lib.hid hr
      obtain ⟨x, hx⟩ : ∃ x, x = bs es[k].name := ⟨_, rfl⟩
      rw [← hx] at d1 HST
      clear hx hml hc1 hc2 hr hr1
      go_wp2_with fail
      refine (toEntry_any _ _ _).mono ?_
      rintro e w2 ⟨rfl, hb2⟩
      have hr2 := HRr.out.below hb2 HRr.out.lt
      have b0 := hr2.cell (j := k * 2) (by omega)
      have b1 := hr2.cell (j := k * 2 + 1) (by omega)
      have b2 := hr2.frozen (k * 2)
      have b3 := hr2.frozen (k * 2 + 1)
      have HR3 := Lib.hid (((hr2.set (k * 2) (.string x)).set (k * 2 + 1) (.int .i64 es[k].node)).congr (fun j _ => HST.out j))
      have HB3 := Lib.hid (((hB.trans (hb2.mono hB.size)).setCell (p := ⟨w.heap.size, k * 2, none⟩) (Nat.le_refl _) (.string x)).setCell (p := ⟨w.heap.size, k * 2 + 1, none⟩) (Nat.le_refl _) (.int .i64 es[k].node))
      clear hr2 hb2
      go_wp2
      go_roundw
      case rel => exact ⟨k + 1, hlt, by go_num, HR3.out, HB3.out⟩
      case measure => simp [intOf]; omega
    · have HT : Hid (es.take k = es) := Lib.hid (List.take_of_length_le (by omega))
      rw [HT.out] at hr
      go_wp2
      go_ret
      exact ⟨_, rfl, ⟨_, _, rfl, Nat.le_refl _, by unfold maxLen; omega, Nat.le_refl _, hr⟩, hB⟩
end Go.Proofs.Ytbmbbioanlcioaa
