
/-
  wayOf and the closure that keeps the ways.
  Conditions: at most 41 names of at most 8 bytes each.
-/
import Derived.Test.YtbmbbioanlcioaaWayA
import Derived.Test.YtbmbbioanlcioaaDeepB
import Derived.Test.YtbmbbioanlcioaaShelf
import Derived.Deep.AppendLies
namespace Go.Proofs.Ytbmbbioanlcioaa
open Go.ChangeShapes Go.WideShapes Go.ChangeAt Go.RowKit Go.Joins
set_option linter.unusedVariables false
set_option linter.unusedSimpArgs false

theorem map_dataW (ps : List (List UInt8)) : (ps.map bs).map (fun x => x.data.toList) = ps := by
  rw [List.map_map]
  conv => rhs; rw [← List.map_id ps]
  exact List.map_congr_left fun p _ => bs_list p
theorem wayB_join {ps : List (List UInt8)} (h : ps ≠ []) : Lib.join ps [47] = wayB ps := by
  unfold wayB
  rw [if_neg h, ← join_slashed ps h]; rfl
theorem join_rdW {ps : List (List UInt8)} {v : Value} {w : World} (h : Rd w v ps) (h0 : ps ≠ []) (hlen : (wayB ps).length ≤ 140737488355328) (hn : ps.length ≤ 140737488355328) :
    Calls Try.prog 62 #[v, .string ⟨#[47]⟩] w fun e w' => e = .returned (.string (bs (wayB ps))) ∧ Below w.heap.size w w' := by
  obtain ⟨o, c, rfl, hlc, hcm, hH⟩ := h
  have hp : 0 < ps.length := List.length_pos_iff.2 h0
  obtain ⟨g, off, rfl, hg, _⟩ := hH 0 hp
  have hlen' : (Lib.join ((ps.map bs).map (fun x => x.data.toList)) (ByteArray.mk #[47]).data.toList).length ≤ 140737488355328 := by rw [map_dataW]; exact (wayB_join h0) ▸ hlen
  have hx := Try.strings_Join g off c (ps.map bs) ⟨#[47]⟩ w (fun j x hx => by
    rw [List.getElem?_map] at hx
    obtain ⟨p, hp1, rfl⟩ := Option.map_eq_some_iff.1 hx
    obtain ⟨hj, rfl⟩ := List.getElem?_eq_some_iff.1 hp1
    obtain ⟨g', off', e, _, hc⟩ := hH j hj
    simp only [Option.some.injEq, Addr.mk.injEq, and_true] at e
    obtain ⟨rfl, rfl⟩ := e
    exact hc) hg (by simpa using hn) (by simpa using hlc) hlen'
  rw [List.length_map] at hx
  refine hx.mono fun e w' ⟨he, hb⟩ => ⟨?_, hb⟩
  rw [he, map_dataW]
  exact congrArg (fun l => Ending.returned (.string (bs l))) (wayB_join h0)
set_option maxHeartbeats 1000000 in
theorem wayOf_any (ps : List (List UInt8)) (v : Value) (w : World) (h : Rd w v ps) (hn : ps.length ≤ 41) (hp : ∀ p ∈ ps, p ≠ [46] ∧ p.length ≤ 8) : Calls Try.prog 47 #[v] w fun e w' => e = .returned (.string (bs (wayB ps))) ∧ Below w.heap.size w w' := by
  have HR := Lib.hid h
  have HZ := Lib.hid (wayB_size (fun p hq => (hp p hq).2))
  obtain ⟨o, c, rfl, hlc, hcm, hH⟩ := h
  have HP := Lib.hid hp
  clear hH hp
  by_cases h0 : ps = []
  · subst h0
    go_enter Try.func47, Try.ntmps47
    go_wp2
    go_ret
    exact ⟨rfl, Below.refl _ _⟩
  · have H0 := Lib.hid h0
    have hpos : 0 < ps.length := List.length_pos_iff.2 h0
    clear h0
    go_enter Try.func47, Try.ntmps47
    go_wp2_with fail
    refine (join_rdW HR.out H0.out (by have := HZ.out; omega) (by omega)).mono ?_
    rintro e w1 ⟨rfl, hb⟩
    have HB := Lib.hid hb
    clear hb
    go_wp2
    go_ret
    exact ⟨rfl, HB.out⟩

theorem row_ne_boxS {w : World} {B d n : Nat} {v : Value} {xs : List Value} {z : Value} (h : w.ownsRow B 9 1 v n xs) (hb : w.heap[d]? = some (.cells #[z] 26)) : v.ownBlock ≠ some d := by
  rcases h.2 with ⟨rfl, _⟩ | ⟨g, cap, cur, rfl, hB, hg, _⟩
  · simp [Value.ownBlock]
  · intro e
    simp [Value.ownBlock] at e
    subst e
    rw [hg] at hb
    simp at hb
/-- A list grew in place or stands anew. -/
def NewB (S : Nat) (v v' : Value) : Prop := v'.ownBlock = v.ownBlock ∨ ∃ g, v'.ownBlock = some g ∧ S ≤ g
set_option maxRecDepth 100000 in
set_option maxHeartbeats 4000000 in
theorem ways_visit (bd i : Nat) (ps ws : List (List UInt8)) (nm v : Value) (B : Nat) (w : World) (hB : B ≤ bd) (hbd : w.heap[bd]? = some (.cells #[v] 26)) (hL : Lst w B v ws) (hN : Lst w B nm ps) (hn : ps.length ≤ 41) (hp : ∀ p ∈ ps, p ≠ [46] ∧ p.length ≤ 8) (hws : ws.length ≤ 50000000) :
    Calls Try.prog 46 #[.int .i64 (i : Int), nm, .pointer (some ⟨bd, 0, none⟩)] w fun e w' => e = .returned (.tuple #[]) ∧ ∃ v', w'.heap[bd]? = some (.cells #[v'] 26) ∧ Lst w' B v' (ws ++ [wayB ps]) ∧ Eff w w' bd v.ownBlock ∧ NewB w.heap.size v v' := by
  obtain ⟨i0, hi0, hz0, hz1, hz2⟩ := info_parts strInfo
  have HBX := Lib.hid hbd
  have HL := Lib.hid hL
  have HNE := Lib.hid (row_ne_boxS hL hbd)
  have HNM := Lib.hid (hN.read.below (Below.refl w.heap.size w).drew)
  have HP := Lib.hid hp
  have hbl := lt_of_heap hbd
  have k0 : w.cell? ⟨bd, 0, none⟩ = some v := cell_blk hbd 0
  have kd : w.drew.cell? ⟨bd, 0, none⟩ = some v := k0
  obtain ⟨oo, cc, rfl, hoo⟩ := owns_form hL
  obtain ⟨on, cn, rfl, hon⟩ := owns_form hN
  clear hbd hL hN hp hoo hon
  go_enter Try.func46, Try.ntmps46
  go_wp2_with fail
  go_region_law (first
    | (refine step_append_keep _ rfl (.tmp 5) (.tmp 8) 26 rfl B 9 i0 (.string ⟨#[]⟩) 1 16 Try.underlying26 hi0 hz0 hz1 hz2 rfl (by decide) (.slice oo ws.length cc) ws.length (strs ws) (by simp [Act.eval, Act.put]) (World.ownsRow.alloc HL1.out (.cells #[.string (bs (wayB ps))] 9)) ⟨w1.heap.size, 0, none⟩ 1 1 [.string (bs (wayB ps))] (by decide) (by simp [Act.eval, Act.put]) rfl (cell_one_new w1 (.string (bs (wayB ps))) 9) (by simp [Value.oneCell']) (by unfold maxLen; omega) (by omega) (by simp; omega) ?_; intro v6 w6 hown6 hgrow6 hkeep6 hsame6; obtain ⟨oo6, cc6, rfl, -⟩ := owns_form hown6; have HO6 := Lib.hid hown6; have HS6 := Lib.hid (same_cases hsame6); have HG6 := Lib.hid hgrow6; have HX6 := Lib.hid ((hgrow6.block bd (by simp; omega) (fun e => HNE.out e.symm)).trans HXA1.out); have e6 : w6.cell? ⟨bd, 0, none⟩ = some (.slice oo ws.length cc) := cell_blk HX6.out 0; have f6 := frozen_blk HX6.out 0; clear hown6 hgrow6 hkeep6 hsame6)
    | (go_simp; go_at_call 47; refine (wayOf_any ps _ _ HNM.out hn HP.out).mono ?_; rintro e w1 ⟨rfl, hb1⟩; have HB1 : Hid (Below w.heap.size w w1) := Lib.hid ((Below.refl w.heap.size w).drew.trans hb1); have HL1 : Hid (Lst w1 B (.slice oo ws.length cc) ws) := Lib.hid (lst_below HL.out HB1.out); have HX1 := Lib.hid ((HB1.out.block bd hbl).trans HBX.out); have hs1 := HB1.out.size; have k1 : w1.cell? ⟨bd, 0, none⟩ = some (.slice oo ws.length cc) := cell_blk HX1.out 0; have HXA1 : Hid ((w1.alloc (.cells #[.string (bs (wayB ps))] 9)).heap[bd]? = some (.cells #[.slice oo ws.length cc] 26)) := Lib.hid ((Below.heap_alloc w1 _ _ (by omega)).trans HX1.out); have k2 : (w1.alloc (.cells #[.string (bs (wayB ps))] 9)).cell? ⟨bd, 0, none⟩ = some (.slice oo ws.length cc) := cell_blk HXA1.out 0; clear hb1))
  all_goals
    go_wp2
    go_end0
    refine ⟨rfl, _, heap_setCell_same w6 bd 0 _ _ _ HX6.out, ?_, ?_, ?_⟩
    · have h7 := Lst.snoc (ps := ws) (p := wayB ps) rfl HO6.out
      refine World.ownsRow.kept h7 (row := some bd) ⟨rfl, rfl, rfl, by simp, fun j _ hj => Below.heap_setCell w6 ⟨bd, 0, none⟩ _ j (fun e => hj (by simp [e]))⟩ (.inr ?_)
      exact row_ne_boxS h7 HX6.out
    · exact eff_set (((Eff.of_below _ _ HB1.out).trans (Eff.of_below _ _ ((Below.refl _ w1).alloc (Nat.le_refl _) (.cells #[.string (bs (wayB ps))] 9)))).trans (Eff.of_grown bd HG6.out)) _
    · rcases HS6.out with h8 | h8
      · exact .inl h8
      · exact .inr ⟨_, h8, by simp; omega⟩
end Go.Proofs.Ytbmbbioanlcioaa
