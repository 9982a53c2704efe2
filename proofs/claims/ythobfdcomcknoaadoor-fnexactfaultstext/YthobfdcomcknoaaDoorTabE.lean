
/-
  What the listed table impl.codeTexts gives a walk: its eleven words, cell for cell; and a world for a witness that holds it.
  Conditions: as each states.
-/
import Derived.Test.YthobfdcomcknoaaDoorCodeC
import Derived.Test.YthobfdcomcknoaaDoorCards
import Derived.Test.YthobfdcomcknoaaDoorTie
import Derived.Deep.DeepHandedRow
import Derived.Lib.LaidTab
namespace Go.Proofs.YthobfdcomcknoaaDoor
open Go.ChangeShapes Go.WideShapes Go.ChangeAt Go.RowKit Go.Joins

/-- An array of strings that reads as these texts holds them, cell for cell. -/
theorem cells_of_texts {H : Type} {enc : TypeId × Value → H} {P : Program} {w : World} {base : Nat} {sp : Nat → Bool} {held : Bool} {fuel : Nat} {t e : TypeId} {n : Nat} {cs : List Value} {zs : List (List UInt8)} {p : List MemPlace}
    (ht : P.underlying t = some (.array n e)) (he : P.underlying e = some .string) (hce : P.cellsOf e = 1) (hct : P.cellsOf t = n)
    (h : DataW.trod enc P w base sp held fuel t cs = some (.agg (zs.map fun z => .lit (.string z)), p)) : cs = zs.map fun z => Value.string ⟨z.toArray⟩ := by
  cases fuel with
  | zero => simp [DataW.trod] at h
  | succ fuel =>
    simp only [DataW.trod, ht, hce, hct, Nat.mul_one] at h
    split at h
    · rename_i hl
      obtain ⟨xs, hm, hx⟩ := Option.map_eq_some_iff.1 h
      have hxs : xs.map (·.1) = zs.map fun z => (DataW.lit (.string z) : DataW H) := by
        have := congrArg Prod.fst hx
        simpa using this
      have hxl : xs.length = n := by simpa using Lib.mapM_length hm
      have hzl : zs.length = n := by
        have := congrArg List.length hxs
        simp at this
        omega
      apply List.ext_getElem?
      intro i
      rcases Nat.lt_or_ge i n with hi | hi
      · obtain ⟨b, hb, hf⟩ := Lib.mapM_at hm i i (by simp [hi])
        obtain ⟨s, hc, rfl, _⟩ := DataW.trod_string he hf
        have h1 : cs[i]? = some (.string s) := by
          have := congrArg (·[0]?) hc
          simpa [List.getElem?_take, List.getElem?_drop] using this
        have h2 : (xs.map (·.1))[i]? = some (DataW.lit (.string s.data.toList) : DataW H) := by simp [hb]
        rw [hxs] at h2
        simp only [List.getElem?_map, Option.map_eq_some_iff, DataW.lit.injEq, Lit.string.injEq] at h2
        obtain ⟨z', hz', e'⟩ := h2
        rw [h1, List.getElem?_map, hz']
        simp [e']
      · rw [List.getElem?_eq_none (by omega), List.getElem?_eq_none (by simp; omega)]
    · cases h

theorem gTab4 : Tryd.prog.globalNamed "loop.example/g00756/impl.codeTexts" = some 0 := by kernel_rfl
theorem gTab4Type : (Tryd.prog.globals[0]?).map (·.type) = some 55 := by kernel_rfl
theorem cellsTab4 : Tryd.prog.cellsOf 55 = 11 := by kernel_rfl
theorem cellsText4 : Tryd.prog.cellsOf 9 = 1 := by kernel_rfl
theorem tab4_of {W : World} {cs : Array Value} (hvar : W.var? Tryd.prog "loop.example/g00756/impl.codeTexts" = some cs) (hc : cs.toList = words4.map fun z => Value.string ⟨z.toArray⟩) : Tab4 W := by
  have hcell : ∀ i : Nat, W.cell? ⟨0, i, none⟩ = cs[i]? := fun i => World.var?_cell gTab4 hvar i
  have hlen : words4.length = 11 := rfl
  have hcs : ∀ i, i < 11 → cs[i]? = some (.string (bs (words4.getD i []))) := fun i hi => by
    rw [← Array.getElem?_toList, hc, List.getElem?_map, List.getElem?_eq_getElem (by omega)]
    simp [bs, List.getD, hlen, hi]
  refine ⟨?_, fun i hi => (hcell i).trans (hcs i hi)⟩
  have h0 := (hcell 0).trans (hcs 0 (by omega))
  rcases Nat.lt_or_ge 0 W.heap.size with hz | hz
  · exact hz
  · have hn : W.heap[0]? = none := Array.getElem?_eq_none hz
    simp [World.cell?, hn] at h0
theorem table4 {W : World} (h : laidMetH Tryd.prog [("loop.example/g00756/impl.codeTexts", Rows.laid_loop_example_g00756_impl_codeTexts)] W) : Tab4 W := by
  obtain ⟨ps, ⟨g', t', cs, fuel, p, q, hg', ht', hvar, hd, _, _⟩, _⟩ := h
  obtain rfl := Option.some.inj (gTab4.symm.trans hg')
  obtain rfl := Option.some.inj (gTab4Type.symm.trans ht')
  exact tab4_of hvar (cells_of_texts (zs := words4) Tryd.underlying55 Tryd.underlying9 cellsText4 cellsTab4 hd)

theorem vars_one {H : Type} {enc : TypeId × Value → H} {P : Program} {w : World} {sp : Nat → Bool} {n : String} {gs : List (DataW H)} {q : List MemPlace} (h : DataW.TrodVars enc P w sp [n] gs q) : ∃ g, gs = [g] := by
  match gs, h with
  | [g], _ => exact ⟨g, rfl⟩

theorem own : ownKnob Tryd.prog.godebug = none := by kernel_rfl
theorem laidOut : laidOutB Tryd.prog = true := by kernel_rfl

/-- A world for a witness: the settled one, the table holding what its initialiser lays. -/
noncomputable def laidWorld (os : Os) : World :=
  { World.holding Tryd.prog os ⟨#[], #[], []⟩ with heap := (World.holding Tryd.prog os ⟨#[], #[], []⟩).heap.modify 0 fun
      | .cells _ t frozen => .cells (words4.map fun z => Value.string ⟨z.toArray⟩).toArray t frozen
      | o => o }
end Go.Proofs.YthobfdcomcknoaaDoor
