/-
  What a slice of texts that came in gives: it reads as a list of texts.
  Conditions: as it states.
-/
import Derived.Test.YtpdnhaaedibbaaaHelpC
import Derived.Deep.Strs
namespace Go.Proofs.Ytpdnhaaedibbaaa
open Go.ChangeShapes Go.WideShapes Go.ChangeAt Go.RowKit Go.Joins

theorem cellsStr : Try.prog.cellsOf 9 = 1 := by kernel_rfl

theorem open_strsA {H : Type} {enc : TypeId × Value → H} {W : World} {base : Nat} {v : Value} {d : DataW H} {p : List MemPlace} (hval : Value.okWide Try.prog W .any base 28 v) (h : DataW.Trod enc Try.prog W 0 (fun _ => true) true 28 v d p) :
    ∃ ps, RdA W v ps := by
  obtain ⟨o, n, c, rfl⟩ := okWide_slice Try.underlying28 hval
  obtain ⟨fuel, hf⟩ := h
  rcases Go.Deep.open_strs Try.underlying28 Try.underlying9 cellsStr hf with ⟨hcs, hx⟩ | ⟨a, len, cap, m, Sx, hcs, _, hl, hm, hmm, hx, hcell⟩
  · simp [Value.cells] at hcs
    obtain ⟨rfl, rfl, rfl⟩ := hcs
    exact ⟨[], none, 0, rfl, Nat.zero_le _, fun i hi => absurd hi (by simp)⟩
  · simp [Value.cells] at hcs
    obtain ⟨rfl, rfl, rfl⟩ := hcs
    simp only [if_true] at hmm
    refine ⟨(List.range n).map fun i => (Sx i).data.toList, _, c, by rw [List.length_map, List.length_range], by rw [List.length_map, List.length_range]; omega, fun i hi => ?_⟩
    rw [List.length_map, List.length_range] at hi
    obtain ⟨hc, hs⟩ := hcell i (by omega)
    have hb := World.block_lt_of_cell? W _ hc
    rw [block_add] at hb
    refine ⟨a, rfl, hb, ?_, ?_⟩
    · rw [hc]; simp [bs_of]
    · simpa using hs
end Go.Proofs.Ytpdnhaaedibbaaa
