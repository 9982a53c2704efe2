
/-
  What a file system that came in gives: it reads as plain data, its numbers in their range.
  Conditions: as it states.
-/
import Derived.Test.YtbmbbioanlcioaaFsS
import Derived.Deep.SlicePairs
namespace Go.Proofs.Ytbmbbioanlcioaa
open Go.ChangeShapes Go.WideShapes Go.ChangeAt Go.RowKit Go.Joins
set_option linter.unusedVariables false
set_option maxRecDepth 100000

def wf64 (n : Int) : Prop := (Lit.int .i64 n).wf = true
def EntW (e : Ent) : Prop := wf64 e.node
def NodW (n : Nod) : Prop := wf64 n.kind ∧ wf64 n.mode ∧ wf64 n.uid ∧ wf64 n.gid ∧ wf64 n.time ∧ ∀ e ∈ n.list, EntW e
def FsW (f : FsD) : Prop := wf64 f.room ∧ ∀ n ∈ f.nodes, NodW n

theorem spot_of_cell {w : World} {a : Addr} {v : Value} (h : w.cell? a = some v) : a.spot = none := by
  unfold World.cell? at h
  split at h
  · split at h
    · cases h
    · rename_i hs; cases hq : a.spot with
      | none => rfl
      | some y => rw [hq] at hs; exact absurd rfl hs
  · cases h
theorem add_plain (g off i : Nat) : (⟨g, off, none⟩ : Addr).add i = ⟨g, off + i, none⟩ := by
  unfold Addr.add; split
  · rename_i h; subst h; rfl
  · rfl
/-- An address where cells lie, in plain words. -/
theorem addr_plain {w : World} {a : Addr} {v : Value} (h : w.cell? a = some v) : a = ⟨a.block, a.off, none⟩ := by
  have := spot_of_cell h
  cases a; simp_all

theorem dataLe {s : ByteArray} {n : Nat} (h : s.size ≤ n) : s.data.toList.length ≤ n := by rw [Array.length_toList]; exact h

section
variable {H : Type} {enc : TypeId × Value → H} {W : World}

theorem cellsEnt : Try.prog.cellsOf 105 = 2 := by kernel_rfl
theorem cellsNod : Try.prog.cellsOf 61 = 7 := by kernel_rfl

theorem open_ents {fuel : Nat} {cs : List Value} {x : DataW H × List MemPlace} (h : DataW.trod enc Try.prog W 0 (fun _ => true) true fuel 59 cs = some x) :
    ∃ v es, cs = [v] ∧ EntsA W v es ∧ ∀ e ∈ es, EntW e := by
  rcases Go.Deep.open_slice_pairs Try.underlying59 Try.underlying105 cellsEnt rfl rfl (by kernel_rfl) (by kernel_rfl) h with ⟨rfl, -⟩ | ⟨a, len, cap, m, n, V0, V1, D0, D1, P0, P1, rfl, -, hl, hm, hmm, -, hx⟩
  · exact ⟨_, [], rfl, ⟨none, 0, rfl, Nat.zero_le _, fun i hi => absurd hi (by simp)⟩, by simp⟩
  · simp only [if_true] at hmm
    subst hmm
    have each : ∀ i, i < len → ∃ e : Ent, a = ⟨a.block, a.off, none⟩ ∧ a.block < W.heap.size ∧ W.cell? ⟨a.block, a.off + i * 2, none⟩ = some (.string (bs e.name)) ∧ W.cell? ⟨a.block, a.off + i * 2 + 1, none⟩ = some (.int .i64 e.node) ∧ e.name.length ≤ maxLen ∧ EntW e := by
      intro i hi
      have hp := addr_plain (hx 0 (by omega)).1
      obtain ⟨h0, h1, t0, t1⟩ := hx i (by omega)
      obtain ⟨s, e0, -, hs⟩ := DataW.trod_string Try.underlying9 t0
      obtain ⟨k, e1, -, hk⟩ := DataW.trod_int Try.underlying3 t1
      simp only [List.cons.injEq, and_true] at e0 e1
      rw [e0] at h0
      rw [e1] at h1
      have hb := World.block_lt_of_cell? W _ h0
      rw [addBlock] at hb
      have hpz : a = ⟨a.block, a.off, none⟩ := by simpa [Addr.add] using hp
      rw [hpz, add_plain] at h0 h1
      exact ⟨⟨s.data.toList, k⟩, hpz, hb, by simpa [bs_of] using h0, h1, dataLe hs, hk⟩
    haveI : Inhabited Ent := ⟨⟨[], 0⟩⟩
    obtain ⟨E, hE⟩ := Go.Deep.choose_lt each
    refine ⟨_, (List.range len).map E, rfl, ⟨some a, m, by simp, by simp; omega, fun i hi => ?_⟩, ?_⟩
    · simp at hi
      obtain ⟨h1, h2, h3, h4, h5, h6⟩ := hE i hi
      exact ⟨a.block, a.off, by rw [← h1], h2, by simpa using h3, by simpa using h4, by simpa using h5⟩
    · intro e he
      simp at he
      obtain ⟨i, hi, rfl⟩ := he
      exact (hE i hi).2.2.2.2.2

theorem open_nods {fuel : Nat} {cs : List Value} {x : DataW H × List MemPlace} (h : DataW.trod enc Try.prog W 0 (fun _ => true) true fuel 22 cs = some x) :
    ∃ v ns, cs = [v] ∧ NodsA W v ns ∧ ∀ n ∈ ns, NodW n := by
  rcases Go.Deep.open_slice Try.underlying22 h with ⟨rfl, -⟩ | ⟨a, len, cap, m, n, D, Pl, rfl, -, hl, hm, hmm, -, hx⟩
  · exact ⟨_, [], rfl, ⟨none, 0, rfl, Nat.zero_le _, fun i hi => absurd hi (by simp)⟩, by simp⟩
  · simp only [if_true] at hmm
    subst hmm
    have each : ∀ i, i < len → ∃ q : Nod, a = ⟨a.block, a.off, none⟩ ∧ a.block < W.heap.size ∧ (∃ lv, NodC W a.block (a.off + i * 7) lv q ∧ EntsA W lv q.list) ∧ q.data.length ≤ maxLen ∧ NodW q := by
      intro i hi
      have hp : a = ⟨a.block, a.off, none⟩ := by
        obtain ⟨c, h1, -⟩ := hx 0 (by omega)
        rw [cellsNod] at h1
        obtain ⟨_, hlen, hcell⟩ := World.cells?_some h1
        have h2 := hcell 0 (by omega)
        have h3 : ∃ v, c[0]? = some v := ⟨c[0], List.getElem?_eq_getElem (by omega)⟩
        obtain ⟨v, h3⟩ := h3
        rw [h3] at h2
        simpa [Addr.add] using addr_plain h2
      obtain ⟨c, h1, h2⟩ := hx i (by omega)
      rw [cellsNod] at h1
      obtain ⟨_, hlen, hcell⟩ := World.cells?_some h1
      obtain ⟨xs, k, -, -, -, hxl, hf⟩ := DataW.trod_struct Try.underlying61 h2
      match xs, hxl, c, hlen with
      | [y0, y1, y2, y3, y4, y5, y6], _, [v0, v1, v2, v3, v4, v5, v6], _ =>
        have g0 := hf 0 _ rfl
        have g1 := hf 1 _ rfl
        have g2 := hf 2 _ rfl
        have g3 := hf 3 _ rfl
        have g4 := hf 4 _ rfl
        have g5 := hf 5 _ rfl
        have g6 := hf 6 _ rfl
        have ci : Try.prog.cellsOf 3 = 1 := by kernel_rfl
        have cS : Try.prog.cellsOf 9 = 1 := by kernel_rfl
        have cL : Try.prog.cellsOf 59 = 1 := by kernel_rfl
        simp [ci, cS, cL] at g0 g1 g2 g3 g4 g5 g6
        obtain ⟨n0, e0, -, w0⟩ := DataW.trod_int Try.underlying3 g0
        obtain ⟨n1, e1, -, w1⟩ := DataW.trod_int Try.underlying3 g1
        obtain ⟨n2, e2, -, w2⟩ := DataW.trod_int Try.underlying3 g2
        obtain ⟨n3, e3, -, w3⟩ := DataW.trod_int Try.underlying3 g3
        obtain ⟨n4, e4, -, w4⟩ := DataW.trod_int Try.underlying3 g4
        obtain ⟨s, e5, -, hs⟩ := DataW.trod_string Try.underlying9 g5
        obtain ⟨lv, es, e6, hE, hW⟩ := open_ents g6
        simp only [List.cons.injEq, and_true] at e0 e1 e2 e3 e4 e5 e6
        subst e0 e1 e2 e3 e4 e5 e6
        rw [hp] at hcell
        simp only [add_plain] at hcell
        have c0 := hcell 0 (by omega)
        have hb := World.block_lt_of_cell? W _ c0
        exact ⟨⟨n0, n1, n2, n3, n4, s.data.toList, es⟩, hp, hb, ⟨v6, ⟨c0, hcell 1 (by omega), hcell 2 (by omega), hcell 3 (by omega), hcell 4 (by omega), by rw [bs_of]; exact hcell 5 (by omega), hcell 6 (by omega)⟩, hE⟩, dataLe hs, w0, w1, w2, w3, w4, hW⟩
    haveI : Inhabited Nod := ⟨⟨0, 0, 0, 0, 0, [], []⟩⟩
    obtain ⟨E, hE⟩ := Go.Deep.choose_lt each
    refine ⟨_, (List.range len).map E, rfl, ⟨some a, m, by simp, by simp; omega, fun i hi => ?_⟩, ?_⟩
    · simp at hi
      obtain ⟨h1, h2, ⟨lv, h3, h4⟩, h5, h6⟩ := hE i hi
      exact ⟨a.block, a.off, lv, by rw [← h1], h2, by simpa using h3, by simpa using h4, by simpa using h5⟩
    · intro e he
      simp at he
      obtain ⟨i, hi, rfl⟩ := he
      exact (hE i hi).2.2.2.2

theorem open_fsA {base : Nat} {v : Value} {d : DataW H} {p : List MemPlace} (hval : Value.okWide Try.prog W .any base 24 v) (h : DataW.Trod enc Try.prog W 0 (fun _ => true) true 24 v d p) :
    ∃ f, FsA W v f ∧ FsW f := by
  obtain ⟨v0, v1, y0, y1, m, rfl, -, -, h0, h1⟩ := open_agg2 Try.underlying24 (by kernel_rfl) (by kernel_rfl) hval h
  obtain ⟨nv, ns, e0, hN, hW⟩ := open_nods h0
  obtain ⟨r, e1, -, hr⟩ := DataW.trod_int Try.underlying3 h1
  simp only [List.cons.injEq, and_true] at e0 e1
  subst e0 e1
  exact ⟨⟨ns, r⟩, ⟨_, rfl, hN⟩, hr, hW⟩
end
end Go.Proofs.Ytbmbbioanlcioaa
