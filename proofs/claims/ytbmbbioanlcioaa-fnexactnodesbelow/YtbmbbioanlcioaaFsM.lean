
/-
  File systems as plain data: entries, nodes, a list of nodes; how they read in memory.
  Conditions: as each states.
-/
import Derived.Test.YtbmbbioanlcioaaBase
import Derived.Test.YtbmbbioanlcioaaPathM
import Derived.Laws.OwnMore
namespace Go.Proofs.Ytbmbbioanlcioaa
open Go.ChangeShapes Go.WideShapes Go.ChangeAt Go.RowKit Go.Joins
set_option linter.unusedVariables false

structure Ent where
  name : List UInt8
  node : Int
structure Nod where
  kind : Int
  mode : Int
  uid : Int
  gid : Int
  time : Int
  data : List UInt8
  list : List Ent
structure FsD where
  nodes : List Nod
  room : Int

theorem addBlock (a : Addr) (i : Nat) : (a.add i).block = a.block := by unfold Addr.add; split <;> rfl

/-- The value reads as a list of entries, wherever it lies. -/
def EntsA (w : World) (v : Value) (es : List Ent) : Prop :=
  ∃ o c, v = .slice o es.length c ∧ es.length ≤ maxLen ∧ ∀ i (h : i < es.length), ∃ g off, o = some ⟨g, off, none⟩ ∧ g < w.heap.size ∧ w.cell? ⟨g, off + i * 2, none⟩ = some (.string (bs es[i].name)) ∧ w.cell? ⟨g, off + i * 2 + 1, none⟩ = some (.int .i64 es[i].node) ∧ es[i].name.length ≤ maxLen

theorem EntsA.below {w w' : World} {v : Value} {es : List Ent} (h : EntsA w v es) (hb : Below w.heap.size w w') : EntsA w' v es := by
  obtain ⟨o, c, rfl, hm, hH⟩ := h
  refine ⟨o, c, rfl, hm, fun i hi => ?_⟩
  obtain ⟨g, off, e, hg, h1, h2, h3⟩ := hH i hi
  exact ⟨g, off, e, Nat.lt_of_lt_of_le hg hb.size, (hb.cell (p := ⟨g, off + i * 2, none⟩) hg).trans h1, (hb.cell (p := ⟨g, off + i * 2 + 1, none⟩) hg).trans h2, h3⟩

def lensE (es : List Ent) : Nat := (es.map fun e => e.name.length).sum
theorem lensE_take {es : List Ent} {k : Nat} (h : k < es.length) : lensE (es.take (k + 1)) = lensE (es.take k) + es[k].name.length := by
  unfold lensE; rw [List.take_succ_eq_append_getElem h]; simp only [List.map_append, List.sum_append, List.map_cons, List.map_nil, List.sum_cons, List.sum_nil, Nat.add_zero]
theorem lensE_pre (es : List Ent) (k : Nat) : lensE (es.take k) ≤ lensE es := by
  conv => rhs; rw [← List.take_append_drop k es]
  unfold lensE; rw [List.map_append, List.sum_append]; omega

/-- left without n, -1 where that is too much. -/
def lessR (n : Nat) (left : Int) : Int := if (n : Int) ≤ left then left - n else -1

set_option maxHeartbeats 1000000 in
theorem szEntry_any (x : ByteArray) (k : Int) (left : Int) (w : World) (h0 : 0 ≤ left) (h1 : left ≤ 1048576) (hx : x.size ≤ 9223372036854775807) :
    Calls Try.prog 79 #[.agg #[.string x, .int .i64 k], .int .i64 left] w fun e w' => e = .returned (.int .i64 (lessR x.size left)) ∧ Below w.heap.size w w' := by
  by_cases h : (x.size : Int) ≤ left
  · have HR : Hid (lessR x.size left = left - x.size) := Lib.hid (by unfold lessR; rw [if_pos h])
    have h2 : 0 ≤ left - (x.size : Int) := by omega
    go_enter Try.func79, Try.ntmps79
    go_wp2
    go_ret
    exact ⟨ret_int HR.out.symm, (Below.refl _ _).alloc (Nat.le_refl _) _⟩
  · have HR : Hid (lessR x.size left = -1) := Lib.hid (by unfold lessR; rw [if_neg h])
    have h2 : left - (x.size : Int) < 0 := by omega
    go_enter Try.func79, Try.ntmps79
    go_wp2
    go_ret
    exact ⟨ret_int HR.out.symm, (Below.refl _ _).alloc (Nat.le_refl _) _⟩

set_option maxHeartbeats 1000000 in
theorem szEntryS_any (es : List Ent) (v : Value) (w : World) (left : Int) (hR : EntsA w v es) (h0 : 0 ≤ left) (hl : left ≤ 1048576) : Calls Try.prog 56 #[v, .int .i64 left] w fun e w' => e = .returned (.int .i64 (lessR (es.length + lensE es) left)) ∧ Below w.heap.size w w' := by
  obtain ⟨o, c, rfl, hm, hH⟩ := hR
  have HH := Lib.hid hH
  clear hH
  unfold maxLen at hm
  by_cases hq : left < es.length
  · have HZ : Hid (lessR (es.length + lensE es) left = -1) := Lib.hid (by unfold lessR; rw [if_neg (by omega)])
    go_enter Try.func56, Try.ntmps56
    go_wp2
    go_ret
    exact ⟨ret_int HZ.out.symm, Below.refl _ _⟩
  · have h0' : (es.length : Int) ≤ left := by omega
    go_enter Try.func56, Try.ntmps56
    go_wp2
    go_loopw [1, 5] (fun t i wr => ∃ k : Nat, k ≤ es.length ∧ i = .int .i64 k ∧ (es.length : Int) + lensE (es.take k) ≤ left ∧ t = .int .i64 (left - es.length - lensE (es.take k)) ∧ Below w.heap.size w wr) (fun _ i _ => es.length - (intOf i).toNat)
    case atStart => exact ⟨0, Nat.zero_le _, rfl, by simpa [lensE] using h0', by simp [lensE], Below.refl _ _⟩
    case round =>
      obtain ⟨k, hk, rfl, hA, rfl, hB⟩ := hrel
      by_cases hlt : k < es.length
      · obtain ⟨g, off, rfl, hg, hc1, hc2, hml⟩ := HH.out k hlt
        have HS := Lib.hid (lensE_take hlt)
        have d1 : wr.cell? ⟨g, off + k * 2, none⟩ = some (.string (bs es[k].name)) := (hB.cell (p := ⟨g, off + k * 2, none⟩) hg).trans hc1
        have d2 : wr.cell? ⟨g, off + k * 2 + 1, none⟩ = some (.int .i64 es[k].node) := (hB.cell (p := ⟨g, off + k * 2 + 1, none⟩) hg).trans hc2
        have HZ : Hid ((bs es[k].name).size = es[k].name.length) := Lib.hid (bs_size _)
        have hx : (bs es[k].name).size ≤ 9223372036854775807 := by rw [HZ.out]; unfold maxLen at hml; omega
        obtain ⟨x, hxx⟩ : ∃ x, x = bs es[k].name := ⟨_, rfl⟩
        rw [← hxx] at d1 hx HZ
        clear hc1 hc2 hxx hml
        by_cases hlt2 : (x.size : Int) ≤ left - es.length - lensE (es.take k)
        · have HQ : Hid (lessR x.size (left - es.length - lensE (es.take k)) = left - es.length - lensE (es.take k) - x.size) := Lib.hid (by unfold lessR; rw [if_pos hlt2])
          have h3 : 0 ≤ left - (es.length : Int) - (lensE (es.take k) : Int) - (x.size : Int) := by omega
          go_wp2_with fail
          refine (szEntry_any _ _ _ _ (by omega) (by omega) hx).mono ?_
          rintro e w1 ⟨rfl, hb1⟩
          rw [HQ.out]
          go_wp2
          go_roundw
          case rel => exact ⟨k + 1, hlt, by go_num, by rw [HS.out, ← HZ.out]; omega, by rw [HS.out, ← HZ.out]; go_num, hB.trans (hb1.mono hB.size)⟩
          case measure => simp [intOf]; omega
        · have HQ : Hid (lessR x.size (left - es.length - lensE (es.take k)) = -1) := Lib.hid (by unfold lessR; rw [if_neg hlt2])
          have HR : Hid (lessR (es.length + lensE es) left = -1) := Lib.hid (by
            have h1 := lensE_pre es (k + 1)
            rw [HS.out, ← HZ.out] at h1
            unfold lessR; rw [if_neg (by omega)])
          go_wp2_with fail
          refine (szEntry_any _ _ _ _ (by omega) (by omega) hx).mono ?_
          rintro e w1 ⟨rfl, hb1⟩
          rw [HQ.out]
          go_wp2
          go_ret
          exact ⟨ret_int HR.out.symm, hB.trans (hb1.mono hB.size)⟩
      · have HT : Hid (es.take k = es) := Lib.hid (List.take_of_length_le (by omega))
        have HR : Hid (lessR (es.length + lensE es) left = left - es.length - lensE (es.take k)) := Lib.hid (by rw [HT.out] at hA ⊢; unfold lessR; rw [if_pos (by omega)]; omega)
        go_wp2
        go_ret
        exact ⟨ret_int HR.out.symm, hB⟩
end Go.Proofs.Ytbmbbioanlcioaa
