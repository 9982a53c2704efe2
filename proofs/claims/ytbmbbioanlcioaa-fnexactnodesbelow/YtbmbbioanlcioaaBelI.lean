
/-
  The laws' helpers on lists of numbers: eqIntS, markIntS, heldIntS.
  Conditions: as each states.
-/
import Derived.Test.YtbmbbioanlcioaaIntC
import Derived.Test.YtbmbbioanlcioaaMarkC
namespace Go.Proofs.Ytbmbbioanlcioaa
open Go.ChangeShapes Go.WideShapes Go.ChangeAt Go.RowKit Go.Joins
set_option linter.unusedVariables false

theorem rdI_at {w : World} {o : Option Addr} {c n : Nat} {l : List Int} (h : RdI w (.slice o n c) l) (k : Nat) (hk : k < l.length) : ∃ g off, o = some ⟨g, off, none⟩ ∧ g < w.heap.size ∧ w.cell? ⟨g, off + k, none⟩ = some (.int .i64 l[k]) := by
  obtain ⟨o2, c2, e, h1, h2, h0, h3⟩ := h
  simp only [Value.slice.injEq] at e
  obtain ⟨rfl, rfl, rfl⟩ := e
  cases o with
  | none => have := h0 rfl; omega
  | some a =>
    obtain ⟨g, off, rfl, hg, hc⟩ := h3 a rfl
    exact ⟨g, off, rfl, hg, hc k hk⟩
set_option maxHeartbeats 1000000 in
theorem eqIntS_same (ps : List Int) (u v : Value) (w : World) (hU : RdI w u ps) (hV : RdI w v ps) : Calls Try.prog 20 #[u, v] w fun e w' => e = .returned (.bool true) ∧ Below w.heap.size w w' := by
  have HU := Lib.hid hU
  have HV := Lib.hid hV
  obtain ⟨o1, c1, rfl, hl1, hm1, -, -⟩ := hU
  obtain ⟨o2, c2, rfl, hl2, hm2, -, -⟩ := hV
  unfold maxLen at hm1 hm2
  go_enter Try.func20, Try.ntmps20
  go_wp2
  go_loopw [5] (fun i wr => ∃ k m : Nat, k ≤ ps.length ∧ i = .int .i64 k ∧ wr = w.drewN m) (fun i _ => ps.length - (intOf i).toNat)
  case atStart => exact ⟨0, 0, Nat.zero_le _, rfl, rfl⟩
  case round =>
    obtain ⟨k, m, hk, rfl, rfl⟩ := hrel
    by_cases hlt : k < ps.length
    · obtain ⟨g1, f1, rfl, _, hc1⟩ := rdI_at HU.out k hlt
      obtain ⟨g2, f2, rfl, _, hc2⟩ := rdI_at HV.out k hlt
      obtain ⟨x, hx⟩ : ∃ x, x = ps[k] := ⟨_, rfl⟩
      rw [← hx] at hc1 hc2
      clear hx
      go_wp2
      go_quiet (fail)
      go_wp2
      go_roundw
      case rel => exact ⟨k + 1, _, hlt, by go_num, rfl⟩
      case measure => simp [intOf]; omega
    · go_wp2
      go_ret
      exact ⟨rfl, ⟨rfl, rfl, rfl, Nat.le_refl _, fun _ _ => rfl⟩⟩

def marksI (m n : Nat) : List Int := (List.range n).map fun j => ((m + j : Nat) : Int)
theorem marksI_len (m n : Nat) : (marksI m n).length = n := by simp [marksI]
theorem marksI_at (m n k : Nat) (h : k < (marksI m n).length) : (marksI m n)[k] = ((m + k : Nat) : Int) := by simp [marksI]
theorem markI_old {m k : Nat} {ps : List Int} (h : k < ps.length) : ((List.range k).map (fun j => Value.int .i64 ((m + j : Nat) : Int)) ++ ints (ps.drop k))[k]? = some (.int .i64 ps[k]) := by
  rw [List.getElem?_append_right (by simp)]
  simp [ints, h]
theorem markI_set {m k : Nat} {ps : List Int} (h : k < ps.length) : ((List.range k).map (fun j => Value.int .i64 ((m + j : Nat) : Int)) ++ ints (ps.drop k)).set k (.int .i64 ((m + k : Nat) : Int)) = (List.range (k + 1)).map (fun j => Value.int .i64 ((m + j : Nat) : Int)) ++ ints (ps.drop (k + 1)) := by
  rw [List.set_append_right _ _ (by simp)]
  have e : ps.drop k = ps[k] :: ps.drop (k + 1) := List.drop_eq_getElem_cons h
  have e2 : ints (ps.drop k) = .int .i64 ps[k] :: ints (ps.drop (k + 1)) := by rw [e]; rfl
  rw [e2, List.range_succ, List.map_append, List.append_assoc]
  simp only [List.length_map, List.length_range, Nat.sub_self, List.set_cons_zero, List.map_cons, List.map_nil, List.cons_append, List.nil_append]
set_option maxHeartbeats 1000000 in
theorem markIntS_some (ps : List Int) (g cap B m : Nat) (w : World) (hL : w.ownsRow B 3 1 (.slice (some ⟨g, 0, none⟩) ps.length cap) ps.length (ints ps)) (hB0 : B ≤ w.heap.size) (hl : m + ps.length ≤ 90000000) :
    Calls Try.prog 21 #[.slice (some ⟨g, 0, none⟩) ps.length cap, .int .i64 m] w fun e w' => e = .returned (.int .i64 (m + ps.length)) ∧ LstI w' B (.slice (some ⟨g, 0, none⟩) ps.length cap) (marksI m ps.length) ∧ Below B w w' := by
  have hgB : B ≤ g ∧ g < w.heap.size := hL.lt g rfl
  have hcap : ps.length ≤ cap := by
    rcases hL.2 with ⟨e, _⟩ | ⟨g', cap', cur, e, _, _, hn, _⟩
    · cases e
    · simp only [Value.slice.injEq, Option.some.injEq, Addr.mk.injEq, and_true, true_and] at e
      omega
  go_enter Try.func21, Try.ntmps21
  go_wp2
  go_loopw [1, 5] (fun t i wr => ∃ k : Nat, k ≤ ps.length ∧ i = .int .i64 k ∧ t = .int .i64 ((m + k : Nat) : Int) ∧ wr.ownsRow B 3 1 (.slice (some ⟨g, 0, none⟩) ps.length cap) ps.length ((List.range k).map (fun j => Value.int .i64 ((m + j : Nat) : Int)) ++ ints (ps.drop k)) ∧ Below B w wr) (fun _ i _ => ps.length - (intOf i).toNat)
  case atStart => exact ⟨0, Nat.zero_le _, rfl, rfl, by simpa using hL, Below.refl _ _⟩
  case round =>
    obtain ⟨k, hk, rfl, rfl, hown, hB⟩ := hrel
    by_cases hlt : k < ps.length
    · have hold := (hown.cellAt k (by omega)).trans (markI_old hlt)
      have hfz := hown.frozenAt k
      obtain ⟨hs1, hs2⟩ := hown.stored k (.int .i64 ((m + k : Nat) : Int))
      rw [markI_set hlt] at hs1
      have hb2 : Below B w (wr.setCell ⟨g, k, none⟩ (.int .i64 ((m + k : Nat) : Int))) := hB.setCell (p := ⟨g, k, none⟩) hgB.1 _
      have HS1 := Lib.hid hs1
      have HB2 := Lib.hid hb2
      clear hs1 hs2 hb2 hown
      go_wp2
      go_roundw
      case rel => exact ⟨k + 1, hlt, by go_num, by go_num, HS1.out, HB2.out⟩
      case measure => simp [intOf]; omega
    · obtain rfl : k = ps.length := by omega
      have HL : Hid (LstI wr B (.slice (some ⟨g, 0, none⟩) ps.length cap) (marksI m ps.length)) := Lib.hid (by
        unfold LstI
        rw [marksI_len, show ints (marksI m ps.length) = (List.range ps.length).map (fun j => Value.int .i64 ((m + j : Nat) : Int)) by unfold ints marksI; rw [List.map_map]; rfl]
        have h := hown
        rw [List.drop_length] at h
        simp only [ints, List.map_nil, List.append_nil] at h
        exact h)
      clear hown
      go_wp2
      go_ret
      exact ⟨ret_int (by simp), HL.out, hB⟩
set_option maxHeartbeats 1000000 in
theorem heldIntS_some (n m : Nat) (v : Value) (w : World) (hR : RdI w v (marksI m n)) (hl : m + n ≤ 90000000) :
    Calls Try.prog 22 #[v, .int .i64 m] w fun e w' => e = .returned (.int .i64 (m + n)) ∧ Below w.heap.size w w' := by
  have HR := Lib.hid hR
  obtain ⟨o, c, rfl, hlc, hcm, -, -⟩ := hR
  have hlen := marksI_len m n
  have HH : Hid (∀ i, i < n → ∃ g off, o = some ⟨g, off, none⟩ ∧ g < w.heap.size ∧ w.cell? ⟨g, off + i, none⟩ = some (.int .i64 ((m + i : Nat) : Int))) := Lib.hid (fun i hi => by
    obtain ⟨g, off, e, hg, hc⟩ := rdI_at HR.out i (by omega)
    refine ⟨g, off, e, hg, ?_⟩
    rw [hc, marksI_at])
  rw [hlen] at hlc ⊢
  clear hlen
  unfold maxLen at hcm
  go_enter Try.func22, Try.ntmps22
  go_wp2
  go_loopw [1, 5] (fun t i wr => ∃ k : Nat, k ≤ n ∧ i = .int .i64 k ∧ t = .int .i64 ((m + k : Nat) : Int) ∧ Below w.heap.size w wr) (fun _ i _ => n - (intOf i).toNat)
  case atStart => exact ⟨0, Nat.zero_le _, rfl, rfl, Below.refl _ _⟩
  case round =>
    obtain ⟨k, hk, rfl, rfl, hB⟩ := hrel
    by_cases hlt : k < n
    · obtain ⟨g, off, rfl, hg, hc⟩ := HH.out k hlt
      have hcell : wr.cell? ⟨g, off + k, none⟩ = some (.int .i64 ((m + k : Nat) : Int)) := (hB.cell (p := ⟨g, off + k, none⟩) hg).trans hc
      have HB := Lib.hid hB
      clear hc hB
      go_wp2
      try (go_quiet (fail); go_wp2)
      go_roundw
      case rel => exact ⟨k + 1, hlt, by go_num, by go_num, by first | exact HB.out | exact HB.out.drew⟩
      case measure => simp [intOf]; omega
    · obtain rfl : k = n := by omega
      go_wp2
      go_ret
      exact ⟨ret_int (by simp), hB⟩
set_option maxHeartbeats 400000 in
theorem markIntS_any (ps : List Int) (v : Value) (B m : Nat) (w : World) (hL : LstI w B v ps) (hB0 : B ≤ w.heap.size) (hl : m + ps.length ≤ 90000000) :
    Calls Try.prog 21 #[v, .int .i64 m] w fun e w' => e = .returned (.int .i64 (m + ps.length)) ∧ LstI w' B v (marksI m ps.length) ∧ Below B w w' := by
  rcases hL.2 with ⟨rfl, h0⟩ | ⟨g, cap, cur, rfl, rest⟩
  · obtain rfl : ps = [] := List.eq_nil_of_length_eq_zero h0
    clear hL h0
    go_enter Try.func21, Try.ntmps21
    go_wp2
    go_rounds 1
    go_ret
    exact ⟨ret_int (by simp), World.ownsRow_nil _ _ _ _, Below.refl _ _⟩
  · exact markIntS_some ps g cap B m w hL hB0 hl
theorem lstI_below {w w' : World} {B : Nat} {v : Value} {ps : List Int} (h : LstI w B v ps) (hb : Below w.heap.size w w') : LstI w' B v ps := by
  refine World.ownsRow.kept h (row := none) ⟨hb.os, hb.tape, hb.output, hb.size, fun i hi _ => hb.block i hi⟩ ?_
  rcases h.2 with ⟨rfl, _⟩ | ⟨g, cap, cur, rfl, _⟩
  · exact .inl rfl
  · exact .inr (by simp [Value.ownBlock])
theorem lstI_mono {w : World} {A B : Nat} {v : Value} {ps : List Int} (h : LstI w B v ps) (hAB : A ≤ B) : LstI w A v ps := by
  rcases h with ⟨hl, hn | ⟨g, cap, cur, e, hB, rest⟩⟩
  · exact ⟨hl, .inl hn⟩
  · exact ⟨hl, .inr ⟨g, cap, cur, e, Nat.le_trans hAB hB, rest⟩⟩
theorem lstI_up {w w' : World} {R E : Nat} {v : Value} {ps : List Int} (h : LstI w R v ps) (hE : E ≤ R) (hs : w.heap.size ≤ w'.heap.size) (hu : ∀ i, E ≤ i → i < w.heap.size → w'.heap[i]? = w.heap[i]?) : LstI w' R v ps := by
  rcases h with ⟨hl, h0 | ⟨g, cap, cur, e, hB, hg, r⟩⟩
  · exact ⟨hl, .inl h0⟩
  · exact ⟨hl, .inr ⟨g, cap, cur, e, hB, (hu g (Nat.le_trans hE hB) (Array.getElem?_eq_some_iff.1 hg).1).trans hg, r⟩⟩
end Go.Proofs.Ytbmbbioanlcioaa
