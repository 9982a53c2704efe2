
/-
  Lists of faults (a number and a text each): how they read in memory, the laws' helpers on them.
  Conditions: as each states.
-/
import Derived.Test.YthobfdcomcknoaaDoorPlnL
import Derived.Test.YthobfdcomcknoaaDoorFsM
import Derived.Deep.SlicePairs
import Derived.BigQuiet
import Derived.Deep.QuietTactic
import Derived.Lib.QuietBelow
namespace Go.Proofs.YthobfdcomcknoaaDoor
open Go.ChangeShapes Go.WideShapes Go.ChangeAt Go.RowKit Go.Joins
set_option linter.unusedVariables false
set_option maxRecDepth 100000

/-- The value reads as a list of entries, wherever it lies. -/
def FltsA (w : World) (v : Value) (es : List Ent) : Prop :=
  ∃ o c, v = .slice o es.length c ∧ es.length ≤ maxLen ∧ ∀ i (h : i < es.length), ∃ g off, o = some ⟨g, off, none⟩ ∧ g < w.heap.size ∧ w.cell? ⟨g, off + i * 2, none⟩ = some (.string (bs es[i].name)) ∧ w.cell? ⟨g, off + i * 2 + 1, none⟩ = some (.int .i64 es[i].node) ∧ es[i].name.length ≤ maxLen

theorem FltsA.below {w w' : World} {v : Value} {es : List Ent} (h : FltsA w v es) (hb : Below w.heap.size w w') : FltsA w' v es := by
  obtain ⟨o, c, rfl, hm, hH⟩ := h
  refine ⟨o, c, rfl, hm, fun i hi => ?_⟩
  obtain ⟨g, off, e, hg, h1, h2, h3⟩ := hH i hi
  exact ⟨g, off, e, Nat.lt_of_lt_of_le hg hb.size, (hb.cell (p := ⟨g, off + i * 2, none⟩) hg).trans h1, (hb.cell (p := ⟨g, off + i * 2 + 1, none⟩) hg).trans h2, h3⟩

set_option maxHeartbeats 1000000 in
theorem szFault_any (x : ByteArray) (k : Int) (left : Int) (w : World) (h0 : 0 ≤ left) (h1 : left ≤ 1048576) (hx : x.size ≤ 9223372036854775807) :
    Calls Tryd.prog 9 #[.agg #[.string x, .int .i64 k], .int .i64 left] w fun e w' => e = .returned (.int .i64 (lessR x.size left)) ∧ Below w.heap.size w w' := by
  by_cases h : (x.size : Int) ≤ left
  · have HR : Hid (lessR x.size left = left - x.size) := Lib.hid (by unfold lessR; rw [if_pos h])
    have h2 : 0 ≤ left - (x.size : Int) := by omega
    go_enter Tryd.func9, Tryd.ntmps9
    go_wp2
    go_ret
    exact ⟨ret_int HR.out.symm, (Below.refl _ _).alloc (Nat.le_refl _) _⟩
  · have HR : Hid (lessR x.size left = -1) := Lib.hid (by unfold lessR; rw [if_neg h])
    have h2 : left - (x.size : Int) < 0 := by omega
    go_enter Tryd.func9, Tryd.ntmps9
    go_wp2
    go_ret
    exact ⟨ret_int HR.out.symm, (Below.refl _ _).alloc (Nat.le_refl _) _⟩

set_option maxHeartbeats 1000000 in
theorem szFaultS_any (es : List Ent) (v : Value) (w : World) (left : Int) (hR : FltsA w v es) (h0 : 0 ≤ left) (hl : left ≤ 1048576) : Calls Tryd.prog 4 #[v, .int .i64 left] w fun e w' => e = .returned (.int .i64 (lessR (es.length + lensE es) left)) ∧ Below w.heap.size w w' := by
  obtain ⟨o, c, rfl, hm, hH⟩ := hR
  have HH := Lib.hid hH
  clear hH
  unfold maxLen at hm
  by_cases hq : left < es.length
  · have HZ : Hid (lessR (es.length + lensE es) left = -1) := Lib.hid (by unfold lessR; rw [if_neg (by omega)])
    go_enter Tryd.func4, Tryd.ntmps4
    go_wp2
    go_ret
    exact ⟨ret_int HZ.out.symm, Below.refl _ _⟩
  · have h0' : (es.length : Int) ≤ left := by omega
    go_enter Tryd.func4, Tryd.ntmps4
    go_wp2
    go_loopw [1, 5] (fun t i wr => ∃ k : Nat, k ≤ es.length ∧ i = .int .i64 k ∧ (es.length : Int) + lensE (es.take k) ≤ left ∧ t = .int .i64 (left - es.length - lensE (es.take k)) ∧ Below w.heap.size w wr) (fun _ i _ => es.length - (intOf i).toNat)
    case atStart => exact ⟨0, Nat.zero_le _, rfl, by simpa [lensE] using h0', by simp [lensE], Below.refl _ _⟩
    case round =>
      obtain ⟨k, hk, rfl, hA, rfl, hB⟩ := hrel
      by_cases hlt : k < es.length
      · obtain ⟨g, off, rfl, hg, hc1, hc2, hml⟩ := HH.out k hlt
        have HS := Lib.hid (lensE_take hlt)
        have d1 : wr.cell? ⟨g, off + k * 2, none⟩ = some (.string (bs es[k].name)) := (hB.cell (p := ⟨g, off + k * 2, none⟩) hg).trans hc1
        have d2 : wr.cell? ⟨g, off + k * 2 + 1, none⟩ = some (.int .i64 es[k].node) := (hB.cell (p := ⟨g, off + k * 2 + 1, none⟩) hg).trans hc2
        have HZ : Hid ((bs es[k].name).size = es[k].name.length) := Lib.hid (bs_size _)
        have hx : (bs es[k].name).size ≤ 9223372036854775807 := by rw [HZ.out]; unfold maxLen at hml; omega
        obtain ⟨x, hxx⟩ : ∃ x, x = bs es[k].name := ⟨_, rfl⟩
        rw [← hxx] at d1 hx HZ
        clear hc1 hc2 hxx hml
        by_cases hlt2 : (x.size : Int) ≤ left - es.length - lensE (es.take k)
        · have HQ : Hid (lessR x.size (left - es.length - lensE (es.take k)) = left - es.length - lensE (es.take k) - x.size) := Lib.hid (by unfold lessR; rw [if_pos hlt2])
          have h3 : 0 ≤ left - (es.length : Int) - (lensE (es.take k) : Int) - (x.size : Int) := by omega
          go_wp2_with fail
          refine (szFault_any _ _ _ _ (by omega) (by omega) hx).mono ?_
          rintro e w1 ⟨rfl, hb1⟩
          rw [HQ.out]
          go_wp2
          go_roundw
          case rel => exact ⟨k + 1, hlt, by go_num, by rw [HS.out, ← HZ.out]; omega, by rw [HS.out, ← HZ.out]; go_num, hB.trans (hb1.mono hB.size)⟩
          case measure => simp [intOf]; omega
        · have HQ : Hid (lessR x.size (left - es.length - lensE (es.take k)) = -1) := Lib.hid (by unfold lessR; rw [if_neg hlt2])
          have HR : Hid (lessR (es.length + lensE es) left = -1) := Lib.hid (by
            have h1 := lensE_pre es (k + 1)
            rw [HS.out, ← HZ.out] at h1
            unfold lessR; rw [if_neg (by omega)])
          go_wp2_with fail
          refine (szFault_any _ _ _ _ (by omega) (by omega) hx).mono ?_
          rintro e w1 ⟨rfl, hb1⟩
          rw [HQ.out]
          go_wp2
          go_ret
          exact ⟨ret_int HR.out.symm, hB.trans (hb1.mono hB.size)⟩
      · have HT : Hid (es.take k = es) := Lib.hid (List.take_of_length_le (by omega))
        have HR : Hid (lessR (es.length + lensE es) left = left - es.length - lensE (es.take k)) := Lib.hid (by rw [HT.out] at hA ⊢; unfold lessR; rw [if_pos (by omega)]; omega)
        go_wp2
        go_ret
        exact ⟨ret_int HR.out.symm, hB⟩
theorem fltInfo : (Tryd.prog.info? 33).map (fun i => (i.zero, i.size, i.bytes)) = some (some (.agg #[.string ⟨#[]⟩, .int .i64 0]), 2, 24) := by kernel_rfl

set_option maxHeartbeats 1000000 in
theorem toFault_any (x : ByteArray) (k : Int) (w : World) : Calls Tryd.prog 13 #[.agg #[.string x, .int .i64 k]] w fun e w' => e = .returned (.agg #[.string x, .int .i64 k]) ∧ Below w.heap.size w w' := by
  go_enter Tryd.func13, Tryd.ntmps13
  go_wp2
  exact bodyPost_ret (v := .agg #[.string x, .int .i64 k]) (by simp [results, Tryd.results13, go_sem]) rfl ⟨rfl, (((Below.refl _ _).alloc (Nat.le_refl _) _).alloc (by simp) _).alloc (by simp; omega) _⟩

def fltCell (e : Ent) (r : Nat) : Value := if r = 0 then .string (bs e.name) else .int .i64 e.node
def flt0 : Ent := ⟨[], 0⟩
/-- The cells of a list of entries; behind it zero values. -/
def fltsF (es : List Ent) (j : Nat) : Value := fltCell (es[j / 2]?.getD flt0) (j % 2)
/-- The value is a list of entries of the call's own, in a block from B on. -/
def FltsOwn (w : World) (B : Nat) (v : Value) (es : List Ent) : Prop := ∃ G c, v = .slice (some ⟨G, 0, none⟩) es.length c ∧ es.length ≤ c ∧ c ≤ maxLen ∧ B ≤ G ∧ RowAt w G (es.length * 2) 33 (fltsF es)

theorem FltsOwn.below {w w' : World} {B : Nat} {v : Value} {es : List Ent} (h : FltsOwn w B v es) (hb : Below w.heap.size w w') : FltsOwn w' B v es := by
  obtain ⟨G, c, e, h1, h2, h3, hr⟩ := h
  exact ⟨G, c, e, h1, h2, h3, hr.below hb hr.lt⟩
theorem FltsOwn.read {w : World} {B : Nat} {v : Value} {es : List Ent} (h : FltsOwn w B v es) (hs : ∀ e ∈ es, e.name.length ≤ maxLen) : FltsA w v es := by
  obtain ⟨G, c, rfl, h1, h2, h3, hr⟩ := h
  refine ⟨_, c, rfl, by omega, fun i hi => ⟨G, 0, rfl, hr.lt, ?_, ?_, hs _ (List.getElem_mem hi)⟩⟩
  · have h4 := hr.cell (j := i * 2) (by omega)
    rw [Nat.zero_add, h4]
    have e1 : i * 2 / 2 = i := by omega
    have e2 : i * 2 % 2 = 0 := by omega
    simp [fltsF, fltCell, e1, e2, hi]
  · have h4 := hr.cell (j := i * 2 + 1) (by omega)
    rw [Nat.zero_add, h4]
    have e1 : (i * 2 + 1) / 2 = i := by omega
    have e2 : (i * 2 + 1) % 2 = 1 := by omega
    simp [fltsF, fltCell, e1, e2, hi]
theorem flts_step {es : List Ent} {k : Nat} (h : k < es.length) (j : Nat) : (if j = k * 2 + 1 then .int .i64 es[k].node else if j = k * 2 then .string (bs es[k].name) else fltsF (es.take k) j) = fltsF (es.take (k + 1)) j := by
  unfold fltsF
  by_cases h1 : j = k * 2 + 1
  · subst h1
    have e1 : (k * 2 + 1) / 2 = k := by omega
    have e2 : (k * 2 + 1) % 2 = 1 := by omega
    rw [if_pos rfl, e1, e2, List.getElem?_take, if_pos (by omega), List.getElem?_eq_getElem h]; rfl
  · by_cases h2 : j = k * 2
    · subst h2
      have e1 : k * 2 / 2 = k := by omega
      have e2 : k * 2 % 2 = 0 := by omega
      rw [if_neg (by omega), if_pos rfl, e1, e2, List.getElem?_take, if_pos (by omega), List.getElem?_eq_getElem h]; rfl
    · rw [if_neg h1, if_neg h2, List.getElem?_take, List.getElem?_take]
      by_cases h3 : j / 2 < k
      · rw [if_pos h3, if_pos (by omega)]
      · rw [if_neg h3, if_neg (by omega)]

set_option maxHeartbeats 1000000 in
theorem toFaultS_any (es : List Ent) (v : Value) (w : World) (hR : FltsA w v es) (hl : es.length ≤ 1048576) : Calls Tryd.prog 6 #[v] w fun e w' => ∃ u, e = .returned u ∧ FltsOwn w' w.heap.size u es ∧ Below w.heap.size w w' := by
  obtain ⟨i0, hi, hz0, hz1, hz2⟩ := info_parts fltInfo
  obtain ⟨o, c, rfl, hm, hH⟩ := hR
  have HH := Lib.hid hH
  clear hH
  unfold maxLen at hm
  go_enter Tryd.func6, Tryd.ntmps6
  go_wp2_with (at_make; refine wpList_make_full _ rfl _ _ 26 rfl w.heap.size 33 i0 (.agg #[.string ⟨#[]⟩, .int .i64 0]) 2 Tryd.underlying26 hi hz0 hz1 _ _ _ _ es.length rfl rfl rfl rfl (by rw [hz2]; omega) (by unfold maxLen; omega) (Nat.le_refl _) ?_)
  intro w1 hown hgrow
  have hb1 : Below w.heap.size w w1 := (Below.refl _ w).grown hgrow (Nat.le_refl _) (fun k e => by cases e)
  have hr1 : RowAt w1 w.heap.size (es.length * 2) 33 (fltsF (es.take 0)) := by
    refine RowAt.made hown (fun j hj => ?_)
    have hj' : j < es.length * 2 := hj
    simp only [madeCells, fltsF, fltCell, flt0, List.take_zero, List.getElem?_nil, Option.getD_none]
    rcases Nat.mod_two_eq_zero_or_one j with h2 | h2
    · simp [hj', h2]; rfl
    · simp [hj', h2]
  clear hown hgrow
  go_wp2
  go_loopw [4] (fun i wr => ∃ k : Nat, k ≤ es.length ∧ i = .int .i64 k ∧ RowAt wr w.heap.size (es.length * 2) 33 (fltsF (es.take k)) ∧ Below w.heap.size w wr) (fun i _ => es.length - (intOf i).toNat)
  case atStart => exact ⟨0, Nat.zero_le _, rfl, hr1, hb1⟩
  case round =>
    obtain ⟨k, hk, rfl, hr, hB⟩ := hrel
    by_cases hlt : k < es.length
    · obtain ⟨g, off, rfl, hg, hc1, hc2, hml⟩ := HH.out k hlt
      have d1 : wr.cell? ⟨g, off + k * 2, none⟩ = some (.string (bs es[k].name)) := (hB.cell (p := ⟨g, off + k * 2, none⟩) hg).trans hc1
      have d2 : wr.cell? ⟨g, off + k * 2 + 1, none⟩ = some (.int .i64 es[k].node) := (hB.cell (p := ⟨g, off + k * 2 + 1, none⟩) hg).trans hc2
      have HST := Lib.hid (flts_step hlt)
      have HRr := Lib.hid hr
      obtain ⟨x, hx⟩ : ∃ x, x = bs es[k].name := ⟨_, rfl⟩
      rw [← hx] at d1 HST
      clear hx hml hc1 hc2 hr hr1
      go_wp2_with fail
      refine (toFault_any _ _ _).mono ?_
      rintro e w2 ⟨rfl, hb2⟩
      have hr2 := HRr.out.below hb2 HRr.out.lt
      have b0 := hr2.cell (j := k * 2) (by omega)
      have b1 := hr2.cell (j := k * 2 + 1) (by omega)
      have b2 := hr2.frozen (k * 2)
      have b3 := hr2.frozen (k * 2 + 1)
      have HR3 := Lib.hid (((hr2.set (k * 2) (.string x)).set (k * 2 + 1) (.int .i64 es[k].node)).congr (fun j _ => HST.out j))
      have HB3 := Lib.hid (((hB.trans (hb2.mono hB.size)).setCell (p := ⟨w.heap.size, k * 2, none⟩) (Nat.le_refl _) (.string x)).setCell (p := ⟨w.heap.size, k * 2 + 1, none⟩) (Nat.le_refl _) (.int .i64 es[k].node))
      clear hr2 hb2
      go_wp2
      go_roundw
      case rel => exact ⟨k + 1, hlt, by go_num, HR3.out, HB3.out⟩
      case measure => simp [intOf]; omega
    · have HT : Hid (es.take k = es) := Lib.hid (List.take_of_length_le (by omega))
      rw [HT.out] at hr
      go_wp2
      go_ret
      exact ⟨_, rfl, ⟨_, _, rfl, Nat.le_refl _, by unfold maxLen; omega, Nat.le_refl _, hr⟩, hB⟩
set_option maxHeartbeats 1000000 in
theorem eqFault_same (x : ByteArray) (k : Int) (w : World) : Calls Tryd.prog 16 #[.agg #[.string x, .int .i64 k], .agg #[.string x, .int .i64 k]] w fun e w' => e = .returned (.bool true) ∧ Below w.heap.size w w' := by
  go_enter Tryd.func16, Tryd.ntmps16
  go_wp2
  go_ret
  exact ⟨rfl, ((Below.refl _ _).alloc (Nat.le_refl _) _).alloc (by simp) _⟩

set_option maxHeartbeats 1000000 in
theorem eqFaultS_same (es : List Ent) (u v : Value) (w : World) (hU : FltsA w u es) (hV : FltsA w v es) : Calls Tryd.prog 8 #[u, v] w fun e w' => e = .returned (.bool true) ∧ Below w.heap.size w w' := by
  obtain ⟨o1, c1, rfl, hm1, hH1⟩ := hU
  obtain ⟨o2, c2, rfl, hm2, hH2⟩ := hV
  have HH1 := Lib.hid hH1
  have HH2 := Lib.hid hH2
  clear hH1 hH2
  unfold maxLen at hm1 hm2
  go_enter Tryd.func8, Tryd.ntmps8
  go_wp2
  go_loopw [5] (fun i wr => ∃ k : Nat, k ≤ es.length ∧ i = .int .i64 k ∧ Below w.heap.size w wr) (fun i _ => es.length - (intOf i).toNat)
  case atStart => exact ⟨0, Nat.zero_le _, rfl, Below.refl _ _⟩
  case round =>
    obtain ⟨k, hk, rfl, hB⟩ := hrel
    by_cases hlt : k < es.length
    · obtain ⟨g1, f1, rfl, q1, x1, y1, _⟩ := HH1.out k hlt
      obtain ⟨g2, f2, rfl, q2, x2, y2, _⟩ := HH2.out k hlt
      obtain ⟨x, hx⟩ : ∃ x, x = bs es[k].name := ⟨_, rfl⟩
      rw [← hx] at x1 x2
      have d1 := (hB.cell (p := ⟨g1, f1 + k * 2, none⟩) q1).trans x1
      have d2 := (hB.cell (p := ⟨g1, f1 + k * 2 + 1, none⟩) q1).trans y1
      have d3 := (hB.cell (p := ⟨g2, f2 + k * 2, none⟩) q2).trans x2
      have d4 := (hB.cell (p := ⟨g2, f2 + k * 2 + 1, none⟩) q2).trans y2
      clear hx x1 x2 y1 y2
      go_wp2
      have z0 := fun d os => cell_regrown (w := wr) d1 d os
      have z1 := fun d os => cell_regrown (w := wr) d2 d os
      have z2 := fun d os => cell_regrown (w := wr) d3 d os
      have z3 := fun d os => cell_regrown (w := wr) d4 d os
      refine wp_region_quiet_below (by kernel_rfl) (by kernel_rfl) ?_
      repeat (first | go_big_quiet_step ((go_at_call 16; exact Calls.regrown_of (eqFault_same _ _ _))) | quiet_step ((go_at_call 16; exact Calls.regrown_of (eqFault_same _ _ _))))
      refine wpQuiet_nil ?_
      intro w5 hwq
      have hb5 : Below wr.heap.size wr w5 := by
        obtain ⟨pp, rfl⟩ := hwq
        exact below_regrown _ _ _
      clear hwq z0 z1 z2 z3
      go_wp2
      go_roundw
      case rel => exact ⟨k + 1, hlt, by go_num, hB.trans (hb5.mono hB.size)⟩
      case measure => simp [intOf]; omega
    · go_wp2
      go_ret
      exact ⟨rfl, hB⟩

section
variable {H : Type} {enc : TypeId × Value → H} {W : World}
theorem cellsFlt : Tryd.prog.cellsOf 32 = 2 := by kernel_rfl
theorem open_flts {fuel : Nat} {cs : List Value} {x : DataW H × List MemPlace} (h : DataW.trod enc Tryd.prog W 0 (fun _ => true) true fuel 22 cs = some x) :
    ∃ v es, cs = [v] ∧ FltsA W v es ∧ ∀ e ∈ es, EntWL e := by
  rcases Go.Deep.open_slice_pairs Tryd.underlying22 Tryd.underlying32 cellsFlt rfl rfl (by kernel_rfl) (by kernel_rfl) h with ⟨rfl, -⟩ | ⟨a, len, cap, m, n, V0, V1, D0, D1, P0, P1, rfl, -, hl, hm, hmm, -, hx⟩
  · exact ⟨_, [], rfl, ⟨none, 0, rfl, Nat.zero_le _, fun i hi => absurd hi (by simp)⟩, by simp⟩
  · simp only [if_true] at hmm
    subst hmm
    have each : ∀ i, i < len → ∃ e : Ent, a = ⟨a.block, a.off, none⟩ ∧ a.block < W.heap.size ∧ W.cell? ⟨a.block, a.off + i * 2, none⟩ = some (.string (bs e.name)) ∧ W.cell? ⟨a.block, a.off + i * 2 + 1, none⟩ = some (.int .i64 e.node) ∧ e.name.length ≤ maxLen ∧ EntWL e := by
      intro i hi
      have hp := addr_plainL (hx 0 (by omega)).1
      obtain ⟨h0, h1, t0, t1⟩ := hx i (by omega)
      obtain ⟨s, e0, -, hs⟩ := DataW.trod_string Tryd.underlying9 t0
      obtain ⟨k, e1, -, hk⟩ := DataW.trod_int Tryd.underlying3 t1
      simp only [List.cons.injEq, and_true] at e0 e1
      rw [e0] at h0
      rw [e1] at h1
      have hb := World.block_lt_of_cell? W _ h0
      rw [addBlock] at hb
      have hpz : a = ⟨a.block, a.off, none⟩ := by simpa [Addr.add] using hp
      rw [hpz, add_plainL] at h0 h1
      exact ⟨⟨s.data.toList, k⟩, hpz, hb, by simpa [bs_of] using h0, h1, dataLeL hs, hk⟩
    haveI : Inhabited Ent := ⟨⟨[], 0⟩⟩
    obtain ⟨E, hE⟩ := Go.Deep.choose_lt each
    refine ⟨_, (List.range len).map E, rfl, ⟨some a, m, by simp, by simp; omega, fun i hi => ?_⟩, ?_⟩
    · simp at hi
      obtain ⟨h1, h2, h3, h4, h5, h6⟩ := hE i hi
      exact ⟨a.block, a.off, by rw [← h1], h2, by simpa using h3, by simpa using h4, by simpa using h5⟩
    · intro e he
      simp at he
      obtain ⟨i, hi, rfl⟩ := he
      exact (hE i hi).2.2.2.2.2

end
end Go.Proofs.YthobfdcomcknoaaDoor
