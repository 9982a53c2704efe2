/-
  Joined: HelpC LookR MarkC MarkF.
  Conditions: as each states.
-/
import Derived.Laws.OwnMore
import Derived.Deep.QuietTactic
import Derived.BigQuiet
import Derived.Laws.BytesString
import Derived.Laws.IdiomStrings
import Derived.Lib.QuietBelow
import Derived.Test.YtgmkfhhlnhgkhaaGreatDoorLib1
import Derived.Test.YtgmkfhhlnhgkhaaGreatDoorLib2
import Derived.Test.YtgmkfhhlnhgkhaaGreatDoorLib16

/-
  Contracts of the laws' own helpers on lists of texts: szStringS, toStringS, eqStringS.
  Conditions: lists of at most 2^20 texts for toStringS; lengths are lengths.
-/
namespace Go.Proofs.YtgmkfhhlnhgkhaaGreatDoor
open Go.ChangeShapes Go.WideShapes Go.ChangeAt Go.RowKit Go.Joins
set_option linter.unusedVariables false

/-- The value reads as a list of texts, wherever it lies. -/
def RdA (w : World) (v : Value) (ps : List (List UInt8)) : Prop :=
  ∃ o c, v = .slice o ps.length c ∧ ps.length ≤ maxLen ∧ ∀ i (h : i < ps.length), ∃ ad : Addr, o = some ad ∧ ad.block < w.heap.size ∧ w.cell? (ad.add i) = some (.string (bs ps[i])) ∧ ps[i].length ≤ maxLen
theorem block_add (a : Addr) (i : Nat) : (a.add i).block = a.block := by unfold Addr.add; split <;> rfl
theorem RdA.below {w w' : World} {v : Value} {ps : List (List UInt8)} (h : RdA w v ps) (hb : Below w.heap.size w w') : RdA w' v ps := by
  obtain ⟨o, c, rfl, hm, hH⟩ := h
  refine ⟨o, c, rfl, hm, fun i hi => ?_⟩
  obtain ⟨ad, e, hg, hc, hl⟩ := hH i hi
  exact ⟨ad, e, Nat.lt_of_lt_of_le hg hb.size, (hb.cell (p := ad.add i) (by rw [block_add]; exact hg)).trans hc, hl⟩

def lens (ps : List (List UInt8)) : Nat := (ps.map List.length).sum
theorem lens_take {ps : List (List UInt8)} {k : Nat} (h : k < ps.length) : lens (ps.take (k + 1)) = lens (ps.take k) + ps[k].length := by
  unfold lens; rw [List.take_succ_eq_append_getElem h]; simp only [List.map_append, List.sum_append, List.map_cons, List.map_nil, List.sum_cons, List.sum_nil, Nat.add_zero]
theorem lens_pre (ps : List (List UInt8)) (k : Nat) : lens (ps.take k) ≤ lens ps := by
  conv => rhs; rw [← List.take_append_drop k ps]
  unfold lens; rw [List.map_append, List.sum_append]; omega

/-- What szStringS gives. -/
def szR (ps : List (List UInt8)) (left : Int) : Int := if (ps.length : Int) + lens ps ≤ left then left - ps.length - lens ps else -1

def zs (n : Nat) : List Value := List.replicate n (.string ⟨#[]⟩)
theorem set_step {ps : List (List UInt8)} {k : Nat} (h : k < ps.length) : (strs (ps.take k) ++ zs (ps.length - k)).set k (.string (bs ps[k])) = strs (ps.take (k + 1)) ++ zs (ps.length - (k + 1)) := by
  have hl : (strs (ps.take k)).length = k := by simp [strs]; omega
  rw [List.set_append_right _ _ (by omega), hl, Nat.sub_self, List.take_succ_eq_append_getElem h]
  obtain ⟨m, hm⟩ : ∃ m, ps.length - k = m + 1 := ⟨ps.length - k - 1, by omega⟩
  have hm2 : ps.length - (k + 1) = m := by omega
  rw [hm, hm2]
  simp only [strs, zs, List.replicate_succ, List.set_cons_zero, List.map_append, List.map_cons, List.map_nil, List.append_assoc, List.cons_append, List.nil_append]
theorem old_at {ps : List (List UInt8)} {k : Nat} (h : k < ps.length) : (strs (ps.take k) ++ zs (ps.length - k))[k]? = some (.string ⟨#[]⟩) := by
  have hl : (strs (ps.take k)).length = k := by simp [strs]; omega
  obtain ⟨m, hm⟩ : ∃ m, ps.length - k = m + 1 := ⟨ps.length - k - 1, by omega⟩
  rw [List.getElem?_append_right (Nat.le_of_eq hl), hl, Nat.sub_self, hm]
  rfl

def eqB (a b : List (List UInt8)) : Bool := decide (a = b)

set_option maxHeartbeats 1000000 in
theorem eqStringS_same (ps : List (List UInt8)) (u v : Value) (w : World) (hU : Rd w u ps) (hV : Rd w v ps) : Calls Tryz.prog 56 #[u, v] w fun e w' => e = .returned (.bool true) ∧ Below w.heap.size w w' := by
  obtain ⟨o1, c1, rfl, hl1, hm1, hH1⟩ := hU
  obtain ⟨o2, c2, rfl, hl2, hm2, hH2⟩ := hV
  have HH1 := Lib.hid hH1
  have HH2 := Lib.hid hH2
  clear hH1 hH2
  unfold maxLen at hm1 hm2
  go_enter Tryz.func56, Tryz.ntmps56
  go_wp2
  go_loopw [5] (fun i wr => ∃ k m : Nat, k ≤ ps.length ∧ i = .int .i64 k ∧ wr = w.drewN m) (fun i _ => ps.length - (intOf i).toNat)
  case atStart => exact ⟨0, 0, Nat.zero_le _, rfl, rfl⟩
  case round =>
    obtain ⟨k, m, hk, rfl, rfl⟩ := hrel
    by_cases hlt : k < ps.length
    · obtain ⟨g1, f1, rfl, _, hc1⟩ := HH1.out k hlt
      obtain ⟨g2, f2, rfl, _, hc2⟩ := HH2.out k hlt
      obtain ⟨x, hx⟩ : ∃ x, x = bs ps[k] := ⟨_, rfl⟩
      rw [← hx] at hc1 hc2
      clear hx
      go_wp2
      go_quiet (fail)
      go_wp2
      go_roundw
      case rel => exact ⟨k + 1, _, hlt, by go_num, rfl⟩
      case measure => simp [intOf]; omega
    · go_wp2
      go_ret
      exact ⟨rfl, ⟨rfl, rfl, rfl, Nat.le_refl _, fun _ _ => rfl⟩⟩
end Go.Proofs.YtgmkfhhlnhgkhaaGreatDoor


/-
  The program's namesIn, ListDir.
  Conditions: at most 2^20 values and letters together; a text of at most 2^20 bytes; the variable errors.errorType as the program's text lays it.
-/
namespace Go.Proofs.YtgmkfhhlnhgkhaaGreatDoor
open Go.ChangeShapes Go.WideShapes Go.ChangeAt Go.RowKit Go.Joins
set_option linter.unusedVariables false
set_option linter.unusedSimpArgs false

theorem dirW_read (ns : List Nod) (u g : Int) (l : List UInt8) : (dirW ns u g l 4).1 = ldC0 ns u g l ∧ (ldC0 ns u g l = 0 → (dirW ns u g l 4).2 = (dirF ns u g l).2) := by
  unfold dirW ldC0 dirF
  obtain ⟨⟨cd, nd⟩, h⟩ : ∃ q, lkFind ns u g l true = q := ⟨_, rfl⟩
  rw [h]
  by_cases h1 : cd = 0
  · subst h1
    by_cases h2 : (nodeAt ns nd).kind = 2
    · cases h3 : mayB u g (nodeAt ns nd).mode (nodeAt ns nd).uid (nodeAt ns nd).gid 4 <;> simp [dirC, h2, h3]
    · simp [dirC, h2]
  · simp [h1]
theorem names_len (es : List Ent) : (namesOf es).length = es.length := by simp [namesOf]
theorem names_at (es : List Ent) (k : Nat) (h : k < es.length) : (namesOf es)[k]'(by rw [names_len]; exact h) = es[k].name := by simp [namesOf]

theorem row_below {w w' : World} {B n : Nat} {T : TypeId} {v : Value} {l : List Value} (h : w.ownsRow B T 1 v n l) (hb : Below w.heap.size w w') : w'.ownsRow B T 1 v n l := by
  refine World.ownsRow.kept h (row := none) ⟨hb.os, hb.tape, hb.output, hb.size, fun i hi _ => hb.block i hi⟩ ?_
  rcases h.2 with ⟨rfl, _⟩ | ⟨g, cap, cur, rfl, _⟩
  · exact .inl rfl
  · exact .inr (by simp [Value.ownBlock])
set_option maxHeartbeats 2000000 in
theorem namesIn_any (q : Nod) (G p : Nat) (lv : Value) (w : World) (hg : G < w.heap.size) (hc : NodC w G p lv q) (hE : EntsA w lv q.list) (hl : q.list.length ≤ 1048576) :
    Calls Tryz.prog 98 #[.pointer (some ⟨G, p, none⟩)] w fun e w' => ∃ u, e = .returned u ∧ Lst w' w.heap.size u (namesOf q.list) ∧ Below w.heap.size w w' := by
  obtain ⟨i0, hi, hz0, hz1, hz2⟩ := info_parts strInfo
  have HC := Lib.hid hc
  have d6 := hc.c6
  have HQ := Lib.hid (names_at q.list)
  obtain ⟨es, hes⟩ : ∃ es, es = q.list := ⟨_, rfl⟩
  obtain ⟨o, c, rfl, hm, hH⟩ := hE
  have HH := Lib.hid hH
  clear hH hc
  unfold maxLen at hm
  obtain ⟨ps, hps⟩ : ∃ ps, ps = namesOf q.list := ⟨_, rfl⟩
  have hpl : q.list.length = ps.length := by rw [hps, names_len]
  have HP : Hid (∀ k (h : k < ps.length) (h2 : k < q.list.length), ps[k] = q.list[k].name) := Lib.hid (by subst hps; intro k h h2; exact HQ.out k h2)
  rw [← hps]
  have HPL := Lib.hid hpl
  rw [hpl] at d6 hm hl
  clear hps HQ hes es
  go_enter Tryz.func98, Tryz.ntmps98
  go_wp2_with (at_make; refine wpList_make_full _ rfl _ _ 58 rfl w.heap.size 9 i0 (.string ⟨#[]⟩) 1 Tryz.underlying58 hi hz0 hz1 _ _ _ _ ps.length rfl rfl rfl rfl (by rw [hz2]; omega) (by unfold maxLen; omega) (Nat.le_refl _) ?_)
  intro w1 hown hgrow
  have hb1 : Below w.heap.size w w1 := (Below.refl _ w).grown hgrow (Nat.le_refl _) (fun k e => by cases e)
  rw [toList_madeCells_one] at hown
  have hown1 : w1.ownsRow w.heap.size 9 1 (.slice (some ⟨w.heap.size, 0, none⟩) ps.length ps.length) ps.length (strs (ps.take 0) ++ zs (ps.length - 0)) := hown
  have d6b : w1.cell? ⟨G, p + 6, none⟩ = some (.slice o ps.length c) := (hb1.cell (p := ⟨G, p + 6, none⟩) hg).trans d6
  clear hown hgrow
  go_wp2
  go_loopw [17] (fun i wr => ∃ k : Nat, k ≤ ps.length ∧ i = .int .i64 k ∧ wr.ownsRow w.heap.size 9 1 (.slice (some ⟨w.heap.size, 0, none⟩) ps.length ps.length) ps.length (strs (ps.take k) ++ zs (ps.length - k)) ∧ Below w.heap.size w wr) (fun i _ => ps.length - (intOf i).toNat)
  case atStart => exact ⟨0, Nat.zero_le _, rfl, hown1, hb1⟩
  case round =>
    obtain ⟨k, hk, rfl, hown, hB⟩ := hrel
    by_cases hlt : k < ps.length
    · have hlt2 : k < q.list.length := by omega
      obtain ⟨g2, f2, rfl, q2, x2, y2, _⟩ := HH.out k hlt2
      rw [← HP.out k hlt hlt2] at x2
      have a1 := (hB.cell (p := ⟨g2, f2 + k * 2, none⟩) q2).trans x2
      have a2 := (hB.cell (p := ⟨g2, f2 + k * 2 + 1, none⟩) q2).trans y2
      obtain ⟨r, hr⟩ : ∃ r, r = q.list[k].node := ⟨_, rfl⟩
      rw [← hr] at a2
      obtain ⟨x, hx⟩ : ∃ x, x = bs ps[k] := ⟨_, rfl⟩
      rw [← hx] at a1
      have hbb : Below wr.heap.size wr (wr.alloc (.cells #[.string x, .int .i64 r] 57)) := (Below.refl _ _).alloc (Nat.le_refl _) _
      have hownA := row_below hown hbb
      have hBA := hB.alloc hB.size (.cells #[.string x, .int .i64 r] 57)
      have hold : (wr.alloc (.cells #[.string x, .int .i64 r] 57)).cell? ⟨w.heap.size, k, none⟩ = some (.string ⟨#[]⟩) := (hownA.cellAt k (by omega)).trans (old_at hlt)
      have hfz : (wr.alloc (.cells #[.string x, .int .i64 r] 57)).frozen? ⟨w.heap.size, k, none⟩ = false := hownA.frozenAt k
      obtain ⟨hs1, hs2⟩ := hownA.stored k (.string (bs ps[k]))
      rw [set_step hlt, ← hx] at hs1
      have hb2 : Below w.heap.size w ((wr.alloc (.cells #[.string x, .int .i64 r] 57)).setCell ⟨w.heap.size, k, none⟩ (.string x)) := hBA.setCell (p := ⟨w.heap.size, k, none⟩) (Nat.le_refl _) _
      have HS1 := Lib.hid hs1
      have HB2 := Lib.hid hb2
      clear hs1 hs2 hb2 hown1 hx hown x2 y2 hr hbb hownA hBA
      go_wp2
      go_roundw
      case rel => exact ⟨k + 1, hlt, by go_num, HS1.out, HB2.out⟩
      case measure => simp [intOf]; omega
    · have HT : Hid (strs (ps.take k) ++ zs (ps.length - k) = strs ps) := Lib.hid (by
        obtain rfl : k = ps.length := by omega
        simp [zs])
      rw [HT.out] at hown
      go_wp2
      go_ret
      exact ⟨_, rfl, hown, hB⟩

set_option maxHeartbeats 4000000 in
theorem listDir_any (f : FsD) (v : Value) (u g : Int) (s : ByteArray) (w : World) (hR : FsA w v f) (hs : szF f ≤ 1048576) (hss : s.size ≤ 1048576) (hE : ErrT w) : Calls Tryz.prog 41 #[v, .agg #[.int .i64 u, .int .i64 g], .string s] w fun e w' => ∃ lv, e = .returned (.tuple #[lv, .int .i64 (ldC f u g s.data.toList), .bool (askB4 f u g)]) ∧ Lst w' w.heap.size lv (ldL f u g s.data.toList) ∧ Below w.heap.size w w' := by
  have HR := Lib.hid hR
  obtain ⟨nv, rfl, hN⟩ := hR
  have HN := Lib.hid hN
  obtain ⟨o, c, rfl, hm, hH⟩ := hN
  have HH := Lib.hid hH
  unfold maxLen at hm
  have HS := Lib.hid hs
  have hl : f.nodes.length ≤ 1048576 := (lists_small hs).1
  have HB0 : Hid (Below w.heap.size w ((w.alloc (.cells #[.slice o f.nodes.length c, .int .i64 f.room] 26)).alloc (.cells #[.int .i64 u, .int .i64 g] 37))) := Lib.hid (((Below.refl _ _).alloc (Nat.le_refl _) _).alloc (by simp) _)
  have KA0 := Lib.hid (alloc3_fst' w (.cells #[.slice o f.nodes.length c, .int .i64 f.room] 26) (.cells #[.int .i64 u, .int .i64 g] 37))
  have KB0 := Lib.hid (alloc3_snd' w (.cells #[.slice o f.nodes.length c, .int .i64 f.room] 26) (.cells #[.int .i64 u, .int .i64 g] 37))
  clear hH
  have HET := Lib.hid hE
  clear hs hE
  by_cases hk : askB4 f u g = true
  · have HK := Lib.hid hk
    have HL := Lib.hid (look_of (ask_good hk) HS.out)
    have hrd := dirW_read f.nodes u g s.data.toList
    have hlt0 := dirF_lt HL.out.1 u g s.data.toList
    obtain ⟨⟨cd, nd⟩, hfd⟩ : ∃ q, dirW f.nodes u g s.data.toList 4 = q := ⟨_, rfl⟩
    have HFD := Lib.hid hfd
    rw [hfd] at hrd
    obtain ⟨hr0, hr2⟩ := hrd
    have hr1 : cd = ldC0 f.nodes u g s.data.toList := hr0
    clear hr0
    by_cases hc : cd = 0
    · have hnd : nd = (dirF f.nodes u g s.data.toList).2 := hr2 (by rw [← hr1]; exact hc)
      have hlt : nd < f.nodes.length := by rw [hnd]; exact hlt0
      have HV : Hid (ldC f u g s.data.toList = 0 ∧ ldL f u g s.data.toList = namesOf (nodeAt f.nodes nd).list) := Lib.hid (by unfold ldC ldL; rw [if_pos hk, if_pos ⟨hk, by rw [← hr1]; exact hc⟩, ← hr1, hc, hnd]; exact ⟨rfl, rfl⟩)
      have hll : (nodeAt f.nodes nd).list.length ≤ 1048576 := by
        have h9 := (lists_small HS.out).2 f.nodes[nd] (List.getElem_mem hlt)
        have hqe : f.nodes[nd] = nodeAt f.nodes nd := (getD_at hlt).symm
        rw [hqe] at h9
        exact h9.1
      subst hc
      clear hk hfd hr1 hr2 hlt0 hnd
      go_enter Tryz.func41, Tryz.ntmps41
      go_wp2_with fail
      refine (canLook_is HK.out (HR.out.below HB0.out) HS.out).mono ?_
      rintro e w1 ⟨rfl, hb1⟩
      have HB1 := Lib.hid (HB0.out.trans (hb1.mono HB0.out.size))
      have KA1 := Lib.hid ((hb1.block w.heap.size (lt_of_heap KA0.out)).trans KA0.out)
      have KB1 := Lib.hid ((hb1.block (w.heap.size + 1) (lt_of_heap KB0.out)).trans KB0.out)
      have x1a : w1.cell? ⟨w.heap.size, 0, none⟩ = some (.slice o f.nodes.length c) := cell_blk KA1.out 0
      have x1b : w1.cell? ⟨w.heap.size, 1, none⟩ = some (.int .i64 f.room) := cell_blk KA1.out 1
      have y1a : w1.cell? ⟨w.heap.size + 1, 0, none⟩ = some (.int .i64 u) := cell_blk KB1.out 0
      have y1b : w1.cell? ⟨w.heap.size + 1, 1, none⟩ = some (.int .i64 g) := cell_blk KB1.out 1
      clear hb1
      go_wp2_with fail
      refine (dirAt_is HFD.out (HR.out.below HB1.out) HS.out HK.out (by decide) hss).mono ?_
      rintro e w2 ⟨rfl, hb2⟩
      rw [errV_ok]
      have HB2 := Lib.hid (HB1.out.trans (hb2.mono HB1.out.size))
      have KA2 := Lib.hid ((hb2.block w.heap.size (lt_of_heap KA1.out)).trans KA1.out)
      have KB2 := Lib.hid ((hb2.block (w.heap.size + 1) (lt_of_heap KB1.out)).trans KB1.out)
      have x2a : w2.cell? ⟨w.heap.size, 0, none⟩ = some (.slice o f.nodes.length c) := cell_blk KA2.out 0
      have x2b : w2.cell? ⟨w.heap.size, 1, none⟩ = some (.int .i64 f.room) := cell_blk KA2.out 1
      have y2a : w2.cell? ⟨w.heap.size + 1, 0, none⟩ = some (.int .i64 u) := cell_blk KB2.out 0
      have y2b : w2.cell? ⟨w.heap.size + 1, 1, none⟩ = some (.int .i64 g) := cell_blk KB2.out 1
      clear hb2
      obtain ⟨o5, c5, e5, -, hH5⟩ := HN.out.below HB2.out
      simp only [Value.slice.injEq, true_and] at e5
      obtain ⟨rfl, rfl⟩ := e5
      obtain ⟨g5, f5, l5, rfl, hg5, hc5, he5, -⟩ := hH5 nd hlt
      have hqe : f.nodes[nd] = nodeAt f.nodes nd := (getD_at hlt).symm
      rw [hqe] at hc5 he5
      have HC5 := Lib.hid hc5
      have HE5 := Lib.hid he5
      obtain ⟨nq, hnq⟩ : ∃ nq, nq = nodeAt f.nodes nd := ⟨_, rfl⟩
      rw [← hnq] at HC5 HE5 HV hll
      clear hH5 hc5 he5 hqe hnq
      go_wp2_with fail
      refine (namesIn_any nq g5 _ l5 _ hg5 HC5.out HE5.out hll).mono ?_
      rintro e w3 ⟨u3, rfl, hL3, hb3⟩
      have HB3 := Lib.hid (HB2.out.trans (hb3.mono HB2.out.size))
      have HL3 := Lib.hid (lst_mono hL3 HB2.out.size)
      clear hb3 hL3
      go_wp2
      go_ret3
      exact ⟨u3, by rw [HV.out.1, HK.out]; rfl, by rw [HV.out.2]; exact HL3.out, HB3.out⟩
    · have HV : Hid (ldC f u g s.data.toList = cd ∧ ldL f u g s.data.toList = []) := Lib.hid (by unfold ldC ldL; rw [if_pos hk, if_neg (fun h => hc (by rw [hr1]; exact h.2))]; exact ⟨hr1.symm, rfl⟩)
      have HE := Lib.hid (errV_not s hc)
      clear hk hfd hr1 hr2 hlt0 hc
      go_enter Tryz.func41, Tryz.ntmps41
      go_wp2_with fail
      refine (canLook_is HK.out (HR.out.below HB0.out) HS.out).mono ?_
      rintro e w1 ⟨rfl, hb1⟩
      have HB1 := Lib.hid (HB0.out.trans (hb1.mono HB0.out.size))
      have KA1 := Lib.hid ((hb1.block w.heap.size (lt_of_heap KA0.out)).trans KA0.out)
      have KB1 := Lib.hid ((hb1.block (w.heap.size + 1) (lt_of_heap KB0.out)).trans KB0.out)
      have x1a : w1.cell? ⟨w.heap.size, 0, none⟩ = some (.slice o f.nodes.length c) := cell_blk KA1.out 0
      have x1b : w1.cell? ⟨w.heap.size, 1, none⟩ = some (.int .i64 f.room) := cell_blk KA1.out 1
      have y1a : w1.cell? ⟨w.heap.size + 1, 0, none⟩ = some (.int .i64 u) := cell_blk KB1.out 0
      have y1b : w1.cell? ⟨w.heap.size + 1, 1, none⟩ = some (.int .i64 g) := cell_blk KB1.out 1
      clear hb1
      go_wp2_with fail
      refine (dirAt_is HFD.out (HR.out.below HB1.out) HS.out HK.out (by decide) hss).mono ?_
      rintro e w2 ⟨rfl, hb2⟩
      have HB2 := Lib.hid (HB1.out.trans (hb2.mono HB1.out.size))
      clear hb2
      rw [HE.out]
      go_wp2_with fail
      rw [← HE.out]
      refine (codeOf_any s cd _ (HET.out.below HB2.out HET.out.1)).mono ?_
      rintro e w3 ⟨rfl, hb3⟩
      have HB3 := Lib.hid (HB2.out.trans (hb3.mono HB2.out.size))
      clear hb3
      go_wp2
      go_ret3
      exact ⟨_, by rw [HV.out.1, HK.out]; rfl, by rw [HV.out.2]; exact Lst.nil _ _, HB3.out⟩
  · have HK : Hid (askB4 f u g = false) := Lib.hid (by simpa using hk)
    have HV : Hid (ldC f u g s.data.toList = 0 ∧ ldL f u g s.data.toList = []) := Lib.hid (by unfold ldC ldL; rw [if_neg hk, if_neg (fun h => hk h.1)]; exact ⟨rfl, rfl⟩)
    clear hk
    go_enter Tryz.func41, Tryz.ntmps41
    go_wp2_with fail
    refine (canLook_is HK.out (HR.out.below HB0.out) HS.out).mono ?_
    rintro e w1 ⟨rfl, hb1⟩
    have HB1 := Lib.hid (HB0.out.trans (hb1.mono HB0.out.size))
    clear hb1
    go_wp2
    go_ret3
    exact ⟨_, by rw [HV.out.1, HK.out]; rfl, by rw [HV.out.2]; exact Lst.nil _ _, HB1.out⟩
end Go.Proofs.YtgmkfhhlnhgkhaaGreatDoor


/-
  Contracts of the laws' own helpers markText, markStringS, heldStringS.
  Conditions: marks from 1 to 100000000.
-/
namespace Go.Proofs.YtgmkfhhlnhgkhaaGreatDoor
open Go.ChangeShapes Go.WideShapes Go.ChangeAt Go.RowKit Go.Joins
set_option linter.unusedVariables false

/-- The text whose bytes are these numbers. -/
def strOf (l : List Int) : ByteArray := ⟨(l.map fun n => UInt8.ofNat n.toNat).toArray⟩
theorem strOf_fold : ∀ (l : List Int) (r : ByteArray), l.foldl (fun r n => r.push (UInt8.ofNat n.toNat)) r = r ++ strOf l
  | [], r => by apply ByteArray.ext; simp [strOf]
  | n :: l, r => by
    rw [List.foldl_cons, strOf_fold l]
    apply ByteArray.ext
    simp [strOf, ByteArray.push]
theorem load_new {P : Program} (w : World) (l : List Int) (t : TypeId) :
    (loadCells ⟨w.heap.size, 0, none⟩ l.length).run P (w.alloc (.cells (l.map (Value.int .u8)).toArray t)) = .ok (l.map (Value.int .u8)).toArray (w.alloc (.cells (l.map (Value.int .u8)).toArray t)) := by
  have h := run_loadCells_list (P := P) (w.alloc (.cells (l.map (Value.int .u8)).toArray t)) ⟨w.heap.size, 0, none⟩ (l.map (Value.int .u8)) (fun j v hj => by
    have e : (⟨w.heap.size, 0, none⟩ : Addr).add j = ⟨w.heap.size, j, none⟩ := by
      unfold Addr.add
      split <;> simp_all
    rw [e, World.cell?_alloc_mark]
    simpa using hj)
  simpa using h
/-- string(b) of a new slice of bytes. -/
theorem str_new (w : World) (l : List Int) (cap : Nat) :
    (convert 22 9 (.slice (some ⟨w.heap.size, 0, none⟩) l.length cap)).run Tryz.prog (w.alloc (.cells (l.map (Value.int .u8)).toArray 5)) = .ok (.string (strOf l)) (w.alloc (.cells (l.map (Value.int .u8)).toArray 5)) := by
  rw [run_convert_bytes_string _ 22 9 5 _ _ _ Tryz.underlying22 Tryz.underlying5 Tryz.underlying9, run_bytesToString _ _ _ _ l (load_new w l 5), strOf_fold]
  congr 2
theorem str_new1 (w : World) (a : Int) : (convert 22 9 (.slice (some ⟨w.heap.size, 0, none⟩) 1 1)).run Tryz.prog (w.alloc (.cells #[.int .u8 a] 5)) = .ok (.string (strOf [a])) (w.alloc (.cells #[.int .u8 a] 5)) := str_new w [a] 1

/-- The digits of a number ahead of a text, at most so many. -/
def digsF : Nat → Nat → List UInt8 → List UInt8
  | 0, _, acc => acc
  | f + 1, k, acc => if k = 0 then acc else digsF f (k / 10) (UInt8.ofNat (48 + k % 10) :: acc)
def digs (k : Nat) (acc : List UInt8) : List UInt8 := digsF k k acc
theorem digsF_zero (f : Nat) (acc : List UInt8) : digsF f 0 acc = acc := by cases f <;> simp [digsF]
theorem digsF_step {f k : Nat} (h : k ≠ 0) (acc : List UInt8) : digsF (f + 1) k acc = digsF f (k / 10) (UInt8.ofNat (48 + k % 10) :: acc) := by simp [digsF, h]
def mt (k : Nat) : ByteArray := bs (109 :: digs k [])
theorem str_dig (k : Nat) : strOf [48 + (k : Int) % 10] = bs [UInt8.ofNat (48 + k % 10)] := by
  unfold strOf bs
  have : (48 + (k : Int) % 10).toNat = 48 + k % 10 := by omega
  simp only [List.map_cons, List.map_nil, this]

set_option maxHeartbeats 1000000 in
theorem markText_any (k : Nat) (w : World) (h0 : 1 ≤ k) (h1 : k ≤ 100000000) : Calls Tryz.prog 107 #[.int .i64 k] w fun e w' => e = .returned (.string (mt k)) ∧ Below w.heap.size w w' := by
  have hs := str_new1
  have hk0 : ¬ (k : Int) ≤ 0 := by omega
  go_enter Tryz.func107, Tryz.ntmps107
  go_wp2
  go_loopw [0, 3] (fun j t wr => ∃ (i : Nat) (acc : List UInt8), i ≤ 100000000 ∧ j = .int .i64 i ∧ t = .string (bs acc) ∧ acc.length + i ≤ 200000000 ∧ (∃ f, i ≤ f ∧ digsF f i acc = digs k []) ∧ Below w.heap.size w wr) (fun j _ _ => (intOf j).toNat)
  case atStart => exact ⟨k, [], h1, rfl, rfl, by simp; omega, ⟨k, Nat.le_refl _, rfl⟩, Below.refl _ _⟩
  case round =>
    obtain ⟨i, acc, hi, rfl, rfl, hal, ⟨f, hf, hd⟩, hB⟩ := hrel
    have HD := Lib.hid hd
    clear hd
    by_cases hp : 0 < i
    · obtain ⟨f, rfl⟩ : ∃ g, f = g + 1 := ⟨f - 1, by omega⟩
      have hz : (bs acc).size ≤ 200000000 := by rw [bs_size]; omega
      have HX : Hid (strOf [48 + (i : Int) % 10] ++ bs acc = bs (UInt8.ofNat (48 + i % 10) :: acc)) := Lib.hid (by rw [str_dig, bs_app]; rfl)
      have hz1 : (strOf [48 + (i : Int) % 10]).size = 1 := rfl
      have hp' : 0 < (i : Int) := by omega
      have hr1 : (i : Int) % 10 ≤ 9 := by omega
      have hr0 : 0 ≤ (i : Int) % 10 := by omega
      have hzz : ¬ 9223372036854775807 < (strOf [48 + (i : Int) % 10]).size + (bs acc).size := by omega
      clear hz1
      go_wp2
      go_roundw
      case rel => exact ⟨i / 10, UInt8.ofNat (48 + i % 10) :: acc, by omega, by go_num, by rw [HX.out], by simp; omega, ⟨f, by omega, by rw [← HD.out, digsF_step (k := i) (by omega)]⟩, hB.alloc hB.size _⟩
      case measure => simp [intOf]; omega
    · obtain rfl : i = 0 := by omega
      have HE : Hid (acc = digs k []) := Lib.hid (by rw [← HD.out, digsF_zero])
      have hz : (bs acc).size ≤ 200000000 := by rw [bs_size]; omega
      go_wp2
      go_ret
      refine ⟨ret_str ?_, hB⟩
      unfold mt
      rw [← HE.out]
      exact bs_app [109] acc

theorem mark_set {ps : List (List UInt8)} {k m : Nat} (h : k < ps.length) : ((List.range k).map (fun j => Value.string (mt (m + j))) ++ strs (ps.drop k)).set k (.string (mt (m + k))) = (List.range (k + 1)).map (fun j => Value.string (mt (m + j))) ++ strs (ps.drop (k + 1)) := by
  have hl : ((List.range k).map (fun j => Value.string (mt (m + j)))).length = k := by simp
  rw [List.set_append_right _ _ (Nat.le_of_eq hl), hl, Nat.sub_self, List.drop_eq_getElem_cons h, List.range_succ]
  simp only [strs, List.map_cons, List.set_cons_zero, List.map_append, List.map_nil, List.append_assoc, List.cons_append, List.nil_append]
theorem mark_old {ps : List (List UInt8)} {k m : Nat} (h : k < ps.length) : ((List.range k).map (fun j => Value.string (mt (m + j))) ++ strs (ps.drop k))[k]? = some (.string (bs ps[k])) := by
  have hl : ((List.range k).map (fun j => Value.string (mt (m + j)))).length = k := by simp
  rw [List.getElem?_append_right (Nat.le_of_eq hl), hl, Nat.sub_self, List.drop_eq_getElem_cons h]
  rfl

/-- A row of marks, from m on. -/
def marks (m n : Nat) : List (List UInt8) := (List.range n).map fun j => 109 :: digs (m + j) []
theorem strs_marks (m n : Nat) : strs (marks m n) = (List.range n).map (fun j => Value.string (mt (m + j))) := by
  unfold strs marks mt; rw [List.map_map]; rfl
theorem marks_len (m n : Nat) : (marks m n).length = n := by simp [marks]
theorem marks_at (m n k : Nat) (h : k < (marks m n).length) : (marks m n)[k] = 109 :: digs (m + k) [] := by simp [marks]

/-- markStringS writes marks into a row of the call's own. -/
theorem markStringS_some (ps : List (List UInt8)) (g cap B m : Nat) (w : World) (hL : w.ownsRow B 9 1 (.slice (some ⟨g, 0, none⟩) ps.length cap) ps.length (strs ps)) (hm : 1 ≤ m) (hB0 : B ≤ w.heap.size) (hl : m + ps.length ≤ 90000000) :
    Calls Tryz.prog 58 #[.slice (some ⟨g, 0, none⟩) ps.length cap, .int .i64 m] w fun e w' => e = .returned (.int .i64 (m + ps.length)) ∧ Lst w' B (.slice (some ⟨g, 0, none⟩) ps.length cap) (marks m ps.length) ∧ Below B w w' := by
  have hgB : B ≤ g ∧ g < w.heap.size := hL.lt g rfl
  have hcap : ps.length ≤ cap := by
    rcases hL.2 with ⟨e, _⟩ | ⟨g', cap', cur, e, _, _, hn, _⟩
    · cases e
    · simp only [Value.slice.injEq, Option.some.injEq, Addr.mk.injEq, and_true, true_and] at e
      omega
  go_enter Tryz.func58, Tryz.ntmps58
  go_wp2
  go_loopw [1, 5] (fun t i wr => ∃ k : Nat, k ≤ ps.length ∧ i = .int .i64 k ∧ t = .int .i64 ((m + k : Nat) : Int) ∧ wr.ownsRow B 9 1 (.slice (some ⟨g, 0, none⟩) ps.length cap) ps.length ((List.range k).map (fun j => Value.string (mt (m + j))) ++ strs (ps.drop k)) ∧ Below B w wr) (fun _ i _ => ps.length - (intOf i).toNat)
  case atStart => exact ⟨0, Nat.zero_le _, rfl, rfl, by simpa using hL, Below.refl _ _⟩
  case round =>
    obtain ⟨k, hk, rfl, rfl, hown, hB⟩ := hrel
    by_cases hlt : k < ps.length
    · go_wp2_with fail
      refine (markText_any (m + k) _ (by omega) (by omega)).mono ?_
      rintro e w1 ⟨rfl, hb1⟩
      have hown1 : w1.ownsRow B 9 1 (.slice (some ⟨g, 0, none⟩) ps.length cap) ps.length ((List.range k).map (fun j => Value.string (mt (m + j))) ++ strs (ps.drop k)) := by
        refine hown.kept (row := none) ⟨hb1.os, hb1.tape, hb1.output, hb1.size, fun i hi _ => hb1.block i hi⟩ (.inr (by simp [Value.ownBlock]))
      have hold := (hown1.cellAt k (by omega)).trans (mark_old hlt)
      have hfz := hown1.frozenAt k
      obtain ⟨hs1, hs2⟩ := hown1.stored k (.string (mt (m + k)))
      rw [mark_set hlt] at hs1
      have hb2 : Below B w (w1.setCell ⟨g, k, none⟩ (.string (mt (m + k)))) := (hB.trans (hb1.mono (Nat.le_trans hB0 hB.size))).setCell (p := ⟨g, k, none⟩) hgB.1 _
      have HS1 := Lib.hid hs1
      have HB2 := Lib.hid hb2
      clear hs1 hs2 hb2 hown1 hown hb1
      go_wp2
      go_roundw
      case rel => exact ⟨k + 1, hlt, by go_num, by go_num, HS1.out, HB2.out⟩
      case measure => simp [intOf]; omega
    · obtain rfl : k = ps.length := by omega
      have HL : Hid (Lst wr B (.slice (some ⟨g, 0, none⟩) ps.length cap) (marks m ps.length)) := Lib.hid (by
        unfold Lst
        rw [strs_marks, marks_len]
        simpa [strs] using hown)
      clear hown
      go_wp2
      go_ret
      exact ⟨ret_int (by simp), HL.out, hB⟩

theorem below_drewN {w w1 : World} {B : Nat} (h : Below B w w1) (n : Nat) : Below B w (w1.drewN n) := ⟨h.os, h.tape, h.output, h.size, h.block⟩

/-- heldStringS finds the marks. -/
theorem heldStringS_some (n m : Nat) (v : Value) (w : World) (hR : Rd w v (marks m n)) (hm : 1 ≤ m) (hl : m + n ≤ 90000000) :
    Calls Tryz.prog 59 #[v, .int .i64 m] w fun e w' => e = .returned (.int .i64 (m + n)) ∧ Below w.heap.size w w' := by
  obtain ⟨o, c, rfl, hlc, hcm, hH⟩ := hR
  have hH' := fun i (hi : i < n) => hH i (by rw [marks_len]; exact hi)
  rw [marks_len] at hlc ⊢
  have HH : Hid (∀ i, i < n → ∃ g off, o = some ⟨g, off, none⟩ ∧ g < w.heap.size ∧ w.cell? ⟨g, off + i, none⟩ = some (.string (mt (m + i)))) := Lib.hid (fun i hi => by
    obtain ⟨g, off, e, hg, hc⟩ := hH' i hi
    refine ⟨g, off, e, hg, ?_⟩
    rw [hc, marks_at]; rfl)
  clear hH hH'
  unfold maxLen at hcm
  go_enter Tryz.func59, Tryz.ntmps59
  go_wp2
  go_loopw [1, 5] (fun t i wr => ∃ k : Nat, k ≤ n ∧ i = .int .i64 k ∧ t = .int .i64 ((m + k : Nat) : Int) ∧ Below w.heap.size w wr) (fun _ i _ => n - (intOf i).toNat)
  case atStart => exact ⟨0, Nat.zero_le _, rfl, rfl, Below.refl _ _⟩
  case round =>
    obtain ⟨k, hk, rfl, rfl, hB⟩ := hrel
    by_cases hlt : k < n
    · obtain ⟨g, off, rfl, hg, hc⟩ := HH.out k hlt
      have hcell : wr.cell? ⟨g, off + k, none⟩ = some (.string (mt (m + k))) := (hB.cell (p := ⟨g, off + k, none⟩) hg).trans hc
      clear hc
      have hin : Below wr.heap.size wr wr := Below.refl _ _
      go_wp2
      have z0 := fun d os => cell_regrown (w := wr) hcell d os
      refine wp_region_quiet_below (by kernel_rfl) (by kernel_rfl) ?_
      repeat (first | go_big_quiet_step ((go_at_call 107; exact Calls.regrown_of (markText_any (m + k) _ (by omega) (by omega)))) | quiet_step ((go_at_call 107; exact Calls.regrown_of (markText_any (m + k) _ (by omega) (by omega)))))
      refine wpQuiet_nil ?_
      intro w5 hwq
      have hb5 : Below wr.heap.size wr w5 := by
        obtain ⟨pp, rfl⟩ := hwq
        exact below_regrown _ _ _
      clear hwq z0
      go_wp2
      go_roundw
      case rel => exact ⟨k + 1, hlt, by go_num, by go_num, hB.trans (hb5.mono hB.size)⟩
      case measure => simp [intOf]; omega
    · obtain rfl : k = n := by omega
      go_wp2
      go_ret
      exact ⟨ret_int (by simp), hB⟩

set_option maxHeartbeats 400000 in
theorem markStringS_any (ps : List (List UInt8)) (v : Value) (B m : Nat) (w : World) (hL : Lst w B v ps) (hm : 1 ≤ m) (hB0 : B ≤ w.heap.size) (hl : m + ps.length ≤ 90000000) :
    Calls Tryz.prog 58 #[v, .int .i64 m] w fun e w' => e = .returned (.int .i64 (m + ps.length)) ∧ Lst w' B v (marks m ps.length) ∧ Below B w w' := by
  rcases hL.2 with ⟨rfl, h0⟩ | ⟨g, cap, cur, rfl, rest⟩
  · obtain rfl : ps = [] := List.eq_nil_of_length_eq_zero h0
    clear hL h0
    go_enter Tryz.func58, Tryz.ntmps58
    go_wp2
    go_rounds 1
    go_ret
    exact ⟨ret_int (by simp), Lst.nil _ _, Below.refl _ _⟩
  · exact markStringS_some ps g cap B m w hL hm hB0 hl
theorem lst_below {w w' : World} {B : Nat} {v : Value} {ps : List (List UInt8)} (h : Lst w B v ps) (hb : Below w.heap.size w w') : Lst w' B v ps := by
  refine World.ownsRow.kept h (row := none) ⟨hb.os, hb.tape, hb.output, hb.size, fun i hi _ => hb.block i hi⟩ ?_
  rcases h.2 with ⟨rfl, _⟩ | ⟨g, cap, cur, rfl, _⟩
  · exact .inl rfl
  · exact .inr (by simp [Value.ownBlock])
end Go.Proofs.YtgmkfhhlnhgkhaaGreatDoor


/-
  Contracts of the laws' helpers markEntryS, markNodeS, markFs on a file system of the call's own: they return a number that is not negative, and write into the file system's own blocks alone.
  Conditions: at most 2^20 values and letters together.
-/
namespace Go.Proofs.YtgmkfhhlnhgkhaaGreatDoor
open Go.ChangeShapes Go.WideShapes Go.ChangeAt Go.RowKit Go.Joins
set_option linter.unusedVariables false
set_option linter.unusedSimpArgs false

/-- Block G holds n cells at least, of elements of type T, none frozen. -/
def Shp (w : World) (G n : Nat) (T : TypeId) : Prop := ∃ cs, w.heap[G]? = some (.cells cs T (0, 0)) ∧ n ≤ cs.size
theorem Shp.lt {w : World} {G n : Nat} {T : TypeId} (h : Shp w G n T) : G < w.heap.size := by
  obtain ⟨cs, hg, _⟩ := h
  exact (Array.getElem?_eq_some_iff.1 hg).1
theorem Shp.set {w : World} {G n : Nat} {T : TypeId} (h : Shp w G n T) (H j : Nat) (u : Value) : Shp (w.setCell ⟨H, j, none⟩ u) G n T := by
  obtain ⟨cs, hg, hs⟩ := h
  by_cases e : G = H
  · subst e
    exact ⟨_, heap_setCell_same w G j cs T u hg, by simpa using hs⟩
  · exact ⟨cs, (Below.heap_setCell w ⟨H, j, none⟩ u G e).trans hg, hs⟩
theorem Shp.below {w w' : World} {G n : Nat} {T : TypeId} (h : Shp w G n T) (hb : Below w.heap.size w w') : Shp w' G n T := by
  obtain ⟨cs, hg, hs⟩ := h
  exact ⟨cs, (hb.block G (Array.getElem?_eq_some_iff.1 hg).1).trans hg, hs⟩
theorem Shp.cell {w : World} {G n : Nat} {T : TypeId} (h : Shp w G n T) {j : Nat} (hj : j < n) : ∃ u, w.cell? ⟨G, j, none⟩ = some u := by
  obtain ⟨cs, hg, hs⟩ := h
  exact ⟨cs[j], by simp [World.cell?, hg, show j < cs.size by omega]⟩
theorem Shp.frozen {w : World} {G n : Nat} {T : TypeId} (h : Shp w G n T) (j : Nat) : w.frozen? ⟨G, j, none⟩ = false := by
  obtain ⟨cs, hg, _⟩ := h
  exact frozen_of_row w G j cs T hg
theorem Shp.ne {w : World} {G H n m : Nat} {T U : TypeId} (h : Shp w G n T) (k : Shp w H m U) (hT : T ≠ U) : G ≠ H := by
  rintro rfl
  obtain ⟨cs, hg, _⟩ := h
  obtain ⟨ds, hd, _⟩ := k
  rw [hg] at hd
  cases hd
  exact hT rfl
theorem cell_set_ne {w : World} {G i j : Nat} {u : Value} (h : i ≠ j) : (w.setCell ⟨G, j, none⟩ u).cell? ⟨G, i, none⟩ = w.cell? ⟨G, i, none⟩ :=
  World.cell?_setCell_other _ _ _ _ (fun e => h (by cases e; rfl))
/-- From B on and ahead of E alone something was written; every block keeps its shape. -/
structure Wr (B E : Nat) (w w' : World) : Prop where
  bel : Below B w w'
  up : ∀ i, E ≤ i → i < w.heap.size → w'.heap[i]? = w.heap[i]?
  shp : ∀ G n T, Shp w G n T → Shp w' G n T
theorem Wr.refl (B E : Nat) (w : World) : Wr B E w w := ⟨Below.refl _ _, fun _ _ _ => rfl, fun _ _ _ h => h⟩
theorem Wr.trans {B E : Nat} {a b c : World} (h : Wr B E a b) (k : Wr B E b c) : Wr B E a c := ⟨h.bel.trans k.bel, fun i h1 h2 => (k.up i h1 (Nat.lt_of_lt_of_le h2 h.bel.size)).trans (h.up i h1 h2), fun G n T x => k.shp G n T (h.shp G n T x)⟩
theorem Wr.set {B E : Nat} {a b : World} (h : Wr B E a b) {H : Nat} (hH : B ≤ H) (hE : H < E) (j : Nat) (u : Value) : Wr B E a (b.setCell ⟨H, j, none⟩ u) := ⟨h.bel.setCell (p := ⟨H, j, none⟩) hH u, fun i h1 h2 => (Below.heap_setCell b ⟨H, j, none⟩ u i (by simp only; omega)).trans (h.up i h1 h2), fun G n T x => (h.shp G n T x).set H j u⟩
theorem Wr.below {B E : Nat} {a b c : World} (h : Wr B E a b) (hB : B ≤ b.heap.size) (k : Below b.heap.size b c) : Wr B E a c := ⟨h.bel.trans (k.mono hB), fun i h1 h2 => (k.block i (Nat.lt_of_lt_of_le h2 h.bel.size)).trans (h.up i h1 h2), fun G n T x => (h.shp G n T x).below k⟩

set_option maxHeartbeats 2000000 in
theorem markEntryS_shp (G n c B E k : Nat) (w : World) (hs : Shp w G (n * 2) 57) (hnc : n ≤ c) (hcm : c ≤ maxLen) (hB : B ≤ G) (hGE : G < E) (hBw : B ≤ w.heap.size) (hk : 1 ≤ k) (hkn : k + n * 2 ≤ 90000000) : Calls Tryz.prog 142 #[.slice (some ⟨G, 0, none⟩) n c, .int .i64 (k : Int)] w fun e w' => e = .returned (.int .i64 ((k + n * 2 : Nat) : Int)) ∧ Wr B E w w' ∧ ∀ b, b < w.heap.size → b ≠ G → w'.heap[b]? = w.heap[b]? := by
  have HS := Lib.hid hs
  clear hs
  unfold maxLen at hcm
  go_enter Tryz.func142, Tryz.ntmps142
  go_wp2
  go_loopw [1, 5] (fun t i wr => ∃ j : Nat, j ≤ n ∧ i = .int .i64 j ∧ t = .int .i64 ((k + j * 2 : Nat) : Int) ∧ Wr B E w wr ∧ ∀ b, b < w.heap.size → b ≠ G → wr.heap[b]? = w.heap[b]?) (fun _ i _ => n - (intOf i).toNat)
  case atStart => exact ⟨0, Nat.zero_le _, rfl, by simp, Wr.refl _ _ _, fun _ _ _ => rfl⟩
  case round =>
    obtain ⟨j, hj, rfl, rfl, hW, hO⟩ := hrel
    have HW := Lib.hid hW
    have HO := Lib.hid hO
    have hsz := hW.bel.size
    clear hW hO
    by_cases hlt : j < n
    · go_wp2_with fail
      refine (markText_any (k + j * 2) _ (by omega) (by omega)).mono ?_
      rintro e w1 ⟨rfl, hb1⟩
      have hs1 := (HW.out.shp _ _ _ HS.out).below hb1
      obtain ⟨u0, c0⟩ := hs1.cell (j := j * 2) (by omega)
      have f0 := hs1.frozen
      have HW1 := Lib.hid (HW.out.below (Nat.le_trans hBw HW.out.bel.size) hb1)
      have HO1 : Hid (∀ b, b < w.heap.size → b ≠ G → w1.heap[b]? = w.heap[b]?) := Lib.hid (fun b hb hn => (hb1.block b (by omega)).trans (HO.out b hb hn))
      have hs2 := hs1.set G (j * 2) (.string (mt (k + j * 2)))
      obtain ⟨u1, c1⟩ := hs1.cell (j := j * 2 + 1) (by omega)
      clear hb1 hs1 hs2
      go_wp2
      go_roundw
      case rel =>
        refine ⟨j + 1, hlt, by go_num, by go_num, (HW1.out.set hB hGE _ _).set hB hGE _ _, fun b hb hn => ?_⟩
        rw [Below.heap_setCell _ ⟨G, _, none⟩ _ b hn, Below.heap_setCell _ ⟨G, _, none⟩ _ b hn]
        exact HO1.out b hb hn
      case measure => simp [intOf]; omega
    · obtain rfl : j = n := by omega
      go_wp2
      go_ret
      exact ⟨rfl, HW.out, HO.out⟩
theorem markText_int (z : Int) (w : World) (h0 : 1 ≤ z) (h1 : z ≤ 100000000) : Calls Tryz.prog 107 #[.int .i64 z] w fun e w' => ∃ x, e = .returned (.string x) ∧ Below w.heap.size w w' := by
  obtain ⟨m, rfl⟩ : ∃ m : Nat, z = m := ⟨z.toNat, by omega⟩
  exact (markText_any m w (by omega) (by omega)).mono fun e w' ⟨h, h'⟩ => ⟨_, h, h'⟩
theorem markEntryS_int (G n c B E : Nat) (z : Int) (w : World) (hs : Shp w G (n * 2) 57) (hnc : n ≤ c) (hcm : c ≤ maxLen) (hB : B ≤ G) (hGE : G < E) (hBw : B ≤ w.heap.size) (hk : 1 ≤ z) (hkn : z + n * 2 ≤ 90000000) : Calls Tryz.prog 142 #[.slice (some ⟨G, 0, none⟩) n c, .int .i64 z] w fun e w' => e = .returned (.int .i64 (z + n * 2)) ∧ Wr B E w w' ∧ ∀ b, b < w.heap.size → b ≠ G → w'.heap[b]? = w.heap[b]? := by
  obtain ⟨m, rfl⟩ : ∃ m : Nat, z = m := ⟨z.toNat, by omega⟩
  exact (markEntryS_shp G n c B E m w hs hnc hcm hB hGE hBw (by omega) (by omega)).mono fun e w' ⟨h, h'⟩ => ⟨by rw [h]; rfl, h'⟩
/-- A list's value whose cells lie in a block from B on. -/
def LShp (w : World) (B E : Nat) (lv : Value) (m : Nat) : Prop := ∃ H c, lv = .slice (some ⟨H, 0, none⟩) m c ∧ m ≤ c ∧ c ≤ maxLen ∧ (B ≤ H ∧ H < E) ∧ Shp w H (m * 2) 57
def cntM (ms : List Nat) : Nat := (ms.map fun m => 6 + m * 2).sum
theorem cntM_take {ms : List Nat} {k : Nat} (h : k < ms.length) : cntM (ms.take (k + 1)) = cntM (ms.take k) + (6 + ms[k] * 2) := by
  unfold cntM; rw [List.take_succ_eq_append_getElem h]; simp only [List.map_append, List.sum_append, List.map_cons, List.map_nil, List.sum_cons, List.sum_nil, Nat.add_zero]
theorem cntM_pre (ms : List Nat) (k : Nat) : cntM (ms.take k) ≤ cntM ms := by
  conv => rhs; rw [← List.take_append_drop k ms]
  unfold cntM; rw [List.map_append, List.sum_append]; omega

set_option maxHeartbeats 4000000 in
theorem markNodeS_shp (G c B E : Nat) (ms : List Nat) (w : World) (hs : Shp w G (ms.length * 7) 50) (hL : ∀ i (h : i < ms.length), ∃ lv, w.cell? ⟨G, i * 7 + 6, none⟩ = some lv ∧ LShp w B E lv ms[i]) (hnc : ms.length ≤ c) (hcm : c ≤ maxLen) (hB : B ≤ G) (hGE : G < E) (hBw : B ≤ w.heap.size) (hkn : cntM ms ≤ 80000000) : Calls Tryz.prog 106 #[.slice (some ⟨G, 0, none⟩) ms.length c, .int .i64 1] w fun e w' => e = .returned (.int .i64 (1 + (cntM ms : Int))) ∧ Wr B E w w' := by
  have HS := Lib.hid hs
  have HL := Lib.hid hL
  clear hL hs
  unfold maxLen at hcm
  go_enter Tryz.func106, Tryz.ntmps106
  go_wp2
  go_loopw [1, 5] (fun t i wr => ∃ j : Nat, j ≤ ms.length ∧ i = .int .i64 j ∧ t = .int .i64 (1 + (cntM (ms.take j) : Int)) ∧ Wr B E w wr ∧ ∀ i (h : i < ms.length), wr.cell? ⟨G, i * 7 + 6, none⟩ = w.cell? ⟨G, i * 7 + 6, none⟩) (fun _ i _ => ms.length - (intOf i).toNat)
  case atStart => exact ⟨0, Nat.zero_le _, rfl, by simp [cntM], Wr.refl _ _ _, fun _ _ => rfl⟩
  case round =>
    obtain ⟨j, hj, rfl, rfl, hW, hC⟩ := hrel
    have HW := Lib.hid hW
    have HC := Lib.hid hC
    have hsz := hW.bel.size
    clear hW hC
    by_cases hlt : j < ms.length
    · obtain ⟨lv, hlv, H, c9, rfl, hm9, hc9, hB9, hS9⟩ := HL.out j hlt
      have HT := Lib.hid (cntM_take hlt)
      have hpre := cntM_pre ms (j + 1)
      rw [HT.out] at hpre
      have hsr := HW.out.shp _ _ _ HS.out
      obtain ⟨u0, c0⟩ := hsr.cell (j := j * 7) (by omega)
      obtain ⟨u1, c1⟩ := hsr.cell (j := j * 7 + 1) (by omega)
      obtain ⟨u2, c2⟩ := hsr.cell (j := j * 7 + 2) (by omega)
      obtain ⟨u3, c3⟩ := hsr.cell (j := j * 7 + 3) (by omega)
      obtain ⟨u4, c4⟩ := hsr.cell (j := j * 7 + 4) (by omega)
      have cf := hsr.frozen
      have hne9 : H ≠ G := fun e => (Shp.ne HS.out hS9 (by decide)) e.symm
      have HSR := Lib.hid hsr
      have HS9 := Lib.hid hS9
      have HLV := Lib.hid hlv
      obtain ⟨x0, hx0⟩ : ∃ x0 : Int, x0 = 1 + (cntM (ms.take j) : Int) := ⟨_, rfl⟩
      have HX0 := Lib.hid hx0
      have hx1 : 1 ≤ x0 := by omega
      have hx2 : x0 + 6 + ms[j] * 2 ≤ 80000001 := by rw [hx0]; omega
      rw [← hx0]
      clear hsr hS9 hlv hx0
      go_wp2_with fail
      refine (markText_int _ _ (by omega) (by omega)).mono ?_
      rintro e w1 ⟨x, rfl, hb1⟩
      have hs1 := (((((HSR.out.set G _ _).set G _ _).set G _ _).set G _ _).set G _ _).below hb1
      have hW1 := (((((HW.out.set hB hGE _ _).set hB hGE _ _).set hB hGE _ _).set hB hGE _ _).set hB hGE _ _).below (by simp; omega) hb1
      have hC1 : ∀ i (h : i < ms.length), w1.cell? ⟨G, i * 7 + 6, none⟩ = w.cell? ⟨G, i * 7 + 6, none⟩ := fun i h => by
        have h9 := hb1.cell (p := ⟨G, i * 7 + 6, none⟩) (by simpa using HSR.out.lt)
        rw [h9, cell_set_ne (by omega), cell_set_ne (by omega), cell_set_ne (by omega), cell_set_ne (by omega), cell_set_ne (by omega)]
        exact HC.out i h
      obtain ⟨u5, c5⟩ := hs1.cell (j := j * 7 + 5) (by omega)
      have cf1 := hs1.frozen
      have c6 : w1.cell? ⟨G, j * 7 + 6, none⟩ = some (.slice (some ⟨H, 0, none⟩) ms[j] c9) := (hC1 j hlt).trans HLV.out
      have HW2 : Hid (Wr B E w (w1.setCell ⟨G, j * 7 + 5, none⟩ (.string x))) := Lib.hid (hW1.set hB hGE _ _)
      have HC2 : Hid (∀ i (h : i < ms.length), (w1.setCell ⟨G, j * 7 + 5, none⟩ (.string x)).cell? ⟨G, i * 7 + 6, none⟩ = w.cell? ⟨G, i * 7 + 6, none⟩) := Lib.hid (fun i h => by rw [cell_set_ne (by omega)]; exact hC1 i h)
      have HGl : Hid (G < (w1.setCell ⟨G, j * 7 + 5, none⟩ (.string x)).heap.size) := Lib.hid (by simpa using hs1.lt)
      clear hs1 hW1 hC1 hb1 c0 c1 c2 c3 c4 cf
      go_wp2_with fail
      refine (markEntryS_int H ms[j] c9 B E _ _ (HW2.out.shp _ _ _ HS9.out) hm9 hc9 hB9.1 hB9.2 (Nat.le_trans hBw HW2.out.bel.size) (by omega) (by omega)).mono ?_
      rintro e w3 ⟨rfl, hW3, hO3⟩
      have HW3 := Lib.hid (HW2.out.trans hW3)
      have HC3 : Hid (∀ i (h : i < ms.length), w3.cell? ⟨G, i * 7 + 6, none⟩ = w.cell? ⟨G, i * 7 + 6, none⟩) := Lib.hid (fun i h => by
        rw [← HC2.out i h]
        have h9 := hO3 G HGl.out (fun e => hne9 e.symm)
        unfold World.cell?
        rw [h9])
      clear hW3 hO3
      go_wp2
      go_roundw
      case rel => exact ⟨j + 1, hlt, by go_num, by rw [HT.out, HX0.out]; congr 1; push_cast; omega, HW3.out, HC3.out⟩
      case measure => simp [intOf]; omega
    · obtain rfl : j = ms.length := by omega
      have HT : Hid (ms.take ms.length = ms) := Lib.hid (List.take_of_length_le (Nat.le_refl _))
      go_wp2
      go_ret
      exact ⟨ret_int (by rw [HT.out]), HW.out⟩

theorem RowAt.shp {w : World} {G n : Nat} {T : TypeId} {F : Nat → Value} (h : RowAt w G n T F) : Shp w G n T := by
  obtain ⟨cur, hg, hs, _⟩ := h
  exact ⟨cur, hg, hs⟩
theorem cnt_le (ns : List Nod) : cntM (ns.map fun n => n.list.length) ≤ 6 * ns.length + 2 * szNs ns := by
  unfold cntM szNs szN
  induction ns with
  | nil => simp
  | cons a r ih => simp only [List.map_cons, List.sum_cons, List.length_cons] at ih ⊢; omega
set_option maxRecDepth 100000 in
set_option maxHeartbeats 2000000 in
theorem markFs_own (f : FsD) (v : Value) (B : Nat) (w0 w : World) (hO : FsOwn w0 B v f) (hb0 : Below w0.heap.size w0 w) (hB0 : B ≤ w0.heap.size) (hs : szF f ≤ 1048576) : Calls Tryz.prog 57 #[v, .int .i64 1] w fun e w' => ∃ k : Int, 0 ≤ k ∧ k ≤ 100000000 ∧ e = .returned (.int .i64 k) ∧ Below B w w' ∧ ∀ i, w0.heap.size ≤ i → i < w.heap.size → w'.heap[i]? = w.heap[i]? := by
  have hBw : B ≤ w.heap.size := Nat.le_trans hB0 hb0.size
  obtain ⟨E, hEE⟩ : ∃ E, E = w0.heap.size := ⟨_, rfl⟩
  obtain ⟨nv, rfl, G, c, ps, rfl, hlc, hcm, hBG, hps, hr, hE⟩ := hO
  have hlp : ps.length = f.nodes.length := by rw [← hps]; simp
  have hml : (f.nodes.map fun n => n.list.length).length = f.nodes.length := by simp
  have hcnt : cntM (f.nodes.map fun n => n.list.length) ≤ 80000000 := by
    have h1 := cnt_le f.nodes
    unfold szF at hs
    omega
  have HSH := Lib.hid (hr.shp.below hb0)
  have hGE : G < E := by rw [hEE]; exact hr.lt
  have HLS : Hid (∀ i (h : i < (f.nodes.map fun n => n.list.length).length), ∃ lv, w.cell? ⟨G, i * 7 + 6, none⟩ = some lv ∧ LShp w B E lv (f.nodes.map fun n => n.list.length)[i]) := Lib.hid (fun i hi => by
    rw [hml] at hi
    have hip : i < ps.length := by omega
    have hn : (ps[i]).1 = f.nodes[i] := by
      have : (ps.map Prod.fst)[i]'(by simpa using hip) = f.nodes[i] := by simp [hps]
      rw [← this]; simp
    have hcell := hr.cell (j := i * 7 + 6) (by omega)
    have e1 : (i * 7 + 6) / 7 = i := by omega
    have e2 : (i * 7 + 6) % 7 = 6 := by omega
    refine ⟨(ps[i]).2, ?_, ?_⟩
    · rw [hb0.cell (p := ⟨G, i * 7 + 6, none⟩) hr.lt, hcell]
      unfold nodsF
      rw [e1, e2, List.getElem?_eq_getElem hip]
      rfl
    · obtain ⟨H, c9, e9, h1, h2, h3, hrr⟩ := hE _ (List.getElem_mem hip)
      rw [hn] at e9 h1 hrr
      simp only [List.getElem_map]
      exact ⟨H, c9, e9, h1, h2, ⟨by omega, by rw [hEE]; exact hrr.lt⟩, hrr.shp.below hb0⟩)
  have HWA : Hid (∀ o, Wr B E w (w.alloc o)) := Lib.hid (fun o => (Wr.refl B E w).below hBw ((Below.refl _ _).alloc (Nat.le_refl _) o))
  have HCA : Hid (∀ o i, (w.alloc o).cell? ⟨G, i, none⟩ = w.cell? ⟨G, i, none⟩) := Lib.hid (fun o i => ((Below.refl _ w).alloc (Nat.le_refl _) o).cell (p := ⟨G, i, none⟩) (Nat.lt_of_lt_of_le hr.lt hb0.size))
  obtain ⟨ms, hms⟩ : ∃ ms, ms = f.nodes.map fun n => n.list.length := ⟨_, rfl⟩
  rw [← hms] at HLS hcnt hml
  have hsh : Shp w G (ms.length * 7) 50 := by rw [hml]; exact HSH.out
  have HSM := Lib.hid hsh
  rw [← hml] at hlc ⊢
  clear hr hE hps hlp hms hsh hml
  go_enter Tryz.func57, Tryz.ntmps57
  go_wp2_with fail
  refine (markNodeS_shp G c B E ms _ ((HWA.out _).shp _ _ _ HSM.out) (fun i h => by
    obtain ⟨lv, h1, H, c9, e9, h2, h3, h4, h5⟩ := HLS.out i h
    exact ⟨lv, (HCA.out _ _).trans h1, H, c9, e9, h2, h3, h4, (HWA.out _).shp _ _ _ h5⟩) hlc hcm hBG hGE (Nat.le_trans hBw (HWA.out _).bel.size) hcnt).mono ?_
  rintro e w1 ⟨rfl, hW1⟩
  have HB1 := Lib.hid (((HWA.out _).trans hW1).bel)
  have HU1 : Hid (∀ i, w0.heap.size ≤ i → i < w.heap.size → w1.heap[i]? = w.heap[i]?) := Lib.hid (by rw [← hEE]; exact ((HWA.out _).trans hW1).up)
  clear hW1
  go_wp2
  go_ret
  exact ⟨_, by omega, by omega, rfl, HB1.out, HU1.out⟩
end Go.Proofs.YtgmkfhhlnhgkhaaGreatDoor
