
/-
  Nodes in memory; contracts of the laws' helpers szNode, szNodeS, szFs, toNode, toNodeS, toFs.
  Conditions: at most 2^20 values and letters together for the copies.
-/
import Derived.Test.YtbmbbioanlcioaaFsN
namespace Go.Proofs.Ytbmbbioanlcioaa
open Go.ChangeShapes Go.WideShapes Go.ChangeAt Go.RowKit Go.Joins
set_option linter.unusedVariables false

/-- Seven cells from p on are a node whose list is lv. -/
structure NodC (w : World) (g p : Nat) (lv : Value) (n : Nod) : Prop where
  c0 : w.cell? ⟨g, p, none⟩ = some (.int .i64 n.kind)
  c1 : w.cell? ⟨g, p + 1, none⟩ = some (.int .i64 n.mode)
  c2 : w.cell? ⟨g, p + 2, none⟩ = some (.int .i64 n.uid)
  c3 : w.cell? ⟨g, p + 3, none⟩ = some (.int .i64 n.gid)
  c4 : w.cell? ⟨g, p + 4, none⟩ = some (.int .i64 n.time)
  c5 : w.cell? ⟨g, p + 5, none⟩ = some (.string (bs n.data))
  c6 : w.cell? ⟨g, p + 6, none⟩ = some lv
theorem NodC.below {w w' : World} {g p B : Nat} {lv : Value} {n : Nod} (h : NodC w g p lv n) (hb : Below B w w') (hg : g < B) : NodC w' g p lv n :=
  ⟨(hb.cell (p := ⟨g, p, none⟩) hg).trans h.c0, (hb.cell (p := ⟨g, p + 1, none⟩) hg).trans h.c1, (hb.cell (p := ⟨g, p + 2, none⟩) hg).trans h.c2, (hb.cell (p := ⟨g, p + 3, none⟩) hg).trans h.c3,
   (hb.cell (p := ⟨g, p + 4, none⟩) hg).trans h.c4, (hb.cell (p := ⟨g, p + 5, none⟩) hg).trans h.c5, (hb.cell (p := ⟨g, p + 6, none⟩) hg).trans h.c6⟩

/-- The value reads as a list of nodes. -/
def NodsA (w : World) (v : Value) (ns : List Nod) : Prop :=
  ∃ o c, v = .slice o ns.length c ∧ ns.length ≤ maxLen ∧ ∀ i (h : i < ns.length), ∃ g off lv, o = some ⟨g, off, none⟩ ∧ g < w.heap.size ∧ NodC w g (off + i * 7) lv ns[i] ∧ EntsA w lv ns[i].list ∧ ns[i].data.length ≤ maxLen
theorem NodsA.below {w w' : World} {v : Value} {ns : List Nod} (h : NodsA w v ns) (hb : Below w.heap.size w w') : NodsA w' v ns := by
  obtain ⟨o, c, rfl, hm, hH⟩ := h
  refine ⟨o, c, rfl, hm, fun i hi => ?_⟩
  obtain ⟨g, off, lv, e, hg, hc, he, hd⟩ := hH i hi
  exact ⟨g, off, lv, e, Nat.lt_of_lt_of_le hg hb.size, hc.below hb hg, he.below hb, hd⟩
/-- The value reads as a file system. -/
def FsA (w : World) (v : Value) (f : FsD) : Prop := ∃ nv, v = .agg #[nv, .int .i64 f.room] ∧ NodsA w nv f.nodes
theorem FsA.below {w w' : World} {v : Value} {f : FsD} (h : FsA w v f) (hb : Below w.heap.size w w') : FsA w' v f := by
  obtain ⟨nv, e, h1⟩ := h
  exact ⟨nv, e, h1.below hb⟩

def szN (n : Nod) : Nat := n.data.length + (n.list.length + lensE n.list)
def szNs (ns : List Nod) : Nat := (ns.map szN).sum
theorem szNs_take {ns : List Nod} {k : Nat} (h : k < ns.length) : szNs (ns.take (k + 1)) = szNs (ns.take k) + szN ns[k] := by
  unfold szNs; rw [List.take_succ_eq_append_getElem h]; simp only [List.map_append, List.sum_append, List.map_cons, List.map_nil, List.sum_cons, List.sum_nil, Nat.add_zero]
theorem szNs_pre (ns : List Nod) (k : Nat) : szNs (ns.take k) ≤ szNs ns := by
  conv => rhs; rw [← List.take_append_drop k ns]
  unfold szNs; rw [List.map_append, List.sum_append]; omega

theorem less_yes {n : Nat} {left : Int} (h : (n : Int) ≤ left) : lessR n left = left - n := by unfold lessR; rw [if_pos h]
theorem less_no {n : Nat} {left : Int} (h : ¬ (n : Int) ≤ left) : lessR n left = -1 := by unfold lessR; rw [if_neg h]

set_option maxHeartbeats 1000000 in
theorem szNode_any (k m u gi t : Int) (x : ByteArray) (lv : Value) (es : List Ent) (left : Int) (w : World) (hE : EntsA w lv es) (h0 : 0 ≤ left) (h1 : left ≤ 1048576) (hx : x.size ≤ 9223372036854775807) :
    Calls Try.prog 42 #[.agg #[.int .i64 k, .int .i64 m, .int .i64 u, .int .i64 gi, .int .i64 t, .string x, lv], .int .i64 left] w fun e w' => e = .returned (.int .i64 (lessR (x.size + (es.length + lensE es)) left)) ∧ Below w.heap.size w w' := by
  obtain ⟨o, c, rfl, _, _⟩ := id hE
  have HE := Lib.hid hE
  clear hE
  by_cases h : (x.size : Int) ≤ left
  · have h2 : 0 ≤ left - (x.size : Int) := by omega
    have hbw : Below w.heap.size w (w.alloc (.cells #[.int .i64 k, .int .i64 m, .int .i64 u, .int .i64 gi, .int .i64 t, .string x, .slice o es.length c] 61)) := (Below.refl _ _).alloc (Nat.le_refl _) _
    have HBW := Lib.hid hbw
    clear hbw
    by_cases h3 : ((es.length + lensE es : Nat) : Int) ≤ left - x.size
    · have HQ := Lib.hid (less_yes h3)
      have HR : Hid (lessR (x.size + (es.length + lensE es)) left = left - x.size - (es.length + lensE es : Nat)) := Lib.hid (by rw [less_yes (by omega)]; omega)
      have h4 : 0 ≤ left - (x.size : Int) - ((es.length + lensE es : Nat) : Int) := by omega
      go_enter Try.func42, Try.ntmps42
      go_wp2_with fail
      refine (szEntryS_any es _ _ _ (HE.out.below HBW.out) (by omega) (by omega)).mono ?_
      rintro e w1 ⟨rfl, hb1⟩
      rw [HQ.out]
      go_wp2
      go_ret
      exact ⟨ret_int HR.out.symm, HBW.out.trans (hb1.mono HBW.out.size)⟩
    · have HQ := Lib.hid (less_no h3)
      have HR : Hid (lessR (x.size + (es.length + lensE es)) left = -1) := Lib.hid (less_no (by omega))
      go_enter Try.func42, Try.ntmps42
      go_wp2_with fail
      refine (szEntryS_any es _ _ _ (HE.out.below HBW.out) (by omega) (by omega)).mono ?_
      rintro e w1 ⟨rfl, hb1⟩
      rw [HQ.out]
      go_wp2
      go_ret
      exact ⟨ret_int HR.out.symm, HBW.out.trans (hb1.mono HBW.out.size)⟩
  · have HR : Hid (lessR (x.size + (es.length + lensE es)) left = -1) := Lib.hid (less_no (by omega))
    have h2 : left - (x.size : Int) < 0 := by omega
    go_enter Try.func42, Try.ntmps42
    go_wp2
    go_ret
    exact ⟨ret_int HR.out.symm, (Below.refl _ _).alloc (Nat.le_refl _) _⟩

set_option maxHeartbeats 1000000 in
theorem szNodeS_any (ns : List Nod) (v : Value) (w : World) (left : Int) (hR : NodsA w v ns) (h0 : 0 ≤ left) (hl : left ≤ 1048576) : Calls Try.prog 25 #[v, .int .i64 left] w fun e w' => e = .returned (.int .i64 (lessR (ns.length + szNs ns) left)) ∧ Below w.heap.size w w' := by
  obtain ⟨o, c, rfl, hm, hH⟩ := hR
  have HH := Lib.hid hH
  clear hH
  unfold maxLen at hm
  by_cases hq : left < ns.length
  · have HZ : Hid (lessR (ns.length + szNs ns) left = -1) := Lib.hid (less_no (by omega))
    go_enter Try.func25, Try.ntmps25
    go_wp2
    go_ret
    exact ⟨ret_int HZ.out.symm, Below.refl _ _⟩
  · have h0' : (ns.length : Int) ≤ left := by omega
    go_enter Try.func25, Try.ntmps25
    go_wp2
    go_loopw [1, 5] (fun t i wr => ∃ k : Nat, k ≤ ns.length ∧ i = .int .i64 k ∧ (ns.length : Int) + szNs (ns.take k) ≤ left ∧ t = .int .i64 (left - ns.length - szNs (ns.take k)) ∧ Below w.heap.size w wr) (fun _ i _ => ns.length - (intOf i).toNat)
    case atStart => exact ⟨0, Nat.zero_le _, rfl, by simpa [szNs] using h0', by simp [szNs], Below.refl _ _⟩
    case round =>
      obtain ⟨k, hk, rfl, hA, rfl, hB⟩ := hrel
      by_cases hlt : k < ns.length
      · obtain ⟨g, off, lv, rfl, hg, hc, he, hml⟩ := HH.out k hlt
        have HS := Lib.hid (szNs_take hlt)
        obtain ⟨d0, d1, d2, d3, d4, d5, d6⟩ := hc.below hB hg
        obtain ⟨q, hqq⟩ : ∃ q, q = ns[k] := ⟨_, rfl⟩
        rw [← hqq] at d0 d1 d2 d3 d4 d5 he hml HS
        have HE := Lib.hid (he.below hB)
        obtain ⟨o2, c2, rfl, _, _⟩ := id he
        have HZ : Hid ((bs q.data).size = q.data.length) := Lib.hid (bs_size _)
        have hx : (bs q.data).size ≤ 9223372036854775807 := by rw [HZ.out]; unfold maxLen at hml; omega
        have HN : Hid (szN q = (bs q.data).size + (q.list.length + lensE q.list)) := Lib.hid (by rw [HZ.out]; rfl)
        obtain ⟨x, hxx⟩ : ∃ x, x = bs q.data := ⟨_, rfl⟩
        rw [← hxx] at d5 hx HN
        clear hc he hml hqq hxx HZ
        by_cases hlt2 : ((szN q : Nat) : Int) ≤ left - ns.length - szNs (ns.take k)
        · have HQ := Lib.hid (less_yes hlt2)
          have h3 : 0 ≤ left - (ns.length : Int) - (szNs (ns.take k) : Int) - (szN q : Int) := by omega
          go_wp2_with fail
          refine (szNode_any _ _ _ _ _ _ _ _ _ _ HE.out (by omega) (by omega) hx).mono ?_
          rintro e w1 ⟨rfl, hb1⟩
          rw [← HN.out, HQ.out]
          go_wp2
          go_roundw
          case rel => exact ⟨k + 1, hlt, by go_num, by rw [HS.out]; omega, by rw [HS.out]; go_num, hB.trans (hb1.mono hB.size)⟩
          case measure => simp [intOf]; omega
        · have HQ := Lib.hid (less_no hlt2)
          have HR : Hid (lessR (ns.length + szNs ns) left = -1) := Lib.hid (by
            have h1 := szNs_pre ns (k + 1)
            rw [HS.out] at h1
            exact less_no (by omega))
          go_wp2_with fail
          refine (szNode_any _ _ _ _ _ _ _ _ _ _ HE.out (by omega) (by omega) hx).mono ?_
          rintro e w1 ⟨rfl, hb1⟩
          rw [← HN.out, HQ.out]
          go_wp2
          go_ret
          exact ⟨ret_int HR.out.symm, hB.trans (hb1.mono hB.size)⟩
      · have HT : Hid (ns.take k = ns) := Lib.hid (List.take_of_length_le (by omega))
        have HR : Hid (lessR (ns.length + szNs ns) left = left - ns.length - szNs (ns.take k)) := Lib.hid (by rw [HT.out] at hA ⊢; rw [less_yes (by omega)]; omega)
        go_wp2
        go_ret
        exact ⟨ret_int HR.out.symm, hB⟩

def szF (f : FsD) : Nat := f.nodes.length + szNs f.nodes
set_option maxHeartbeats 1000000 in
theorem szFs_any (f : FsD) (v : Value) (w : World) (left : Int) (hR : FsA w v f) (h0 : 0 ≤ left) (hl : left ≤ 1048576) : Calls Try.prog 7 #[v, .int .i64 left] w fun e w' => e = .returned (.int .i64 (lessR (szF f) left)) ∧ Below w.heap.size w w' := by
  obtain ⟨nv, rfl, hN⟩ := hR
  obtain ⟨o, c, rfl, _, _⟩ := id hN
  have HN := Lib.hid hN
  have HBW : Hid (Below w.heap.size w (w.alloc (.cells #[.slice o f.nodes.length c, .int .i64 f.room] 24))) := Lib.hid ((Below.refl _ _).alloc (Nat.le_refl _) _)
  clear hN
  by_cases h : ((szF f : Nat) : Int) ≤ left
  · have HQ := Lib.hid (less_yes h)
    have h3 : 0 ≤ left - (szF f : Int) := by omega
    have HF : Hid (lessR (f.nodes.length + szNs f.nodes) left = left - (szF f : Int)) := Lib.hid HQ.out
    go_enter Try.func7, Try.ntmps7
    go_wp2_with fail
    refine (szNodeS_any f.nodes _ _ _ (HN.out.below HBW.out) h0 hl).mono ?_
    rintro e w1 ⟨rfl, hb1⟩
    rw [HF.out]
    go_wp2
    go_ret
    exact ⟨ret_int HQ.out.symm, HBW.out.trans (hb1.mono HBW.out.size)⟩
  · have HQ := Lib.hid (less_no h)
    have HF : Hid (lessR (f.nodes.length + szNs f.nodes) left = -1) := Lib.hid HQ.out
    go_enter Try.func7, Try.ntmps7
    go_wp2_with fail
    refine (szNodeS_any f.nodes _ _ _ (HN.out.below HBW.out) h0 hl).mono ?_
    rintro e w1 ⟨rfl, hb1⟩
    rw [HF.out]
    go_wp2
    go_ret
    exact ⟨ret_int HQ.out.symm, HBW.out.trans (hb1.mono HBW.out.size)⟩
end Go.Proofs.Ytbmbbioanlcioaa
