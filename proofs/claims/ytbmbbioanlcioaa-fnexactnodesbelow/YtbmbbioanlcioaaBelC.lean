
/-
  NodesBelow of the model and of the program.
  Conditions: at most 2^20 values and letters together.
-/
import Derived.Test.YtbmbbioanlcioaaBelA
import Derived.Test.YtbmbbioanlcioaaBelB
import Derived.Test.YtbmbbioanlcioaaDeepC
import Derived.Test.YtbmbbioanlcioaaShelf
import Derived.Sort.OwnSortedInts
namespace Go.Proofs.Ytbmbbioanlcioaa
open Go.ChangeShapes Go.WideShapes Go.ChangeAt Go.RowKit Go.Joins
set_option linter.unusedVariables false
set_option linter.unusedSimpArgs false

theorem bi_self (ns : List Nod) (k i : Nat) : (i : Int) ∈ biF ns k i := by
  cases k <;> simp [biF]
theorem bi_reach {ns : List Nod} : ∀ (k i : Nat), Down ns k i → ∀ x ∈ biF ns k i, Reach ns (i : Int) x
  | 0, i, _, x, hx => by
    have : x = (i : Int) := by simpa [biF] using hx
    subst this; exact .refl
  | k + 1, i, hD, x, hx => by
    rcases List.mem_cons.1 hx with rfl | hx
    · exact .refl
    · obtain ⟨e, he, hx⟩ := List.mem_flatMap.1 hx
      obtain ⟨⟨h0, h1⟩, hd⟩ := hD e he
      have h2 := bi_reach k e.node.toNat hd x hx
      rw [show ((e.node.toNat : Nat) : Int) = e.node by omega] at h2
      exact Reach.from_kid (List.mem_map.2 ⟨e, he, rfl⟩) h2
theorem bi_kids {ns : List Nod} : ∀ (k i : Nat), Down ns k i → ∀ b ∈ biF ns k i, ∀ c ∈ kids ns b, c ∈ biF ns k i
  | 0, i, hD, b, hb, c, hc => by
    have : b = (i : Int) := by simpa [biF] using hb
    subst this
    obtain ⟨e, he, rfl⟩ := List.mem_map.1 hc
    have h9 : e ∈ lsAt ns i := he
    rw [show lsAt ns i = [] from hD] at h9
    cases h9
  | k + 1, i, hD, b, hb, c, hc => by
    rcases List.mem_cons.1 hb with rfl | hb
    · obtain ⟨e, he, rfl⟩ := List.mem_map.1 hc
      have h9 : e ∈ lsAt ns i := he
      obtain ⟨⟨h0, h1⟩, hd⟩ := hD e h9
      refine List.mem_cons.2 (.inr (List.mem_flatMap.2 ⟨e, h9, ?_⟩))
      have h2 := bi_self ns k e.node.toNat
      rwa [show ((e.node.toNat : Nat) : Int) = e.node by omega] at h2
    · obtain ⟨e, he, hb⟩ := List.mem_flatMap.1 hb
      obtain ⟨-, hd⟩ := hD e he
      exact List.mem_cons.2 (.inr (List.mem_flatMap.2 ⟨e, he, bi_kids k _ hd b hb c hc⟩))
theorem bi_iff {ns : List Nod} {k i : Nat} (hD : Down ns k i) (x : Int) : x ∈ biF ns k i ↔ Reach ns (i : Int) x := by
  refine ⟨bi_reach k i hD x, fun h => ?_⟩
  induction h with
  | refl => exact bi_self ns k i
  | step _ hk ih => exact bi_kids k i hD _ ih _ hk
/-- What NodesBelow tells. -/
noncomputable def nbR (f : FsD) (node : Int) : List Int := if linksK f node = true then srt (biF f.nodes (f.nodes.length + 1) node.toNat) else []
theorem srt_len (zs : List Int) : (srt zs).length ≤ zs.length := by
  unfold srt Lib.compact Lib.compactUpTo
  rw [List.length_map]
  refine Nat.le_trans (List.length_filter_le _ _) ?_
  simp
theorem nbR_len (f : FsD) (hs : szF f ≤ 1048576) (node : Int) : (nbR f node).length ≤ 50000000 := by
  unfold nbR
  split
  · rename_i h
    obtain ⟨h1, h2, h3, h4⟩ := links_in h
    refine Nat.le_trans (srt_len _) ?_
    rw [bi_wy f.nodes _ _ []]
    exact wy_small h1 hs (by omega) (by omega) false []
  · simp
theorem tupVBi {v : Value} {a b : Bool} (h : a = b) : Ending.returned (Value.tuple #[v, .bool a]) = .returned (.tuple #[v, .bool b]) := by rw [h]
theorem own_take {w : World} {B g n n' cap : Nat} {e : TypeId} {xs : List Value} (h : w.ownsRow B e 1 (.slice (some ⟨g, 0, none⟩) n cap) n xs) (hn : n' ≤ n) : w.ownsRow B e 1 (.slice (some ⟨g, 0, none⟩) n' cap) n' (xs.take n') := by
  obtain ⟨hl, hd⟩ := h
  rcases hd with ⟨e1, h0⟩ | ⟨g1, cap1, cur, e1, hB, hg, hc, hm, hs, ht⟩
  · cases e1
  · simp only [Value.slice.injEq, Option.some.injEq, Addr.mk.injEq, and_true, true_and] at e1
    obtain ⟨rfl, rfl⟩ := e1
    have hxl : xs.length = n := by simpa using hl
    refine ⟨by simp; omega, .inr ⟨g, cap, cur, rfl, hB, hg, by omega, hm, hs, ?_⟩⟩
    rw [← ht, List.take_take]
    congr 1
    omega
set_option maxHeartbeats 2000000 in
theorem specNodesBelow_any (f : FsD) (node : Int) (v : Value) (w : World) (hR : FsA w v f) (hs : szF f ≤ 1048576) : Calls Try.prog 18 #[v, .int .i64 node] w fun e w' => ∃ lv, e = .returned (.tuple #[lv, .bool (linksK f node)]) ∧ RdI w' lv (nbR f node) ∧ Below w.heap.size w w' := by
  have HR := Lib.hid hR
  obtain ⟨nv, rfl, hN⟩ := hR
  obtain ⟨o, c, rfl, hm, -⟩ := hN
  have HS := Lib.hid hs
  have HB := Lib.hid ((Below.refl w.heap.size w).alloc (Nat.le_refl _) (.cells #[.slice o f.nodes.length c, .int .i64 f.room] 31))
  have HK := Lib.hid (heap_alloc_new w (.cells #[.slice o f.nodes.length c, .int .i64 f.room] 31))
  clear hs
  by_cases hg : linksK f node = true
  · have HG := Lib.hid hg
    obtain ⟨h1, h2, h3, h4⟩ := links_in hg
    obtain ⟨m, rfl⟩ : ∃ m : Nat, node = m := ⟨node.toNat, by omega⟩
    have hml : m < f.nodes.length := by omega
    have HV : Hid (nbR f (m : Int) = srt (biF f.nodes (f.nodes.length + 1) m)) := Lib.hid (by unfold nbR; rw [HG.out]; simp)
    have HD := Lib.hid (down_all h1 hml)
    have HLD := Lib.hid (lead_of (goodF_GoodF h1).2.2.2.2.1)
    have HLS := Lib.hid (fun n (hn : n ∈ f.nodes) => ((lists_small HS.out).2 n hn).1)
    clear hg h1
    go_enter Try.func18, Try.ntmps18
    go_wp2_with fail
    refine (l7Asked_any f _ _ _ (HR.out.below HB.out) HS.out).mono ?_
    rintro e w1 ⟨rfl, hb1⟩
    rw [HG.out]
    have HB1 := Lib.hid (HB.out.trans (hb1.mono HB.out.size))
    have HK1 := Lib.hid ((hb1.block w.heap.size (lt_of_heap HK.out)).trans HK.out)
    have x1 := (cell_blk HK1.out 0).trans rfl
    have y1 := (cell_blk HK1.out 1).trans rfl
    clear hb1
    go_wp2_with fail
    refine (l3Met_sort f HLD.out (by omega) HLS.out _ [] (m : Int) _ _ _ rfl (HR.out.below HB1.out) (RdI.nil _) ⟨List.nodup_nil, fun x hx => by cases hx⟩ List.Pairwise.nil (by omega) (by omega)).mono ?_
    rintro e w2 ⟨lv, M, rfl, hL2, hM2, hb2, hS2⟩
    have HB2 := Lib.hid (HB1.out.trans (hb2.mono HB1.out.size))
    have HE : Hid (M = nbR f (m : Int)) := Lib.hid (by
      rw [HV.out]
      obtain ⟨s1, s2⟩ := srt_up (biF f.nodes (f.nodes.length + 1) m)
      exact rise_ext _ _ hS2 s1 (fun x => by rw [s2, hM2.all, bi_iff HD.out]))
    have HL2 := Lib.hid hL2
    clear hb2 hL2 hM2 hS2
    go_wp2
    go_ret2
    exact ⟨_, tupVBi HG.out.symm, by rw [← HE.out]; exact HL2.out, HB2.out⟩
  · have HG : Hid (linksK f node = false) := Lib.hid (by simpa using hg)
    have HV : Hid (nbR f node = []) := Lib.hid (by unfold nbR; rw [HG.out]; rfl)
    clear hg
    go_enter Try.func18, Try.ntmps18
    go_wp2_with fail
    refine (l7Asked_any f _ _ _ (HR.out.below HB.out) HS.out).mono ?_
    rintro e w1 ⟨rfl, hb1⟩
    rw [HG.out]
    have HB1 := Lib.hid (HB.out.trans (hb1.mono HB.out.size))
    clear hb1
    go_wp2
    go_ret2
    exact ⟨_, tupVBi HG.out.symm, by rw [HV.out]; exact RdI.nil _, HB1.out⟩
/-- slices.Sort on a list of the call's own. -/
theorem sort_own (zs : List Int) (hz : zs ≠ []) (B : Nat) (v : Value) (w : World) (h : LstI w B v zs) (hs : zs.length ≤ 50000000) : Calls Try.prog 38 #[v] w fun e w' => e = .returned (.tuple #[]) ∧ LstI w' B v (zs.mergeSort fun x y => decide (x ≤ y)) ∧ w.grownBy w' v.ownBlock := by
  rcases h.2 with ⟨rfl, h0⟩ | ⟨g, cap, cur, rfl, hB, hg, hn, hm, hcs, ht⟩
  · exact absurd (List.eq_nil_of_length_eq_zero h0) hz
  · rw [Nat.mul_one] at ht
    refine (Try.slices_Sort_int g 0 cap zs w (holds_of_blockI hg ht) (lt_of_heap hg) (by omega)).mono ?_
    rintro e w' ⟨rfl, n, os, rfl⟩
    have hl : (zs.mergeSort fun x y => decide (x ≤ y)).length = zs.length := List.length_mergeSort _
    refine ⟨rfl, ?_, grownBy_sortedI _⟩
    unfold LstI
    rw [hl]
    exact ownsRow_sortedI hl hB hg hn hm hcs
/-- slices.Compact on a list of the call's own. -/
theorem compact_own (zs : List Int) (hz : zs ≠ []) (B : Nat) (v : Value) (w : World) (h : LstI w B v zs) (hs : zs.length ≤ 50000000) : Calls Try.prog 39 #[v] w fun e w' => ∃ v', e = .returned v' ∧ LstI w' B v' (Lib.compact zs) ∧ w.grownBy w' v.ownBlock := by
  rcases h.2 with ⟨rfl, h0⟩ | ⟨g, cap, cur, rfl, hB, hg, hn, hm, hcs, ht⟩
  · exact absurd (List.eq_nil_of_length_eq_zero h0) hz
  · rw [Nat.mul_one] at ht
    refine (Try.slices_Compact_int g 0 cap zs w (holds_of_blockI hg ht) (by omega) hn).mono ?_
    rintro e w' ⟨rfl, q, rfl⟩
    have hcl : (Lib.compact zs).length ≤ zs.length := by
      unfold Lib.compact Lib.compactUpTo
      rw [List.length_map]
      refine Nat.le_trans (List.length_filter_le _ _) ?_
      simp
    have hl : (Lib.compact zs ++ List.replicate (zs.length - (Lib.compact zs).length) 0).length = zs.length := by simp; omega
    have hgr : ∀ W : World, Go.Sort.grow W #[] = W := fun W => by unfold Go.Sort.grow; simp
    have h1 := ownsRow_sortedI (w := w) (n := q) (os := #[]) (base := B) hl hB hg hn hm hcs
    have h2 := grownBy_sortedI (w := w) (g := g) (n := q) (os := #[]) (Lib.compact zs ++ List.replicate (zs.length - (Lib.compact zs).length) 0).toArray
    rw [hgr] at h1 h2
    refine ⟨_, rfl, ?_, h2⟩
    have h3 := own_take h1 hcl
    unfold LstI
    have e3 : List.take (Lib.compact zs).length (List.map (Value.int .i64) (Lib.compact zs ++ List.replicate (zs.length - (Lib.compact zs).length) 0)) = ints (Lib.compact zs) := by
      rw [List.map_append, List.take_left' (by simp)]; rfl
    rw [e3] at h3
    exact h3
end Go.Proofs.Ytbmbbioanlcioaa
