/-
  Joined: GivS.
  Conditions: as each states.
-/
import Derived.Deep.RegionWith
import Derived.Test.YtpkmkpeabfmbiaaGreatDoorLib20
import Derived.Test.YtpkmkpeabfmbiaaGreatDoorLib25

/-
  The program's giveNode and SetOwner.
  Conditions: at most 2^20 values and letters together; a text of at most 2^20 bytes; the variable errors.errorType as the program's text lays it.
-/
namespace Go.Proofs.YtpkmkpeabfmbiaaGreatDoor
open Go.ChangeShapes Go.WideShapes Go.ChangeAt Go.RowKit Go.Joins Go.Shelf
set_option linter.unusedVariables false
set_option linter.unusedSimpArgs false

/-- What the program asks: the same as the model, of numbers from -1 on. -/
theorem giv_is {u g xu xg nu ng : Int} (h1 : -1 ≤ nu) (h2 : -1 ≤ ng) (hx : 0 ≤ xu) (hy : 0 ≤ xg) : givB u g xu xg nu ng = true ↔ (u = 0 ∨ (u = xu ∧ ((newU nu xu = xu ∧ newU ng xg = xg) ∨ (newU nu xu = u ∧ newU ng xg = g)))) := by
  unfold givB newU
  simp only [Bool.or_eq_true, Bool.and_eq_true, beq_iff_eq]
  constructor
  · rintro (h | ⟨h, h3, h4⟩)
    · exact .inl h
    · refine .inr ⟨h, ?_⟩
      split <;> split <;> omega
  · rintro (h | ⟨h, h3⟩)
    · exact .inl h
    · refine .inr ⟨h, ?_⟩
      split at h3 <;> split at h3 <;> omega
theorem newU_at {nu xu : Int} (h : -1 ≤ nu) : newU nu xu = if nu = -1 then xu else nu := by
  unfold newU
  by_cases c : nu = -1
  · subst c; simp
  · rw [if_neg c, if_pos (by omega)]

set_option maxRecDepth 100000 in
set_option maxHeartbeats 2000000 in
theorem give_no1_00 (u g nu ng xu xg : Int) (R gg cc nd : Nat) (ps : List (Nod × Value)) (w1 : World) (hO : Own w1 R (.slice (some ⟨gg, 0, none⟩) ps.length cc) ps) (hnd : nd < ps.length) (hu : ps[nd].1.uid = xu) (hg : ps[nd].1.gid = xg) (h0 : (nu != -1) = false) (h1 : (ng != -1) = false) (h2 : (u != 0) = true) (h3 : (u != xu) = true) :
    Calls Tryz.prog 66 #[.pointer (some ⟨gg, nd * 7, none⟩), .agg #[.int .i64 u, .int .i64 g], .int .i64 nu, .int .i64 ng] w1 fun e w' => e = .returned (errC 4) ∧ Below R w1 w' ∧ (∀ i, i ≠ gg → i < w1.heap.size → w'.heap[i]? = w1.heap[i]?) ∧ Own w' R (.slice (some ⟨gg, 0, none⟩) ps.length cc) (ps.set nd (ps[nd].1, (ps[nd]).2)) := by
  obtain ⟨g9, cap9, e9, hRg, hgl, hn9, hm9, hc9, hfr9⟩ := hO.at hnd
  simp only [Value.slice.injEq, Option.some.injEq, Addr.mk.injEq, and_true, true_and] at e9
  obtain ⟨rfl, rfl⟩ := e9
  have HO := Lib.hid hO
  have y2 := hc9.c2
  have y3 := hc9.c3
  rw [hu] at y2
  rw [hg] at y3
  have HU := Lib.hid hu
  have HG := Lib.hid hg
  have HSELF : Hid (ps.set nd (ps[nd].1, (ps[nd]).2) = ps) := Lib.hid (set_self hnd rfl)
  have KS : Hid (∀ W, Below w1.heap.size w1 W → (fun w' => w'.cell? ⟨gg, nd * 7 + 2, none⟩ = some (.int .i64 xu) ∧ w'.cell? ⟨gg, nd * 7 + 3, none⟩ = some (.int .i64 xg)) W) := Lib.hid (fun W h => ⟨(h.cell (p := ⟨gg, nd * 7 + 2, none⟩) hgl).trans y2, (h.cell (p := ⟨gg, nd * 7 + 3, none⟩) hgl).trans y3⟩)
  have HFR : Hid (∀ W, Below w1.heap.size w1 W → ∀ j, W.frozen? ⟨gg, j, none⟩ = false) := Lib.hid (fun W h j => by rw [World.frozen?_of_block (a := ⟨gg, j, none⟩) (h.block gg hgl)]; exact hfr9 j)
  have HK0 : Hid (Below w1.heap.size w1 (w1.alloc (.cells #[.int .i64 u, .int .i64 g] 36))) := Lib.hid (bel_al (Below.refl _ _))
  clear hc9 hO hu hg hfr9
  go_enter Tryz.func66, Tryz.ntmps66
  go_wp2
  go_region_held3 (fun w' => w'.cell? ⟨gg, nd * 7 + 2, none⟩ = some (.int .i64 xu) ∧ w'.cell? ⟨gg, nd * 7 + 3, none⟩ = some (.int .i64 xg)) (first | exact KS.out _ (by (first | (with_reducible exact HK0.out) | (with_reducible exact bel_dr HK0.out) | (with_reducible exact bel_al HK0.out) | (with_reducible exact bel_ald HK0.out))) | exact KS.out _ (bel_ald (bel_al (Below.refl _ _))) | exact KS.out _ (bel_al (bel_dr HK0.out)))
    (fail)
  go_wp2
  go_ret
  refine ⟨rfl, (bel_al (bel_ald (bel_al (Below.refl _ w1)))).mono (Nat.le_trans hRg (Nat.le_of_lt hgl)), fun i _ h => (bel_al (bel_ald (bel_al (Below.refl _ w1)))).block i h, ?_⟩
  rw [HSELF.out]
  exact HO.out.below (bel_al (bel_ald (bel_al (Below.refl _ w1))))

set_option maxRecDepth 100000 in
set_option maxHeartbeats 2000000 in
theorem give_yes1_00 (u g nu ng xu xg : Int) (R gg cc nd : Nat) (ps : List (Nod × Value)) (w1 : World) (hO : Own w1 R (.slice (some ⟨gg, 0, none⟩) ps.length cc) ps) (hnd : nd < ps.length) (hu : ps[nd].1.uid = xu) (hg : ps[nd].1.gid = xg) (h0 : (nu != -1) = false) (h1 : (ng != -1) = false) (h2 : (u != 0) = false) (h3 : newU nu xu = xu) (h4 : newU ng xg = xg) :
    Calls Tryz.prog 66 #[.pointer (some ⟨gg, nd * 7, none⟩), .agg #[.int .i64 u, .int .i64 g], .int .i64 nu, .int .i64 ng] w1 fun e w' => e = .returned (.nilIface) ∧ Below R w1 w' ∧ (∀ i, i ≠ gg → i < w1.heap.size → w'.heap[i]? = w1.heap[i]?) ∧ Own w' R (.slice (some ⟨gg, 0, none⟩) ps.length cc) (ps.set nd (givN nu ng ps[nd].1, (ps[nd]).2)) := by
  obtain ⟨g9, cap9, e9, hRg, hgl, hn9, hm9, hc9, hfr9⟩ := hO.at hnd
  simp only [Value.slice.injEq, Option.some.injEq, Addr.mk.injEq, and_true, true_and] at e9
  obtain ⟨rfl, rfl⟩ := e9
  have HO := Lib.hid hO
  have y2 := hc9.c2
  have y3 := hc9.c3
  rw [hu] at y2
  rw [hg] at y3
  have HU := Lib.hid hu
  have HG := Lib.hid hg
  have HSELF : Hid (ps.set nd (ps[nd].1, (ps[nd]).2) = ps) := Lib.hid (set_self hnd rfl)
  have KS : Hid (∀ W, Below w1.heap.size w1 W → (fun w' => w'.cell? ⟨gg, nd * 7 + 2, none⟩ = some (.int .i64 xu) ∧ w'.cell? ⟨gg, nd * 7 + 3, none⟩ = some (.int .i64 xg)) W) := Lib.hid (fun W h => ⟨(h.cell (p := ⟨gg, nd * 7 + 2, none⟩) hgl).trans y2, (h.cell (p := ⟨gg, nd * 7 + 3, none⟩) hgl).trans y3⟩)
  have HFR : Hid (∀ W, Below w1.heap.size w1 W → ∀ j, W.frozen? ⟨gg, j, none⟩ = false) := Lib.hid (fun W h j => by rw [World.frozen?_of_block (a := ⟨gg, j, none⟩) (h.block gg hgl)]; exact hfr9 j)
  have HK0 : Hid (Below w1.heap.size w1 (w1.alloc (.cells #[.int .i64 u, .int .i64 g] 36))) := Lib.hid (bel_al (Below.refl _ _))
  clear hc9 hO hu hg hfr9
  go_enter Tryz.func66, Tryz.ntmps66
  go_wp2
  go_region_held3 (fun w' => w'.cell? ⟨gg, nd * 7 + 2, none⟩ = some (.int .i64 xu) ∧ w'.cell? ⟨gg, nd * 7 + 3, none⟩ = some (.int .i64 xg)) (first | exact KS.out _ (by (first | (with_reducible exact HK0.out) | (with_reducible exact bel_dr HK0.out) | (with_reducible exact bel_al HK0.out) | (with_reducible exact bel_ald HK0.out))) | exact KS.out _ (bel_ald (bel_al (Below.refl _ _))) | exact KS.out _ (bel_al (bel_dr HK0.out)))
    (fail)
  go_wp2
  have HBW : Hid (Below w1.heap.size w1 ((((w1.alloc (.cells #[.int .i64 u, .int .i64 g] 36)).alloc (.cells #[.int .i64 xu, .int .i64 xg] 36)).alloc (.cells #[.int .i64 xu, .int .i64 xg] 36)).drew)) := Lib.hid (bel_ald (bel_al (bel_al (Below.refl _ w1))))
  have hTS : ((w1.alloc (.cells #[.int .i64 u, .int .i64 g] 36)).alloc (.cells #[.int .i64 xu, .int .i64 xg] 36)).heap.size = w1.heap.size + 1 + 1 := by simp
  have HT : Hid (((((w1.alloc (.cells #[.int .i64 u, .int .i64 g] 36)).alloc (.cells #[.int .i64 xu, .int .i64 xg] 36)).alloc (.cells #[.int .i64 xu, .int .i64 xg] 36)).drew).heap[w1.heap.size + 1 + 1]? = some (.cells #[.int .i64 xu, .int .i64 xg] 36)) := Lib.hid (by rw [← hTS]; exact heap_alloc_new ((w1.alloc (.cells #[.int .i64 u, .int .i64 g] 36)).alloc (.cells #[.int .i64 xu, .int .i64 xg] 36)) (.cells #[.int .i64 xu, .int .i64 xg] 36))
  obtain ⟨W, hW⟩ : ∃ W, ((((w1.alloc (.cells #[.int .i64 u, .int .i64 g] 36)).alloc (.cells #[.int .i64 xu, .int .i64 xg] 36)).alloc (.cells #[.int .i64 xu, .int .i64 xg] 36)).drew) = W := ⟨_, rfl⟩
  rw [hW] at HBW HT
  rw [hW]
  have hq : givN nu ng ps[nd].1 = { ps[nd].1 with uid := xu, gid := xg } := by unfold givN; rw [HU.out, HG.out, h3, h4]
  have HOW1 : Hid (Own ((W.setCell ⟨gg, nd * 7 + 2, none⟩ (.int .i64 xu)).setCell ⟨gg, nd * 7 + 3, none⟩ (.int .i64 xg)) R (.slice (some ⟨gg, 0, none⟩) ps.length cc) (ps.set nd (givN nu ng ps[nd].1, (ps[nd]).2))) := Lib.hid (by
    rw [hq]
    exact ((HO.out.below HBW.out).turn hnd (show 2 < 7 by decide) (.int .i64 xu) { ps[nd].1 with uid := xu } rfl rfl).again hnd (show 3 < 7 by decide) (.int .i64 xg) _ rfl rfl)
  have HOW2 : Hid (Own ((W.setCell ⟨gg, nd * 7 + 3, none⟩ (.int .i64 xg)).setCell ⟨gg, nd * 7 + 2, none⟩ (.int .i64 xu)) R (.slice (some ⟨gg, 0, none⟩) ps.length cc) (ps.set nd (givN nu ng ps[nd].1, (ps[nd]).2))) := Lib.hid (by
    rw [hq]
    exact ((HO.out.below HBW.out).turn hnd (show 3 < 7 by decide) (.int .i64 xg) { ps[nd].1 with gid := xg } rfl rfl).again hnd (show 2 < 7 by decide) (.int .i64 xu) _ rfl rfl)
  have c0 : W.cell? ⟨w1.heap.size + 1 + 1, 0, none⟩ = some (.int .i64 xu) := cell_blk HT.out 0
  have c1 : W.cell? ⟨w1.heap.size + 1 + 1, 1, none⟩ = some (.int .i64 xg) := cell_blk HT.out 1
  have c2 : W.cell? ⟨gg, nd * 7 + 2, none⟩ = some (.int .i64 xu) := (KS.out _ HBW.out).1
  have c3 : W.cell? ⟨gg, nd * 7 + 3, none⟩ = some (.int .i64 xg) := (KS.out _ HBW.out).2
  have cf := HFR.out _ HBW.out
  have HBR : Hid (Below R w1 W) := Lib.hid (HBW.out.mono (Nat.le_trans hRg (Nat.le_of_lt hgl)))
  have HNE : Hid (∀ (a b : Nat) (x y : Value) (i : Nat), i ≠ gg → i < w1.heap.size → ((W.setCell ⟨gg, a, none⟩ x).setCell ⟨gg, b, none⟩ y).heap[i]? = w1.heap[i]?) := Lib.hid (fun a b x y i h1 h2 => (Below.heap_setCell _ ⟨gg, b, none⟩ y i (by simp only; omega)).trans ((Below.heap_setCell W ⟨gg, a, none⟩ x i (by simp only; omega)).trans (HBW.out.block i h2)))
  have HBB : Hid (∀ (a b : Nat) (x y : Value), Below R w1 ((W.setCell ⟨gg, a, none⟩ x).setCell ⟨gg, b, none⟩ y)) := Lib.hid (fun a b x y => (HBR.out.setCell (p := ⟨gg, a, none⟩) hRg x).setCell (p := ⟨gg, b, none⟩) hRg y)
  have h9 : w1.heap.size + 1 + 1 ≠ gg := by omega
  have h99 : gg ≠ w1.heap.size + 1 + 1 := by omega
  clear hW hTS hq y2 y3
  go_region_with (fail)
  all_goals
    go_wp2
    go_ret
    first
      | exact ⟨rfl, HBB.out _ _ _ _, HNE.out _ _ _ _, HOW1.out⟩
      | exact ⟨rfl, HBB.out _ _ _ _, HNE.out _ _ _ _, HOW2.out⟩
      | exact ⟨rfl, (HBB.out _ _ _ _).drew, HNE.out _ _ _ _, HOW1.out.up (fun _ _ _ => rfl)⟩
      | exact ⟨rfl, (HBB.out _ _ _ _).drew, HNE.out _ _ _ _, HOW2.out.up (fun _ _ _ => rfl)⟩

set_option maxRecDepth 100000 in
set_option maxHeartbeats 2000000 in
theorem give_yes2_00 (u g nu ng xu xg : Int) (R gg cc nd : Nat) (ps : List (Nod × Value)) (w1 : World) (hO : Own w1 R (.slice (some ⟨gg, 0, none⟩) ps.length cc) ps) (hnd : nd < ps.length) (hu : ps[nd].1.uid = xu) (hg : ps[nd].1.gid = xg) (h0 : (nu != -1) = false) (h1 : (ng != -1) = false) (h2 : (u != 0) = true) (h3 : (u != xu) = false) (h4 : (xu == xu) = true) (h5 : (xg == xg) = true) (h6 : newU nu xu = xu) (h7 : newU ng xg = xg) :
    Calls Tryz.prog 66 #[.pointer (some ⟨gg, nd * 7, none⟩), .agg #[.int .i64 u, .int .i64 g], .int .i64 nu, .int .i64 ng] w1 fun e w' => e = .returned (.nilIface) ∧ Below R w1 w' ∧ (∀ i, i ≠ gg → i < w1.heap.size → w'.heap[i]? = w1.heap[i]?) ∧ Own w' R (.slice (some ⟨gg, 0, none⟩) ps.length cc) (ps.set nd (givN nu ng ps[nd].1, (ps[nd]).2)) := by
  obtain ⟨g9, cap9, e9, hRg, hgl, hn9, hm9, hc9, hfr9⟩ := hO.at hnd
  simp only [Value.slice.injEq, Option.some.injEq, Addr.mk.injEq, and_true, true_and] at e9
  obtain ⟨rfl, rfl⟩ := e9
  have HO := Lib.hid hO
  have y2 := hc9.c2
  have y3 := hc9.c3
  rw [hu] at y2
  rw [hg] at y3
  have HU := Lib.hid hu
  have HG := Lib.hid hg
  have HSELF : Hid (ps.set nd (ps[nd].1, (ps[nd]).2) = ps) := Lib.hid (set_self hnd rfl)
  have KS : Hid (∀ W, Below w1.heap.size w1 W → (fun w' => w'.cell? ⟨gg, nd * 7 + 2, none⟩ = some (.int .i64 xu) ∧ w'.cell? ⟨gg, nd * 7 + 3, none⟩ = some (.int .i64 xg)) W) := Lib.hid (fun W h => ⟨(h.cell (p := ⟨gg, nd * 7 + 2, none⟩) hgl).trans y2, (h.cell (p := ⟨gg, nd * 7 + 3, none⟩) hgl).trans y3⟩)
  have HFR : Hid (∀ W, Below w1.heap.size w1 W → ∀ j, W.frozen? ⟨gg, j, none⟩ = false) := Lib.hid (fun W h j => by rw [World.frozen?_of_block (a := ⟨gg, j, none⟩) (h.block gg hgl)]; exact hfr9 j)
  have HK0 : Hid (Below w1.heap.size w1 (w1.alloc (.cells #[.int .i64 u, .int .i64 g] 36))) := Lib.hid (bel_al (Below.refl _ _))
  clear hc9 hO hu hg hfr9
  go_enter Tryz.func66, Tryz.ntmps66
  go_wp2
  go_region_held3 (fun w' => w'.cell? ⟨gg, nd * 7 + 2, none⟩ = some (.int .i64 xu) ∧ w'.cell? ⟨gg, nd * 7 + 3, none⟩ = some (.int .i64 xg)) (first | exact KS.out _ (by (first | (with_reducible exact HK0.out) | (with_reducible exact bel_dr HK0.out) | (with_reducible exact bel_al HK0.out) | (with_reducible exact bel_ald HK0.out))) | exact KS.out _ (bel_ald (bel_al (Below.refl _ _))) | exact KS.out _ (bel_al (bel_dr HK0.out)))
    (fail)
  go_wp2
  have HBW : Hid (Below w1.heap.size w1 ((((w1.alloc (.cells #[.int .i64 u, .int .i64 g] 36)).alloc (.cells #[.int .i64 xu, .int .i64 xg] 36)).alloc (.cells #[.int .i64 xu, .int .i64 xg] 36)).drew)) := Lib.hid (bel_ald (bel_al (bel_al (Below.refl _ w1))))
  have hTS : ((w1.alloc (.cells #[.int .i64 u, .int .i64 g] 36)).alloc (.cells #[.int .i64 xu, .int .i64 xg] 36)).heap.size = w1.heap.size + 1 + 1 := by simp
  have HT : Hid (((((w1.alloc (.cells #[.int .i64 u, .int .i64 g] 36)).alloc (.cells #[.int .i64 xu, .int .i64 xg] 36)).alloc (.cells #[.int .i64 xu, .int .i64 xg] 36)).drew).heap[w1.heap.size + 1 + 1]? = some (.cells #[.int .i64 xu, .int .i64 xg] 36)) := Lib.hid (by rw [← hTS]; exact heap_alloc_new ((w1.alloc (.cells #[.int .i64 u, .int .i64 g] 36)).alloc (.cells #[.int .i64 xu, .int .i64 xg] 36)) (.cells #[.int .i64 xu, .int .i64 xg] 36))
  obtain ⟨W, hW⟩ : ∃ W, ((((w1.alloc (.cells #[.int .i64 u, .int .i64 g] 36)).alloc (.cells #[.int .i64 xu, .int .i64 xg] 36)).alloc (.cells #[.int .i64 xu, .int .i64 xg] 36)).drew) = W := ⟨_, rfl⟩
  rw [hW] at HBW HT
  rw [hW]
  have hq : givN nu ng ps[nd].1 = { ps[nd].1 with uid := xu, gid := xg } := by unfold givN; rw [HU.out, HG.out, h6, h7]
  have HOW1 : Hid (Own ((W.setCell ⟨gg, nd * 7 + 2, none⟩ (.int .i64 xu)).setCell ⟨gg, nd * 7 + 3, none⟩ (.int .i64 xg)) R (.slice (some ⟨gg, 0, none⟩) ps.length cc) (ps.set nd (givN nu ng ps[nd].1, (ps[nd]).2))) := Lib.hid (by
    rw [hq]
    exact ((HO.out.below HBW.out).turn hnd (show 2 < 7 by decide) (.int .i64 xu) { ps[nd].1 with uid := xu } rfl rfl).again hnd (show 3 < 7 by decide) (.int .i64 xg) _ rfl rfl)
  have HOW2 : Hid (Own ((W.setCell ⟨gg, nd * 7 + 3, none⟩ (.int .i64 xg)).setCell ⟨gg, nd * 7 + 2, none⟩ (.int .i64 xu)) R (.slice (some ⟨gg, 0, none⟩) ps.length cc) (ps.set nd (givN nu ng ps[nd].1, (ps[nd]).2))) := Lib.hid (by
    rw [hq]
    exact ((HO.out.below HBW.out).turn hnd (show 3 < 7 by decide) (.int .i64 xg) { ps[nd].1 with gid := xg } rfl rfl).again hnd (show 2 < 7 by decide) (.int .i64 xu) _ rfl rfl)
  have c0 : W.cell? ⟨w1.heap.size + 1 + 1, 0, none⟩ = some (.int .i64 xu) := cell_blk HT.out 0
  have c1 : W.cell? ⟨w1.heap.size + 1 + 1, 1, none⟩ = some (.int .i64 xg) := cell_blk HT.out 1
  have c2 : W.cell? ⟨gg, nd * 7 + 2, none⟩ = some (.int .i64 xu) := (KS.out _ HBW.out).1
  have c3 : W.cell? ⟨gg, nd * 7 + 3, none⟩ = some (.int .i64 xg) := (KS.out _ HBW.out).2
  have cf := HFR.out _ HBW.out
  have HBR : Hid (Below R w1 W) := Lib.hid (HBW.out.mono (Nat.le_trans hRg (Nat.le_of_lt hgl)))
  have HNE : Hid (∀ (a b : Nat) (x y : Value) (i : Nat), i ≠ gg → i < w1.heap.size → ((W.setCell ⟨gg, a, none⟩ x).setCell ⟨gg, b, none⟩ y).heap[i]? = w1.heap[i]?) := Lib.hid (fun a b x y i h1 h2 => (Below.heap_setCell _ ⟨gg, b, none⟩ y i (by simp only; omega)).trans ((Below.heap_setCell W ⟨gg, a, none⟩ x i (by simp only; omega)).trans (HBW.out.block i h2)))
  have HBB : Hid (∀ (a b : Nat) (x y : Value), Below R w1 ((W.setCell ⟨gg, a, none⟩ x).setCell ⟨gg, b, none⟩ y)) := Lib.hid (fun a b x y => (HBR.out.setCell (p := ⟨gg, a, none⟩) hRg x).setCell (p := ⟨gg, b, none⟩) hRg y)
  have h9 : w1.heap.size + 1 + 1 ≠ gg := by omega
  have h99 : gg ≠ w1.heap.size + 1 + 1 := by omega
  clear hW hTS hq y2 y3
  go_region_with (fail)
  all_goals
    go_wp2
    go_ret
    first
      | exact ⟨rfl, HBB.out _ _ _ _, HNE.out _ _ _ _, HOW1.out⟩
      | exact ⟨rfl, HBB.out _ _ _ _, HNE.out _ _ _ _, HOW2.out⟩
      | exact ⟨rfl, (HBB.out _ _ _ _).drew, HNE.out _ _ _ _, HOW1.out.up (fun _ _ _ => rfl)⟩
      | exact ⟨rfl, (HBB.out _ _ _ _).drew, HNE.out _ _ _ _, HOW2.out.up (fun _ _ _ => rfl)⟩

set_option maxRecDepth 100000 in
set_option maxHeartbeats 2000000 in
theorem give_no1_01 (u g nu ng xu xg : Int) (R gg cc nd : Nat) (ps : List (Nod × Value)) (w1 : World) (hO : Own w1 R (.slice (some ⟨gg, 0, none⟩) ps.length cc) ps) (hnd : nd < ps.length) (hu : ps[nd].1.uid = xu) (hg : ps[nd].1.gid = xg) (h0 : (nu != -1) = false) (h1 : (ng != -1) = true) (h2 : (u != 0) = true) (h3 : (u != xu) = true) :
    Calls Tryz.prog 66 #[.pointer (some ⟨gg, nd * 7, none⟩), .agg #[.int .i64 u, .int .i64 g], .int .i64 nu, .int .i64 ng] w1 fun e w' => e = .returned (errC 4) ∧ Below R w1 w' ∧ (∀ i, i ≠ gg → i < w1.heap.size → w'.heap[i]? = w1.heap[i]?) ∧ Own w' R (.slice (some ⟨gg, 0, none⟩) ps.length cc) (ps.set nd (ps[nd].1, (ps[nd]).2)) := by
  obtain ⟨g9, cap9, e9, hRg, hgl, hn9, hm9, hc9, hfr9⟩ := hO.at hnd
  simp only [Value.slice.injEq, Option.some.injEq, Addr.mk.injEq, and_true, true_and] at e9
  obtain ⟨rfl, rfl⟩ := e9
  have HO := Lib.hid hO
  have y2 := hc9.c2
  have y3 := hc9.c3
  rw [hu] at y2
  rw [hg] at y3
  have HU := Lib.hid hu
  have HG := Lib.hid hg
  have HSELF : Hid (ps.set nd (ps[nd].1, (ps[nd]).2) = ps) := Lib.hid (set_self hnd rfl)
  have KS : Hid (∀ W, Below w1.heap.size w1 W → (fun w' => w'.cell? ⟨gg, nd * 7 + 2, none⟩ = some (.int .i64 xu) ∧ w'.cell? ⟨gg, nd * 7 + 3, none⟩ = some (.int .i64 xg)) W) := Lib.hid (fun W h => ⟨(h.cell (p := ⟨gg, nd * 7 + 2, none⟩) hgl).trans y2, (h.cell (p := ⟨gg, nd * 7 + 3, none⟩) hgl).trans y3⟩)
  have HFR : Hid (∀ W, Below w1.heap.size w1 W → ∀ j, W.frozen? ⟨gg, j, none⟩ = false) := Lib.hid (fun W h j => by rw [World.frozen?_of_block (a := ⟨gg, j, none⟩) (h.block gg hgl)]; exact hfr9 j)
  have HK0 : Hid (Below w1.heap.size w1 (w1.alloc (.cells #[.int .i64 u, .int .i64 g] 36))) := Lib.hid (bel_al (Below.refl _ _))
  clear hc9 hO hu hg hfr9
  go_enter Tryz.func66, Tryz.ntmps66
  go_wp2
  go_region_held3 (fun w' => w'.cell? ⟨gg, nd * 7 + 2, none⟩ = some (.int .i64 xu) ∧ w'.cell? ⟨gg, nd * 7 + 3, none⟩ = some (.int .i64 xg)) (first | exact KS.out _ (by (first | (with_reducible exact HK0.out) | (with_reducible exact bel_dr HK0.out) | (with_reducible exact bel_al HK0.out) | (with_reducible exact bel_ald HK0.out))) | exact KS.out _ (bel_ald (bel_al (Below.refl _ _))) | exact KS.out _ (bel_al (bel_dr HK0.out)))
    (fail)
  go_wp2
  go_ret
  refine ⟨rfl, (bel_al (bel_ald (bel_al (Below.refl _ w1)))).mono (Nat.le_trans hRg (Nat.le_of_lt hgl)), fun i _ h => (bel_al (bel_ald (bel_al (Below.refl _ w1)))).block i h, ?_⟩
  rw [HSELF.out]
  exact HO.out.below (bel_al (bel_ald (bel_al (Below.refl _ w1))))

set_option maxRecDepth 100000 in
set_option maxHeartbeats 2000000 in
theorem give_no3_01 (u g nu ng xu xg : Int) (R gg cc nd : Nat) (ps : List (Nod × Value)) (w1 : World) (hO : Own w1 R (.slice (some ⟨gg, 0, none⟩) ps.length cc) ps) (hnd : nd < ps.length) (hu : ps[nd].1.uid = xu) (hg : ps[nd].1.gid = xg) (h0 : (nu != -1) = false) (h1 : (ng != -1) = true) (h2 : (u != 0) = true) (h3 : (u != xu) = false) (h4 : (xu == xu) = true) (h5 : (xu == u) = true) (h6 : (ng == xg) = false) (h7 : (ng == g) = false) :
    Calls Tryz.prog 66 #[.pointer (some ⟨gg, nd * 7, none⟩), .agg #[.int .i64 u, .int .i64 g], .int .i64 nu, .int .i64 ng] w1 fun e w' => e = .returned (errC 4) ∧ Below R w1 w' ∧ (∀ i, i ≠ gg → i < w1.heap.size → w'.heap[i]? = w1.heap[i]?) ∧ Own w' R (.slice (some ⟨gg, 0, none⟩) ps.length cc) (ps.set nd (ps[nd].1, (ps[nd]).2)) := by
  obtain ⟨g9, cap9, e9, hRg, hgl, hn9, hm9, hc9, hfr9⟩ := hO.at hnd
  simp only [Value.slice.injEq, Option.some.injEq, Addr.mk.injEq, and_true, true_and] at e9
  obtain ⟨rfl, rfl⟩ := e9
  have HO := Lib.hid hO
  have y2 := hc9.c2
  have y3 := hc9.c3
  rw [hu] at y2
  rw [hg] at y3
  have HU := Lib.hid hu
  have HG := Lib.hid hg
  have HSELF : Hid (ps.set nd (ps[nd].1, (ps[nd]).2) = ps) := Lib.hid (set_self hnd rfl)
  have KS : Hid (∀ W, Below w1.heap.size w1 W → (fun w' => w'.cell? ⟨gg, nd * 7 + 2, none⟩ = some (.int .i64 xu) ∧ w'.cell? ⟨gg, nd * 7 + 3, none⟩ = some (.int .i64 xg)) W) := Lib.hid (fun W h => ⟨(h.cell (p := ⟨gg, nd * 7 + 2, none⟩) hgl).trans y2, (h.cell (p := ⟨gg, nd * 7 + 3, none⟩) hgl).trans y3⟩)
  have HFR : Hid (∀ W, Below w1.heap.size w1 W → ∀ j, W.frozen? ⟨gg, j, none⟩ = false) := Lib.hid (fun W h j => by rw [World.frozen?_of_block (a := ⟨gg, j, none⟩) (h.block gg hgl)]; exact hfr9 j)
  have HK0 : Hid (Below w1.heap.size w1 (w1.alloc (.cells #[.int .i64 u, .int .i64 g] 36))) := Lib.hid (bel_al (Below.refl _ _))
  clear hc9 hO hu hg hfr9
  go_enter Tryz.func66, Tryz.ntmps66
  go_wp2
  go_region_held3 (fun w' => w'.cell? ⟨gg, nd * 7 + 2, none⟩ = some (.int .i64 xu) ∧ w'.cell? ⟨gg, nd * 7 + 3, none⟩ = some (.int .i64 xg)) (first | exact KS.out _ (by (first | (with_reducible exact HK0.out) | (with_reducible exact bel_dr HK0.out) | (with_reducible exact bel_al HK0.out) | (with_reducible exact bel_ald HK0.out))) | exact KS.out _ (bel_ald (bel_al (Below.refl _ _))) | exact KS.out _ (bel_al (bel_dr HK0.out)))
    (fail)
  go_wp2
  go_ret
  refine ⟨rfl, (bel_al (bel_ald (bel_al (Below.refl _ w1)))).mono (Nat.le_trans hRg (Nat.le_of_lt hgl)), fun i _ h => (bel_al (bel_ald (bel_al (Below.refl _ w1)))).block i h, ?_⟩
  rw [HSELF.out]
  exact HO.out.below (bel_al (bel_ald (bel_al (Below.refl _ w1))))

set_option maxRecDepth 100000 in
set_option maxHeartbeats 2000000 in
theorem give_yes1_01 (u g nu ng xu xg : Int) (R gg cc nd : Nat) (ps : List (Nod × Value)) (w1 : World) (hO : Own w1 R (.slice (some ⟨gg, 0, none⟩) ps.length cc) ps) (hnd : nd < ps.length) (hu : ps[nd].1.uid = xu) (hg : ps[nd].1.gid = xg) (h0 : (nu != -1) = false) (h1 : (ng != -1) = true) (h2 : (u != 0) = false) (h3 : newU nu xu = xu) (h4 : newU ng xg = ng) :
    Calls Tryz.prog 66 #[.pointer (some ⟨gg, nd * 7, none⟩), .agg #[.int .i64 u, .int .i64 g], .int .i64 nu, .int .i64 ng] w1 fun e w' => e = .returned (.nilIface) ∧ Below R w1 w' ∧ (∀ i, i ≠ gg → i < w1.heap.size → w'.heap[i]? = w1.heap[i]?) ∧ Own w' R (.slice (some ⟨gg, 0, none⟩) ps.length cc) (ps.set nd (givN nu ng ps[nd].1, (ps[nd]).2)) := by
  obtain ⟨g9, cap9, e9, hRg, hgl, hn9, hm9, hc9, hfr9⟩ := hO.at hnd
  simp only [Value.slice.injEq, Option.some.injEq, Addr.mk.injEq, and_true, true_and] at e9
  obtain ⟨rfl, rfl⟩ := e9
  have HO := Lib.hid hO
  have y2 := hc9.c2
  have y3 := hc9.c3
  rw [hu] at y2
  rw [hg] at y3
  have HU := Lib.hid hu
  have HG := Lib.hid hg
  have HSELF : Hid (ps.set nd (ps[nd].1, (ps[nd]).2) = ps) := Lib.hid (set_self hnd rfl)
  have KS : Hid (∀ W, Below w1.heap.size w1 W → (fun w' => w'.cell? ⟨gg, nd * 7 + 2, none⟩ = some (.int .i64 xu) ∧ w'.cell? ⟨gg, nd * 7 + 3, none⟩ = some (.int .i64 xg)) W) := Lib.hid (fun W h => ⟨(h.cell (p := ⟨gg, nd * 7 + 2, none⟩) hgl).trans y2, (h.cell (p := ⟨gg, nd * 7 + 3, none⟩) hgl).trans y3⟩)
  have HFR : Hid (∀ W, Below w1.heap.size w1 W → ∀ j, W.frozen? ⟨gg, j, none⟩ = false) := Lib.hid (fun W h j => by rw [World.frozen?_of_block (a := ⟨gg, j, none⟩) (h.block gg hgl)]; exact hfr9 j)
  have HK0 : Hid (Below w1.heap.size w1 (w1.alloc (.cells #[.int .i64 u, .int .i64 g] 36))) := Lib.hid (bel_al (Below.refl _ _))
  clear hc9 hO hu hg hfr9
  go_enter Tryz.func66, Tryz.ntmps66
  go_wp2
  go_region_held3 (fun w' => w'.cell? ⟨gg, nd * 7 + 2, none⟩ = some (.int .i64 xu) ∧ w'.cell? ⟨gg, nd * 7 + 3, none⟩ = some (.int .i64 xg)) (first | exact KS.out _ (by (first | (with_reducible exact HK0.out) | (with_reducible exact bel_dr HK0.out) | (with_reducible exact bel_al HK0.out) | (with_reducible exact bel_ald HK0.out))) | exact KS.out _ (bel_ald (bel_al (Below.refl _ _))) | exact KS.out _ (bel_al (bel_dr HK0.out)))
    (fail)
  go_wp2
  have HBW : Hid (Below w1.heap.size w1 ((((w1.alloc (.cells #[.int .i64 u, .int .i64 g] 36)).alloc (.cells #[.int .i64 xu, .int .i64 xg] 36)).alloc (.cells #[.int .i64 xu, .int .i64 ng] 36)).drew)) := Lib.hid (bel_ald (bel_al (bel_al (Below.refl _ w1))))
  have hTS : ((w1.alloc (.cells #[.int .i64 u, .int .i64 g] 36)).alloc (.cells #[.int .i64 xu, .int .i64 xg] 36)).heap.size = w1.heap.size + 1 + 1 := by simp
  have HT : Hid (((((w1.alloc (.cells #[.int .i64 u, .int .i64 g] 36)).alloc (.cells #[.int .i64 xu, .int .i64 xg] 36)).alloc (.cells #[.int .i64 xu, .int .i64 ng] 36)).drew).heap[w1.heap.size + 1 + 1]? = some (.cells #[.int .i64 xu, .int .i64 ng] 36)) := Lib.hid (by rw [← hTS]; exact heap_alloc_new ((w1.alloc (.cells #[.int .i64 u, .int .i64 g] 36)).alloc (.cells #[.int .i64 xu, .int .i64 xg] 36)) (.cells #[.int .i64 xu, .int .i64 ng] 36))
  obtain ⟨W, hW⟩ : ∃ W, ((((w1.alloc (.cells #[.int .i64 u, .int .i64 g] 36)).alloc (.cells #[.int .i64 xu, .int .i64 xg] 36)).alloc (.cells #[.int .i64 xu, .int .i64 ng] 36)).drew) = W := ⟨_, rfl⟩
  rw [hW] at HBW HT
  rw [hW]
  have hq : givN nu ng ps[nd].1 = { ps[nd].1 with uid := xu, gid := ng } := by unfold givN; rw [HU.out, HG.out, h3, h4]
  have HOW1 : Hid (Own ((W.setCell ⟨gg, nd * 7 + 2, none⟩ (.int .i64 xu)).setCell ⟨gg, nd * 7 + 3, none⟩ (.int .i64 ng)) R (.slice (some ⟨gg, 0, none⟩) ps.length cc) (ps.set nd (givN nu ng ps[nd].1, (ps[nd]).2))) := Lib.hid (by
    rw [hq]
    exact ((HO.out.below HBW.out).turn hnd (show 2 < 7 by decide) (.int .i64 xu) { ps[nd].1 with uid := xu } rfl rfl).again hnd (show 3 < 7 by decide) (.int .i64 ng) _ rfl rfl)
  have HOW2 : Hid (Own ((W.setCell ⟨gg, nd * 7 + 3, none⟩ (.int .i64 ng)).setCell ⟨gg, nd * 7 + 2, none⟩ (.int .i64 xu)) R (.slice (some ⟨gg, 0, none⟩) ps.length cc) (ps.set nd (givN nu ng ps[nd].1, (ps[nd]).2))) := Lib.hid (by
    rw [hq]
    exact ((HO.out.below HBW.out).turn hnd (show 3 < 7 by decide) (.int .i64 ng) { ps[nd].1 with gid := ng } rfl rfl).again hnd (show 2 < 7 by decide) (.int .i64 xu) _ rfl rfl)
  have c0 : W.cell? ⟨w1.heap.size + 1 + 1, 0, none⟩ = some (.int .i64 xu) := cell_blk HT.out 0
  have c1 : W.cell? ⟨w1.heap.size + 1 + 1, 1, none⟩ = some (.int .i64 ng) := cell_blk HT.out 1
  have c2 : W.cell? ⟨gg, nd * 7 + 2, none⟩ = some (.int .i64 xu) := (KS.out _ HBW.out).1
  have c3 : W.cell? ⟨gg, nd * 7 + 3, none⟩ = some (.int .i64 xg) := (KS.out _ HBW.out).2
  have cf := HFR.out _ HBW.out
  have HBR : Hid (Below R w1 W) := Lib.hid (HBW.out.mono (Nat.le_trans hRg (Nat.le_of_lt hgl)))
  have HNE : Hid (∀ (a b : Nat) (x y : Value) (i : Nat), i ≠ gg → i < w1.heap.size → ((W.setCell ⟨gg, a, none⟩ x).setCell ⟨gg, b, none⟩ y).heap[i]? = w1.heap[i]?) := Lib.hid (fun a b x y i h1 h2 => (Below.heap_setCell _ ⟨gg, b, none⟩ y i (by simp only; omega)).trans ((Below.heap_setCell W ⟨gg, a, none⟩ x i (by simp only; omega)).trans (HBW.out.block i h2)))
  have HBB : Hid (∀ (a b : Nat) (x y : Value), Below R w1 ((W.setCell ⟨gg, a, none⟩ x).setCell ⟨gg, b, none⟩ y)) := Lib.hid (fun a b x y => (HBR.out.setCell (p := ⟨gg, a, none⟩) hRg x).setCell (p := ⟨gg, b, none⟩) hRg y)
  have h9 : w1.heap.size + 1 + 1 ≠ gg := by omega
  have h99 : gg ≠ w1.heap.size + 1 + 1 := by omega
  clear hW hTS hq y2 y3
  go_region_with (fail)
  all_goals
    go_wp2
    go_ret
    first
      | exact ⟨rfl, HBB.out _ _ _ _, HNE.out _ _ _ _, HOW1.out⟩
      | exact ⟨rfl, HBB.out _ _ _ _, HNE.out _ _ _ _, HOW2.out⟩
      | exact ⟨rfl, (HBB.out _ _ _ _).drew, HNE.out _ _ _ _, HOW1.out.up (fun _ _ _ => rfl)⟩
      | exact ⟨rfl, (HBB.out _ _ _ _).drew, HNE.out _ _ _ _, HOW2.out.up (fun _ _ _ => rfl)⟩

set_option maxRecDepth 100000 in
set_option maxHeartbeats 2000000 in
theorem give_yes2_01 (u g nu ng xu xg : Int) (R gg cc nd : Nat) (ps : List (Nod × Value)) (w1 : World) (hO : Own w1 R (.slice (some ⟨gg, 0, none⟩) ps.length cc) ps) (hnd : nd < ps.length) (hu : ps[nd].1.uid = xu) (hg : ps[nd].1.gid = xg) (h0 : (nu != -1) = false) (h1 : (ng != -1) = true) (h2 : (u != 0) = true) (h3 : (u != xu) = false) (h4 : (xu == xu) = true) (h5 : (ng == xg) = true) (h6 : newU nu xu = xu) (h7 : newU ng xg = ng) :
    Calls Tryz.prog 66 #[.pointer (some ⟨gg, nd * 7, none⟩), .agg #[.int .i64 u, .int .i64 g], .int .i64 nu, .int .i64 ng] w1 fun e w' => e = .returned (.nilIface) ∧ Below R w1 w' ∧ (∀ i, i ≠ gg → i < w1.heap.size → w'.heap[i]? = w1.heap[i]?) ∧ Own w' R (.slice (some ⟨gg, 0, none⟩) ps.length cc) (ps.set nd (givN nu ng ps[nd].1, (ps[nd]).2)) := by
  obtain ⟨g9, cap9, e9, hRg, hgl, hn9, hm9, hc9, hfr9⟩ := hO.at hnd
  simp only [Value.slice.injEq, Option.some.injEq, Addr.mk.injEq, and_true, true_and] at e9
  obtain ⟨rfl, rfl⟩ := e9
  have HO := Lib.hid hO
  have y2 := hc9.c2
  have y3 := hc9.c3
  rw [hu] at y2
  rw [hg] at y3
  have HU := Lib.hid hu
  have HG := Lib.hid hg
  have HSELF : Hid (ps.set nd (ps[nd].1, (ps[nd]).2) = ps) := Lib.hid (set_self hnd rfl)
  have KS : Hid (∀ W, Below w1.heap.size w1 W → (fun w' => w'.cell? ⟨gg, nd * 7 + 2, none⟩ = some (.int .i64 xu) ∧ w'.cell? ⟨gg, nd * 7 + 3, none⟩ = some (.int .i64 xg)) W) := Lib.hid (fun W h => ⟨(h.cell (p := ⟨gg, nd * 7 + 2, none⟩) hgl).trans y2, (h.cell (p := ⟨gg, nd * 7 + 3, none⟩) hgl).trans y3⟩)
  have HFR : Hid (∀ W, Below w1.heap.size w1 W → ∀ j, W.frozen? ⟨gg, j, none⟩ = false) := Lib.hid (fun W h j => by rw [World.frozen?_of_block (a := ⟨gg, j, none⟩) (h.block gg hgl)]; exact hfr9 j)
  have HK0 : Hid (Below w1.heap.size w1 (w1.alloc (.cells #[.int .i64 u, .int .i64 g] 36))) := Lib.hid (bel_al (Below.refl _ _))
  clear hc9 hO hu hg hfr9
  go_enter Tryz.func66, Tryz.ntmps66
  go_wp2
  go_region_held3 (fun w' => w'.cell? ⟨gg, nd * 7 + 2, none⟩ = some (.int .i64 xu) ∧ w'.cell? ⟨gg, nd * 7 + 3, none⟩ = some (.int .i64 xg)) (first | exact KS.out _ (by (first | (with_reducible exact HK0.out) | (with_reducible exact bel_dr HK0.out) | (with_reducible exact bel_al HK0.out) | (with_reducible exact bel_ald HK0.out))) | exact KS.out _ (bel_ald (bel_al (Below.refl _ _))) | exact KS.out _ (bel_al (bel_dr HK0.out)))
    (fail)
  go_wp2
  have HBW : Hid (Below w1.heap.size w1 ((((w1.alloc (.cells #[.int .i64 u, .int .i64 g] 36)).alloc (.cells #[.int .i64 xu, .int .i64 xg] 36)).alloc (.cells #[.int .i64 xu, .int .i64 ng] 36)).drew)) := Lib.hid (bel_ald (bel_al (bel_al (Below.refl _ w1))))
  have hTS : ((w1.alloc (.cells #[.int .i64 u, .int .i64 g] 36)).alloc (.cells #[.int .i64 xu, .int .i64 xg] 36)).heap.size = w1.heap.size + 1 + 1 := by simp
  have HT : Hid (((((w1.alloc (.cells #[.int .i64 u, .int .i64 g] 36)).alloc (.cells #[.int .i64 xu, .int .i64 xg] 36)).alloc (.cells #[.int .i64 xu, .int .i64 ng] 36)).drew).heap[w1.heap.size + 1 + 1]? = some (.cells #[.int .i64 xu, .int .i64 ng] 36)) := Lib.hid (by rw [← hTS]; exact heap_alloc_new ((w1.alloc (.cells #[.int .i64 u, .int .i64 g] 36)).alloc (.cells #[.int .i64 xu, .int .i64 xg] 36)) (.cells #[.int .i64 xu, .int .i64 ng] 36))
  obtain ⟨W, hW⟩ : ∃ W, ((((w1.alloc (.cells #[.int .i64 u, .int .i64 g] 36)).alloc (.cells #[.int .i64 xu, .int .i64 xg] 36)).alloc (.cells #[.int .i64 xu, .int .i64 ng] 36)).drew) = W := ⟨_, rfl⟩
  rw [hW] at HBW HT
  rw [hW]
  have hq : givN nu ng ps[nd].1 = { ps[nd].1 with uid := xu, gid := ng } := by unfold givN; rw [HU.out, HG.out, h6, h7]
  have HOW1 : Hid (Own ((W.setCell ⟨gg, nd * 7 + 2, none⟩ (.int .i64 xu)).setCell ⟨gg, nd * 7 + 3, none⟩ (.int .i64 ng)) R (.slice (some ⟨gg, 0, none⟩) ps.length cc) (ps.set nd (givN nu ng ps[nd].1, (ps[nd]).2))) := Lib.hid (by
    rw [hq]
    exact ((HO.out.below HBW.out).turn hnd (show 2 < 7 by decide) (.int .i64 xu) { ps[nd].1 with uid := xu } rfl rfl).again hnd (show 3 < 7 by decide) (.int .i64 ng) _ rfl rfl)
  have HOW2 : Hid (Own ((W.setCell ⟨gg, nd * 7 + 3, none⟩ (.int .i64 ng)).setCell ⟨gg, nd * 7 + 2, none⟩ (.int .i64 xu)) R (.slice (some ⟨gg, 0, none⟩) ps.length cc) (ps.set nd (givN nu ng ps[nd].1, (ps[nd]).2))) := Lib.hid (by
    rw [hq]
    exact ((HO.out.below HBW.out).turn hnd (show 3 < 7 by decide) (.int .i64 ng) { ps[nd].1 with gid := ng } rfl rfl).again hnd (show 2 < 7 by decide) (.int .i64 xu) _ rfl rfl)
  have c0 : W.cell? ⟨w1.heap.size + 1 + 1, 0, none⟩ = some (.int .i64 xu) := cell_blk HT.out 0
  have c1 : W.cell? ⟨w1.heap.size + 1 + 1, 1, none⟩ = some (.int .i64 ng) := cell_blk HT.out 1
  have c2 : W.cell? ⟨gg, nd * 7 + 2, none⟩ = some (.int .i64 xu) := (KS.out _ HBW.out).1
  have c3 : W.cell? ⟨gg, nd * 7 + 3, none⟩ = some (.int .i64 xg) := (KS.out _ HBW.out).2
  have cf := HFR.out _ HBW.out
  have HBR : Hid (Below R w1 W) := Lib.hid (HBW.out.mono (Nat.le_trans hRg (Nat.le_of_lt hgl)))
  have HNE : Hid (∀ (a b : Nat) (x y : Value) (i : Nat), i ≠ gg → i < w1.heap.size → ((W.setCell ⟨gg, a, none⟩ x).setCell ⟨gg, b, none⟩ y).heap[i]? = w1.heap[i]?) := Lib.hid (fun a b x y i h1 h2 => (Below.heap_setCell _ ⟨gg, b, none⟩ y i (by simp only; omega)).trans ((Below.heap_setCell W ⟨gg, a, none⟩ x i (by simp only; omega)).trans (HBW.out.block i h2)))
  have HBB : Hid (∀ (a b : Nat) (x y : Value), Below R w1 ((W.setCell ⟨gg, a, none⟩ x).setCell ⟨gg, b, none⟩ y)) := Lib.hid (fun a b x y => (HBR.out.setCell (p := ⟨gg, a, none⟩) hRg x).setCell (p := ⟨gg, b, none⟩) hRg y)
  have h9 : w1.heap.size + 1 + 1 ≠ gg := by omega
  have h99 : gg ≠ w1.heap.size + 1 + 1 := by omega
  clear hW hTS hq y2 y3
  go_region_with (fail)
  all_goals
    go_wp2
    go_ret
    first
      | exact ⟨rfl, HBB.out _ _ _ _, HNE.out _ _ _ _, HOW1.out⟩
      | exact ⟨rfl, HBB.out _ _ _ _, HNE.out _ _ _ _, HOW2.out⟩
      | exact ⟨rfl, (HBB.out _ _ _ _).drew, HNE.out _ _ _ _, HOW1.out.up (fun _ _ _ => rfl)⟩
      | exact ⟨rfl, (HBB.out _ _ _ _).drew, HNE.out _ _ _ _, HOW2.out.up (fun _ _ _ => rfl)⟩

set_option maxRecDepth 100000 in
set_option maxHeartbeats 2000000 in
theorem give_yes3_01 (u g nu ng xu xg : Int) (R gg cc nd : Nat) (ps : List (Nod × Value)) (w1 : World) (hO : Own w1 R (.slice (some ⟨gg, 0, none⟩) ps.length cc) ps) (hnd : nd < ps.length) (hu : ps[nd].1.uid = xu) (hg : ps[nd].1.gid = xg) (h0 : (nu != -1) = false) (h1 : (ng != -1) = true) (h2 : (u != 0) = true) (h3 : (u != xu) = false) (h4 : (xu == xu) = true) (h5 : (ng == xg) = false) (h6 : (xu == u) = true) (h7 : (ng == g) = true) (h8 : newU nu xu = xu) (h9 : newU ng xg = ng) :
    Calls Tryz.prog 66 #[.pointer (some ⟨gg, nd * 7, none⟩), .agg #[.int .i64 u, .int .i64 g], .int .i64 nu, .int .i64 ng] w1 fun e w' => e = .returned (.nilIface) ∧ Below R w1 w' ∧ (∀ i, i ≠ gg → i < w1.heap.size → w'.heap[i]? = w1.heap[i]?) ∧ Own w' R (.slice (some ⟨gg, 0, none⟩) ps.length cc) (ps.set nd (givN nu ng ps[nd].1, (ps[nd]).2)) := by
  obtain ⟨g9, cap9, e9, hRg, hgl, hn9, hm9, hc9, hfr9⟩ := hO.at hnd
  simp only [Value.slice.injEq, Option.some.injEq, Addr.mk.injEq, and_true, true_and] at e9
  obtain ⟨rfl, rfl⟩ := e9
  have HO := Lib.hid hO
  have y2 := hc9.c2
  have y3 := hc9.c3
  rw [hu] at y2
  rw [hg] at y3
  have HU := Lib.hid hu
  have HG := Lib.hid hg
  have HSELF : Hid (ps.set nd (ps[nd].1, (ps[nd]).2) = ps) := Lib.hid (set_self hnd rfl)
  have KS : Hid (∀ W, Below w1.heap.size w1 W → (fun w' => w'.cell? ⟨gg, nd * 7 + 2, none⟩ = some (.int .i64 xu) ∧ w'.cell? ⟨gg, nd * 7 + 3, none⟩ = some (.int .i64 xg)) W) := Lib.hid (fun W h => ⟨(h.cell (p := ⟨gg, nd * 7 + 2, none⟩) hgl).trans y2, (h.cell (p := ⟨gg, nd * 7 + 3, none⟩) hgl).trans y3⟩)
  have HFR : Hid (∀ W, Below w1.heap.size w1 W → ∀ j, W.frozen? ⟨gg, j, none⟩ = false) := Lib.hid (fun W h j => by rw [World.frozen?_of_block (a := ⟨gg, j, none⟩) (h.block gg hgl)]; exact hfr9 j)
  have HK0 : Hid (Below w1.heap.size w1 (w1.alloc (.cells #[.int .i64 u, .int .i64 g] 36))) := Lib.hid (bel_al (Below.refl _ _))
  clear hc9 hO hu hg hfr9
  go_enter Tryz.func66, Tryz.ntmps66
  go_wp2
  go_region_held3 (fun w' => w'.cell? ⟨gg, nd * 7 + 2, none⟩ = some (.int .i64 xu) ∧ w'.cell? ⟨gg, nd * 7 + 3, none⟩ = some (.int .i64 xg)) (first | exact KS.out _ (by (first | (with_reducible exact HK0.out) | (with_reducible exact bel_dr HK0.out) | (with_reducible exact bel_al HK0.out) | (with_reducible exact bel_ald HK0.out))) | exact KS.out _ (bel_ald (bel_al (Below.refl _ _))) | exact KS.out _ (bel_al (bel_dr HK0.out)))
    (fail)
  go_wp2
  have HBW : Hid (Below w1.heap.size w1 ((((w1.alloc (.cells #[.int .i64 u, .int .i64 g] 36)).alloc (.cells #[.int .i64 xu, .int .i64 xg] 36)).alloc (.cells #[.int .i64 xu, .int .i64 ng] 36)).drew)) := Lib.hid (bel_ald (bel_al (bel_al (Below.refl _ w1))))
  have hTS : ((w1.alloc (.cells #[.int .i64 u, .int .i64 g] 36)).alloc (.cells #[.int .i64 xu, .int .i64 xg] 36)).heap.size = w1.heap.size + 1 + 1 := by simp
  have HT : Hid (((((w1.alloc (.cells #[.int .i64 u, .int .i64 g] 36)).alloc (.cells #[.int .i64 xu, .int .i64 xg] 36)).alloc (.cells #[.int .i64 xu, .int .i64 ng] 36)).drew).heap[w1.heap.size + 1 + 1]? = some (.cells #[.int .i64 xu, .int .i64 ng] 36)) := Lib.hid (by rw [← hTS]; exact heap_alloc_new ((w1.alloc (.cells #[.int .i64 u, .int .i64 g] 36)).alloc (.cells #[.int .i64 xu, .int .i64 xg] 36)) (.cells #[.int .i64 xu, .int .i64 ng] 36))
  obtain ⟨W, hW⟩ : ∃ W, ((((w1.alloc (.cells #[.int .i64 u, .int .i64 g] 36)).alloc (.cells #[.int .i64 xu, .int .i64 xg] 36)).alloc (.cells #[.int .i64 xu, .int .i64 ng] 36)).drew) = W := ⟨_, rfl⟩
  rw [hW] at HBW HT
  rw [hW]
  have hq : givN nu ng ps[nd].1 = { ps[nd].1 with uid := xu, gid := ng } := by unfold givN; rw [HU.out, HG.out, h8, h9]
  have HOW1 : Hid (Own ((W.setCell ⟨gg, nd * 7 + 2, none⟩ (.int .i64 xu)).setCell ⟨gg, nd * 7 + 3, none⟩ (.int .i64 ng)) R (.slice (some ⟨gg, 0, none⟩) ps.length cc) (ps.set nd (givN nu ng ps[nd].1, (ps[nd]).2))) := Lib.hid (by
    rw [hq]
    exact ((HO.out.below HBW.out).turn hnd (show 2 < 7 by decide) (.int .i64 xu) { ps[nd].1 with uid := xu } rfl rfl).again hnd (show 3 < 7 by decide) (.int .i64 ng) _ rfl rfl)
  have HOW2 : Hid (Own ((W.setCell ⟨gg, nd * 7 + 3, none⟩ (.int .i64 ng)).setCell ⟨gg, nd * 7 + 2, none⟩ (.int .i64 xu)) R (.slice (some ⟨gg, 0, none⟩) ps.length cc) (ps.set nd (givN nu ng ps[nd].1, (ps[nd]).2))) := Lib.hid (by
    rw [hq]
    exact ((HO.out.below HBW.out).turn hnd (show 3 < 7 by decide) (.int .i64 ng) { ps[nd].1 with gid := ng } rfl rfl).again hnd (show 2 < 7 by decide) (.int .i64 xu) _ rfl rfl)
  have c0 : W.cell? ⟨w1.heap.size + 1 + 1, 0, none⟩ = some (.int .i64 xu) := cell_blk HT.out 0
  have c1 : W.cell? ⟨w1.heap.size + 1 + 1, 1, none⟩ = some (.int .i64 ng) := cell_blk HT.out 1
  have c2 : W.cell? ⟨gg, nd * 7 + 2, none⟩ = some (.int .i64 xu) := (KS.out _ HBW.out).1
  have c3 : W.cell? ⟨gg, nd * 7 + 3, none⟩ = some (.int .i64 xg) := (KS.out _ HBW.out).2
  have cf := HFR.out _ HBW.out
  have HBR : Hid (Below R w1 W) := Lib.hid (HBW.out.mono (Nat.le_trans hRg (Nat.le_of_lt hgl)))
  have HNE : Hid (∀ (a b : Nat) (x y : Value) (i : Nat), i ≠ gg → i < w1.heap.size → ((W.setCell ⟨gg, a, none⟩ x).setCell ⟨gg, b, none⟩ y).heap[i]? = w1.heap[i]?) := Lib.hid (fun a b x y i h1 h2 => (Below.heap_setCell _ ⟨gg, b, none⟩ y i (by simp only; omega)).trans ((Below.heap_setCell W ⟨gg, a, none⟩ x i (by simp only; omega)).trans (HBW.out.block i h2)))
  have HBB : Hid (∀ (a b : Nat) (x y : Value), Below R w1 ((W.setCell ⟨gg, a, none⟩ x).setCell ⟨gg, b, none⟩ y)) := Lib.hid (fun a b x y => (HBR.out.setCell (p := ⟨gg, a, none⟩) hRg x).setCell (p := ⟨gg, b, none⟩) hRg y)
  have h9 : w1.heap.size + 1 + 1 ≠ gg := by omega
  have h99 : gg ≠ w1.heap.size + 1 + 1 := by omega
  clear hW hTS hq y2 y3
  go_region_with (fail)
  all_goals
    go_wp2
    go_ret
    first
      | exact ⟨rfl, HBB.out _ _ _ _, HNE.out _ _ _ _, HOW1.out⟩
      | exact ⟨rfl, HBB.out _ _ _ _, HNE.out _ _ _ _, HOW2.out⟩
      | exact ⟨rfl, (HBB.out _ _ _ _).drew, HNE.out _ _ _ _, HOW1.out.up (fun _ _ _ => rfl)⟩
      | exact ⟨rfl, (HBB.out _ _ _ _).drew, HNE.out _ _ _ _, HOW2.out.up (fun _ _ _ => rfl)⟩

set_option maxRecDepth 100000 in
set_option maxHeartbeats 2000000 in
theorem give_no1_10 (u g nu ng xu xg : Int) (R gg cc nd : Nat) (ps : List (Nod × Value)) (w1 : World) (hO : Own w1 R (.slice (some ⟨gg, 0, none⟩) ps.length cc) ps) (hnd : nd < ps.length) (hu : ps[nd].1.uid = xu) (hg : ps[nd].1.gid = xg) (h0 : (nu != -1) = true) (h1 : (ng != -1) = false) (h2 : (u != 0) = true) (h3 : (u != xu) = true) :
    Calls Tryz.prog 66 #[.pointer (some ⟨gg, nd * 7, none⟩), .agg #[.int .i64 u, .int .i64 g], .int .i64 nu, .int .i64 ng] w1 fun e w' => e = .returned (errC 4) ∧ Below R w1 w' ∧ (∀ i, i ≠ gg → i < w1.heap.size → w'.heap[i]? = w1.heap[i]?) ∧ Own w' R (.slice (some ⟨gg, 0, none⟩) ps.length cc) (ps.set nd (ps[nd].1, (ps[nd]).2)) := by
  obtain ⟨g9, cap9, e9, hRg, hgl, hn9, hm9, hc9, hfr9⟩ := hO.at hnd
  simp only [Value.slice.injEq, Option.some.injEq, Addr.mk.injEq, and_true, true_and] at e9
  obtain ⟨rfl, rfl⟩ := e9
  have HO := Lib.hid hO
  have y2 := hc9.c2
  have y3 := hc9.c3
  rw [hu] at y2
  rw [hg] at y3
  have HU := Lib.hid hu
  have HG := Lib.hid hg
  have HSELF : Hid (ps.set nd (ps[nd].1, (ps[nd]).2) = ps) := Lib.hid (set_self hnd rfl)
  have KS : Hid (∀ W, Below w1.heap.size w1 W → (fun w' => w'.cell? ⟨gg, nd * 7 + 2, none⟩ = some (.int .i64 xu) ∧ w'.cell? ⟨gg, nd * 7 + 3, none⟩ = some (.int .i64 xg)) W) := Lib.hid (fun W h => ⟨(h.cell (p := ⟨gg, nd * 7 + 2, none⟩) hgl).trans y2, (h.cell (p := ⟨gg, nd * 7 + 3, none⟩) hgl).trans y3⟩)
  have HFR : Hid (∀ W, Below w1.heap.size w1 W → ∀ j, W.frozen? ⟨gg, j, none⟩ = false) := Lib.hid (fun W h j => by rw [World.frozen?_of_block (a := ⟨gg, j, none⟩) (h.block gg hgl)]; exact hfr9 j)
  have HK0 : Hid (Below w1.heap.size w1 (w1.alloc (.cells #[.int .i64 u, .int .i64 g] 36))) := Lib.hid (bel_al (Below.refl _ _))
  clear hc9 hO hu hg hfr9
  go_enter Tryz.func66, Tryz.ntmps66
  go_wp2
  go_region_held3 (fun w' => w'.cell? ⟨gg, nd * 7 + 2, none⟩ = some (.int .i64 xu) ∧ w'.cell? ⟨gg, nd * 7 + 3, none⟩ = some (.int .i64 xg)) (first | exact KS.out _ (by (first | (with_reducible exact HK0.out) | (with_reducible exact bel_dr HK0.out) | (with_reducible exact bel_al HK0.out) | (with_reducible exact bel_ald HK0.out))) | exact KS.out _ (bel_ald (bel_al (Below.refl _ _))) | exact KS.out _ (bel_al (bel_dr HK0.out)))
    (fail)
  go_wp2
  go_ret
  refine ⟨rfl, (bel_al (bel_ald (bel_al (Below.refl _ w1)))).mono (Nat.le_trans hRg (Nat.le_of_lt hgl)), fun i _ h => (bel_al (bel_ald (bel_al (Below.refl _ w1)))).block i h, ?_⟩
  rw [HSELF.out]
  exact HO.out.below (bel_al (bel_ald (bel_al (Below.refl _ w1))))

set_option maxRecDepth 100000 in
set_option maxHeartbeats 2000000 in
theorem give_no2_10 (u g nu ng xu xg : Int) (R gg cc nd : Nat) (ps : List (Nod × Value)) (w1 : World) (hO : Own w1 R (.slice (some ⟨gg, 0, none⟩) ps.length cc) ps) (hnd : nd < ps.length) (hu : ps[nd].1.uid = xu) (hg : ps[nd].1.gid = xg) (h0 : (nu != -1) = true) (h1 : (ng != -1) = false) (h2 : (u != 0) = true) (h3 : (u != xu) = false) (h4 : (nu == xu) = false) (h5 : (nu == u) = false) :
    Calls Tryz.prog 66 #[.pointer (some ⟨gg, nd * 7, none⟩), .agg #[.int .i64 u, .int .i64 g], .int .i64 nu, .int .i64 ng] w1 fun e w' => e = .returned (errC 4) ∧ Below R w1 w' ∧ (∀ i, i ≠ gg → i < w1.heap.size → w'.heap[i]? = w1.heap[i]?) ∧ Own w' R (.slice (some ⟨gg, 0, none⟩) ps.length cc) (ps.set nd (ps[nd].1, (ps[nd]).2)) := by
  obtain ⟨g9, cap9, e9, hRg, hgl, hn9, hm9, hc9, hfr9⟩ := hO.at hnd
  simp only [Value.slice.injEq, Option.some.injEq, Addr.mk.injEq, and_true, true_and] at e9
  obtain ⟨rfl, rfl⟩ := e9
  have HO := Lib.hid hO
  have y2 := hc9.c2
  have y3 := hc9.c3
  rw [hu] at y2
  rw [hg] at y3
  have HU := Lib.hid hu
  have HG := Lib.hid hg
  have HSELF : Hid (ps.set nd (ps[nd].1, (ps[nd]).2) = ps) := Lib.hid (set_self hnd rfl)
  have KS : Hid (∀ W, Below w1.heap.size w1 W → (fun w' => w'.cell? ⟨gg, nd * 7 + 2, none⟩ = some (.int .i64 xu) ∧ w'.cell? ⟨gg, nd * 7 + 3, none⟩ = some (.int .i64 xg)) W) := Lib.hid (fun W h => ⟨(h.cell (p := ⟨gg, nd * 7 + 2, none⟩) hgl).trans y2, (h.cell (p := ⟨gg, nd * 7 + 3, none⟩) hgl).trans y3⟩)
  have HFR : Hid (∀ W, Below w1.heap.size w1 W → ∀ j, W.frozen? ⟨gg, j, none⟩ = false) := Lib.hid (fun W h j => by rw [World.frozen?_of_block (a := ⟨gg, j, none⟩) (h.block gg hgl)]; exact hfr9 j)
  have HK0 : Hid (Below w1.heap.size w1 (w1.alloc (.cells #[.int .i64 u, .int .i64 g] 36))) := Lib.hid (bel_al (Below.refl _ _))
  clear hc9 hO hu hg hfr9
  go_enter Tryz.func66, Tryz.ntmps66
  go_wp2
  go_region_held3 (fun w' => w'.cell? ⟨gg, nd * 7 + 2, none⟩ = some (.int .i64 xu) ∧ w'.cell? ⟨gg, nd * 7 + 3, none⟩ = some (.int .i64 xg)) (first | exact KS.out _ (by (first | (with_reducible exact HK0.out) | (with_reducible exact bel_dr HK0.out) | (with_reducible exact bel_al HK0.out) | (with_reducible exact bel_ald HK0.out))) | exact KS.out _ (bel_ald (bel_al (Below.refl _ _))) | exact KS.out _ (bel_al (bel_dr HK0.out)))
    (fail)
  go_wp2
  go_ret
  refine ⟨rfl, (bel_al (bel_ald (bel_al (Below.refl _ w1)))).mono (Nat.le_trans hRg (Nat.le_of_lt hgl)), fun i _ h => (bel_al (bel_ald (bel_al (Below.refl _ w1)))).block i h, ?_⟩
  rw [HSELF.out]
  exact HO.out.below (bel_al (bel_ald (bel_al (Below.refl _ w1))))

set_option maxRecDepth 100000 in
set_option maxHeartbeats 2000000 in
theorem give_yes1_10 (u g nu ng xu xg : Int) (R gg cc nd : Nat) (ps : List (Nod × Value)) (w1 : World) (hO : Own w1 R (.slice (some ⟨gg, 0, none⟩) ps.length cc) ps) (hnd : nd < ps.length) (hu : ps[nd].1.uid = xu) (hg : ps[nd].1.gid = xg) (h0 : (nu != -1) = true) (h1 : (ng != -1) = false) (h2 : (u != 0) = false) (h3 : newU nu xu = nu) (h4 : newU ng xg = xg) :
    Calls Tryz.prog 66 #[.pointer (some ⟨gg, nd * 7, none⟩), .agg #[.int .i64 u, .int .i64 g], .int .i64 nu, .int .i64 ng] w1 fun e w' => e = .returned (.nilIface) ∧ Below R w1 w' ∧ (∀ i, i ≠ gg → i < w1.heap.size → w'.heap[i]? = w1.heap[i]?) ∧ Own w' R (.slice (some ⟨gg, 0, none⟩) ps.length cc) (ps.set nd (givN nu ng ps[nd].1, (ps[nd]).2)) := by
  obtain ⟨g9, cap9, e9, hRg, hgl, hn9, hm9, hc9, hfr9⟩ := hO.at hnd
  simp only [Value.slice.injEq, Option.some.injEq, Addr.mk.injEq, and_true, true_and] at e9
  obtain ⟨rfl, rfl⟩ := e9
  have HO := Lib.hid hO
  have y2 := hc9.c2
  have y3 := hc9.c3
  rw [hu] at y2
  rw [hg] at y3
  have HU := Lib.hid hu
  have HG := Lib.hid hg
  have HSELF : Hid (ps.set nd (ps[nd].1, (ps[nd]).2) = ps) := Lib.hid (set_self hnd rfl)
  have KS : Hid (∀ W, Below w1.heap.size w1 W → (fun w' => w'.cell? ⟨gg, nd * 7 + 2, none⟩ = some (.int .i64 xu) ∧ w'.cell? ⟨gg, nd * 7 + 3, none⟩ = some (.int .i64 xg)) W) := Lib.hid (fun W h => ⟨(h.cell (p := ⟨gg, nd * 7 + 2, none⟩) hgl).trans y2, (h.cell (p := ⟨gg, nd * 7 + 3, none⟩) hgl).trans y3⟩)
  have HFR : Hid (∀ W, Below w1.heap.size w1 W → ∀ j, W.frozen? ⟨gg, j, none⟩ = false) := Lib.hid (fun W h j => by rw [World.frozen?_of_block (a := ⟨gg, j, none⟩) (h.block gg hgl)]; exact hfr9 j)
  have HK0 : Hid (Below w1.heap.size w1 (w1.alloc (.cells #[.int .i64 u, .int .i64 g] 36))) := Lib.hid (bel_al (Below.refl _ _))
  clear hc9 hO hu hg hfr9
  go_enter Tryz.func66, Tryz.ntmps66
  go_wp2
  go_region_held3 (fun w' => w'.cell? ⟨gg, nd * 7 + 2, none⟩ = some (.int .i64 xu) ∧ w'.cell? ⟨gg, nd * 7 + 3, none⟩ = some (.int .i64 xg)) (first | exact KS.out _ (by (first | (with_reducible exact HK0.out) | (with_reducible exact bel_dr HK0.out) | (with_reducible exact bel_al HK0.out) | (with_reducible exact bel_ald HK0.out))) | exact KS.out _ (bel_ald (bel_al (Below.refl _ _))) | exact KS.out _ (bel_al (bel_dr HK0.out)))
    (fail)
  go_wp2
  have HBW : Hid (Below w1.heap.size w1 ((((w1.alloc (.cells #[.int .i64 u, .int .i64 g] 36)).alloc (.cells #[.int .i64 xu, .int .i64 xg] 36)).alloc (.cells #[.int .i64 nu, .int .i64 xg] 36)).drew)) := Lib.hid (bel_ald (bel_al (bel_al (Below.refl _ w1))))
  have hTS : ((w1.alloc (.cells #[.int .i64 u, .int .i64 g] 36)).alloc (.cells #[.int .i64 xu, .int .i64 xg] 36)).heap.size = w1.heap.size + 1 + 1 := by simp
  have HT : Hid (((((w1.alloc (.cells #[.int .i64 u, .int .i64 g] 36)).alloc (.cells #[.int .i64 xu, .int .i64 xg] 36)).alloc (.cells #[.int .i64 nu, .int .i64 xg] 36)).drew).heap[w1.heap.size + 1 + 1]? = some (.cells #[.int .i64 nu, .int .i64 xg] 36)) := Lib.hid (by rw [← hTS]; exact heap_alloc_new ((w1.alloc (.cells #[.int .i64 u, .int .i64 g] 36)).alloc (.cells #[.int .i64 xu, .int .i64 xg] 36)) (.cells #[.int .i64 nu, .int .i64 xg] 36))
  obtain ⟨W, hW⟩ : ∃ W, ((((w1.alloc (.cells #[.int .i64 u, .int .i64 g] 36)).alloc (.cells #[.int .i64 xu, .int .i64 xg] 36)).alloc (.cells #[.int .i64 nu, .int .i64 xg] 36)).drew) = W := ⟨_, rfl⟩
  rw [hW] at HBW HT
  rw [hW]
  have hq : givN nu ng ps[nd].1 = { ps[nd].1 with uid := nu, gid := xg } := by unfold givN; rw [HU.out, HG.out, h3, h4]
  have HOW1 : Hid (Own ((W.setCell ⟨gg, nd * 7 + 2, none⟩ (.int .i64 nu)).setCell ⟨gg, nd * 7 + 3, none⟩ (.int .i64 xg)) R (.slice (some ⟨gg, 0, none⟩) ps.length cc) (ps.set nd (givN nu ng ps[nd].1, (ps[nd]).2))) := Lib.hid (by
    rw [hq]
    exact ((HO.out.below HBW.out).turn hnd (show 2 < 7 by decide) (.int .i64 nu) { ps[nd].1 with uid := nu } rfl rfl).again hnd (show 3 < 7 by decide) (.int .i64 xg) _ rfl rfl)
  have HOW2 : Hid (Own ((W.setCell ⟨gg, nd * 7 + 3, none⟩ (.int .i64 xg)).setCell ⟨gg, nd * 7 + 2, none⟩ (.int .i64 nu)) R (.slice (some ⟨gg, 0, none⟩) ps.length cc) (ps.set nd (givN nu ng ps[nd].1, (ps[nd]).2))) := Lib.hid (by
    rw [hq]
    exact ((HO.out.below HBW.out).turn hnd (show 3 < 7 by decide) (.int .i64 xg) { ps[nd].1 with gid := xg } rfl rfl).again hnd (show 2 < 7 by decide) (.int .i64 nu) _ rfl rfl)
  have c0 : W.cell? ⟨w1.heap.size + 1 + 1, 0, none⟩ = some (.int .i64 nu) := cell_blk HT.out 0
  have c1 : W.cell? ⟨w1.heap.size + 1 + 1, 1, none⟩ = some (.int .i64 xg) := cell_blk HT.out 1
  have c2 : W.cell? ⟨gg, nd * 7 + 2, none⟩ = some (.int .i64 xu) := (KS.out _ HBW.out).1
  have c3 : W.cell? ⟨gg, nd * 7 + 3, none⟩ = some (.int .i64 xg) := (KS.out _ HBW.out).2
  have cf := HFR.out _ HBW.out
  have HBR : Hid (Below R w1 W) := Lib.hid (HBW.out.mono (Nat.le_trans hRg (Nat.le_of_lt hgl)))
  have HNE : Hid (∀ (a b : Nat) (x y : Value) (i : Nat), i ≠ gg → i < w1.heap.size → ((W.setCell ⟨gg, a, none⟩ x).setCell ⟨gg, b, none⟩ y).heap[i]? = w1.heap[i]?) := Lib.hid (fun a b x y i h1 h2 => (Below.heap_setCell _ ⟨gg, b, none⟩ y i (by simp only; omega)).trans ((Below.heap_setCell W ⟨gg, a, none⟩ x i (by simp only; omega)).trans (HBW.out.block i h2)))
  have HBB : Hid (∀ (a b : Nat) (x y : Value), Below R w1 ((W.setCell ⟨gg, a, none⟩ x).setCell ⟨gg, b, none⟩ y)) := Lib.hid (fun a b x y => (HBR.out.setCell (p := ⟨gg, a, none⟩) hRg x).setCell (p := ⟨gg, b, none⟩) hRg y)
  have h9 : w1.heap.size + 1 + 1 ≠ gg := by omega
  have h99 : gg ≠ w1.heap.size + 1 + 1 := by omega
  clear hW hTS hq y2 y3
  go_region_with (fail)
  all_goals
    go_wp2
    go_ret
    first
      | exact ⟨rfl, HBB.out _ _ _ _, HNE.out _ _ _ _, HOW1.out⟩
      | exact ⟨rfl, HBB.out _ _ _ _, HNE.out _ _ _ _, HOW2.out⟩
      | exact ⟨rfl, (HBB.out _ _ _ _).drew, HNE.out _ _ _ _, HOW1.out.up (fun _ _ _ => rfl)⟩
      | exact ⟨rfl, (HBB.out _ _ _ _).drew, HNE.out _ _ _ _, HOW2.out.up (fun _ _ _ => rfl)⟩

set_option maxRecDepth 100000 in
set_option maxHeartbeats 2000000 in
theorem give_yes2_10 (u g nu ng xu xg : Int) (R gg cc nd : Nat) (ps : List (Nod × Value)) (w1 : World) (hO : Own w1 R (.slice (some ⟨gg, 0, none⟩) ps.length cc) ps) (hnd : nd < ps.length) (hu : ps[nd].1.uid = xu) (hg : ps[nd].1.gid = xg) (h0 : (nu != -1) = true) (h1 : (ng != -1) = false) (h2 : (u != 0) = true) (h3 : (u != xu) = false) (h4 : (nu == xu) = true) (h5 : (xg == xg) = true) (h6 : newU nu xu = nu) (h7 : newU ng xg = xg) :
    Calls Tryz.prog 66 #[.pointer (some ⟨gg, nd * 7, none⟩), .agg #[.int .i64 u, .int .i64 g], .int .i64 nu, .int .i64 ng] w1 fun e w' => e = .returned (.nilIface) ∧ Below R w1 w' ∧ (∀ i, i ≠ gg → i < w1.heap.size → w'.heap[i]? = w1.heap[i]?) ∧ Own w' R (.slice (some ⟨gg, 0, none⟩) ps.length cc) (ps.set nd (givN nu ng ps[nd].1, (ps[nd]).2)) := by
  obtain ⟨g9, cap9, e9, hRg, hgl, hn9, hm9, hc9, hfr9⟩ := hO.at hnd
  simp only [Value.slice.injEq, Option.some.injEq, Addr.mk.injEq, and_true, true_and] at e9
  obtain ⟨rfl, rfl⟩ := e9
  have HO := Lib.hid hO
  have y2 := hc9.c2
  have y3 := hc9.c3
  rw [hu] at y2
  rw [hg] at y3
  have HU := Lib.hid hu
  have HG := Lib.hid hg
  have HSELF : Hid (ps.set nd (ps[nd].1, (ps[nd]).2) = ps) := Lib.hid (set_self hnd rfl)
  have KS : Hid (∀ W, Below w1.heap.size w1 W → (fun w' => w'.cell? ⟨gg, nd * 7 + 2, none⟩ = some (.int .i64 xu) ∧ w'.cell? ⟨gg, nd * 7 + 3, none⟩ = some (.int .i64 xg)) W) := Lib.hid (fun W h => ⟨(h.cell (p := ⟨gg, nd * 7 + 2, none⟩) hgl).trans y2, (h.cell (p := ⟨gg, nd * 7 + 3, none⟩) hgl).trans y3⟩)
  have HFR : Hid (∀ W, Below w1.heap.size w1 W → ∀ j, W.frozen? ⟨gg, j, none⟩ = false) := Lib.hid (fun W h j => by rw [World.frozen?_of_block (a := ⟨gg, j, none⟩) (h.block gg hgl)]; exact hfr9 j)
  have HK0 : Hid (Below w1.heap.size w1 (w1.alloc (.cells #[.int .i64 u, .int .i64 g] 36))) := Lib.hid (bel_al (Below.refl _ _))
  clear hc9 hO hu hg hfr9
  go_enter Tryz.func66, Tryz.ntmps66
  go_wp2
  go_region_held3 (fun w' => w'.cell? ⟨gg, nd * 7 + 2, none⟩ = some (.int .i64 xu) ∧ w'.cell? ⟨gg, nd * 7 + 3, none⟩ = some (.int .i64 xg)) (first | exact KS.out _ (by (first | (with_reducible exact HK0.out) | (with_reducible exact bel_dr HK0.out) | (with_reducible exact bel_al HK0.out) | (with_reducible exact bel_ald HK0.out))) | exact KS.out _ (bel_ald (bel_al (Below.refl _ _))) | exact KS.out _ (bel_al (bel_dr HK0.out)))
    (fail)
  go_wp2
  have HBW : Hid (Below w1.heap.size w1 ((((w1.alloc (.cells #[.int .i64 u, .int .i64 g] 36)).alloc (.cells #[.int .i64 xu, .int .i64 xg] 36)).alloc (.cells #[.int .i64 nu, .int .i64 xg] 36)).drew)) := Lib.hid (bel_ald (bel_al (bel_al (Below.refl _ w1))))
  have hTS : ((w1.alloc (.cells #[.int .i64 u, .int .i64 g] 36)).alloc (.cells #[.int .i64 xu, .int .i64 xg] 36)).heap.size = w1.heap.size + 1 + 1 := by simp
  have HT : Hid (((((w1.alloc (.cells #[.int .i64 u, .int .i64 g] 36)).alloc (.cells #[.int .i64 xu, .int .i64 xg] 36)).alloc (.cells #[.int .i64 nu, .int .i64 xg] 36)).drew).heap[w1.heap.size + 1 + 1]? = some (.cells #[.int .i64 nu, .int .i64 xg] 36)) := Lib.hid (by rw [← hTS]; exact heap_alloc_new ((w1.alloc (.cells #[.int .i64 u, .int .i64 g] 36)).alloc (.cells #[.int .i64 xu, .int .i64 xg] 36)) (.cells #[.int .i64 nu, .int .i64 xg] 36))
  obtain ⟨W, hW⟩ : ∃ W, ((((w1.alloc (.cells #[.int .i64 u, .int .i64 g] 36)).alloc (.cells #[.int .i64 xu, .int .i64 xg] 36)).alloc (.cells #[.int .i64 nu, .int .i64 xg] 36)).drew) = W := ⟨_, rfl⟩
  rw [hW] at HBW HT
  rw [hW]
  have hq : givN nu ng ps[nd].1 = { ps[nd].1 with uid := nu, gid := xg } := by unfold givN; rw [HU.out, HG.out, h6, h7]
  have HOW1 : Hid (Own ((W.setCell ⟨gg, nd * 7 + 2, none⟩ (.int .i64 nu)).setCell ⟨gg, nd * 7 + 3, none⟩ (.int .i64 xg)) R (.slice (some ⟨gg, 0, none⟩) ps.length cc) (ps.set nd (givN nu ng ps[nd].1, (ps[nd]).2))) := Lib.hid (by
    rw [hq]
    exact ((HO.out.below HBW.out).turn hnd (show 2 < 7 by decide) (.int .i64 nu) { ps[nd].1 with uid := nu } rfl rfl).again hnd (show 3 < 7 by decide) (.int .i64 xg) _ rfl rfl)
  have HOW2 : Hid (Own ((W.setCell ⟨gg, nd * 7 + 3, none⟩ (.int .i64 xg)).setCell ⟨gg, nd * 7 + 2, none⟩ (.int .i64 nu)) R (.slice (some ⟨gg, 0, none⟩) ps.length cc) (ps.set nd (givN nu ng ps[nd].1, (ps[nd]).2))) := Lib.hid (by
    rw [hq]
    exact ((HO.out.below HBW.out).turn hnd (show 3 < 7 by decide) (.int .i64 xg) { ps[nd].1 with gid := xg } rfl rfl).again hnd (show 2 < 7 by decide) (.int .i64 nu) _ rfl rfl)
  have c0 : W.cell? ⟨w1.heap.size + 1 + 1, 0, none⟩ = some (.int .i64 nu) := cell_blk HT.out 0
  have c1 : W.cell? ⟨w1.heap.size + 1 + 1, 1, none⟩ = some (.int .i64 xg) := cell_blk HT.out 1
  have c2 : W.cell? ⟨gg, nd * 7 + 2, none⟩ = some (.int .i64 xu) := (KS.out _ HBW.out).1
  have c3 : W.cell? ⟨gg, nd * 7 + 3, none⟩ = some (.int .i64 xg) := (KS.out _ HBW.out).2
  have cf := HFR.out _ HBW.out
  have HBR : Hid (Below R w1 W) := Lib.hid (HBW.out.mono (Nat.le_trans hRg (Nat.le_of_lt hgl)))
  have HNE : Hid (∀ (a b : Nat) (x y : Value) (i : Nat), i ≠ gg → i < w1.heap.size → ((W.setCell ⟨gg, a, none⟩ x).setCell ⟨gg, b, none⟩ y).heap[i]? = w1.heap[i]?) := Lib.hid (fun a b x y i h1 h2 => (Below.heap_setCell _ ⟨gg, b, none⟩ y i (by simp only; omega)).trans ((Below.heap_setCell W ⟨gg, a, none⟩ x i (by simp only; omega)).trans (HBW.out.block i h2)))
  have HBB : Hid (∀ (a b : Nat) (x y : Value), Below R w1 ((W.setCell ⟨gg, a, none⟩ x).setCell ⟨gg, b, none⟩ y)) := Lib.hid (fun a b x y => (HBR.out.setCell (p := ⟨gg, a, none⟩) hRg x).setCell (p := ⟨gg, b, none⟩) hRg y)
  have h9 : w1.heap.size + 1 + 1 ≠ gg := by omega
  have h99 : gg ≠ w1.heap.size + 1 + 1 := by omega
  clear hW hTS hq y2 y3
  go_region_with (fail)
  all_goals
    go_wp2
    go_ret
    first
      | exact ⟨rfl, HBB.out _ _ _ _, HNE.out _ _ _ _, HOW1.out⟩
      | exact ⟨rfl, HBB.out _ _ _ _, HNE.out _ _ _ _, HOW2.out⟩
      | exact ⟨rfl, (HBB.out _ _ _ _).drew, HNE.out _ _ _ _, HOW1.out.up (fun _ _ _ => rfl)⟩
      | exact ⟨rfl, (HBB.out _ _ _ _).drew, HNE.out _ _ _ _, HOW2.out.up (fun _ _ _ => rfl)⟩

set_option maxRecDepth 100000 in
set_option maxHeartbeats 2000000 in
theorem give_no1_11 (u g nu ng xu xg : Int) (R gg cc nd : Nat) (ps : List (Nod × Value)) (w1 : World) (hO : Own w1 R (.slice (some ⟨gg, 0, none⟩) ps.length cc) ps) (hnd : nd < ps.length) (hu : ps[nd].1.uid = xu) (hg : ps[nd].1.gid = xg) (h0 : (nu != -1) = true) (h1 : (ng != -1) = true) (h2 : (u != 0) = true) (h3 : (u != xu) = true) :
    Calls Tryz.prog 66 #[.pointer (some ⟨gg, nd * 7, none⟩), .agg #[.int .i64 u, .int .i64 g], .int .i64 nu, .int .i64 ng] w1 fun e w' => e = .returned (errC 4) ∧ Below R w1 w' ∧ (∀ i, i ≠ gg → i < w1.heap.size → w'.heap[i]? = w1.heap[i]?) ∧ Own w' R (.slice (some ⟨gg, 0, none⟩) ps.length cc) (ps.set nd (ps[nd].1, (ps[nd]).2)) := by
  obtain ⟨g9, cap9, e9, hRg, hgl, hn9, hm9, hc9, hfr9⟩ := hO.at hnd
  simp only [Value.slice.injEq, Option.some.injEq, Addr.mk.injEq, and_true, true_and] at e9
  obtain ⟨rfl, rfl⟩ := e9
  have HO := Lib.hid hO
  have y2 := hc9.c2
  have y3 := hc9.c3
  rw [hu] at y2
  rw [hg] at y3
  have HU := Lib.hid hu
  have HG := Lib.hid hg
  have HSELF : Hid (ps.set nd (ps[nd].1, (ps[nd]).2) = ps) := Lib.hid (set_self hnd rfl)
  have KS : Hid (∀ W, Below w1.heap.size w1 W → (fun w' => w'.cell? ⟨gg, nd * 7 + 2, none⟩ = some (.int .i64 xu) ∧ w'.cell? ⟨gg, nd * 7 + 3, none⟩ = some (.int .i64 xg)) W) := Lib.hid (fun W h => ⟨(h.cell (p := ⟨gg, nd * 7 + 2, none⟩) hgl).trans y2, (h.cell (p := ⟨gg, nd * 7 + 3, none⟩) hgl).trans y3⟩)
  have HFR : Hid (∀ W, Below w1.heap.size w1 W → ∀ j, W.frozen? ⟨gg, j, none⟩ = false) := Lib.hid (fun W h j => by rw [World.frozen?_of_block (a := ⟨gg, j, none⟩) (h.block gg hgl)]; exact hfr9 j)
  have HK0 : Hid (Below w1.heap.size w1 (w1.alloc (.cells #[.int .i64 u, .int .i64 g] 36))) := Lib.hid (bel_al (Below.refl _ _))
  clear hc9 hO hu hg hfr9
  go_enter Tryz.func66, Tryz.ntmps66
  go_wp2
  go_region_held3 (fun w' => w'.cell? ⟨gg, nd * 7 + 2, none⟩ = some (.int .i64 xu) ∧ w'.cell? ⟨gg, nd * 7 + 3, none⟩ = some (.int .i64 xg)) (first | exact KS.out _ (by (first | (with_reducible exact HK0.out) | (with_reducible exact bel_dr HK0.out) | (with_reducible exact bel_al HK0.out) | (with_reducible exact bel_ald HK0.out))) | exact KS.out _ (bel_ald (bel_al (Below.refl _ _))) | exact KS.out _ (bel_al (bel_dr HK0.out)))
    (fail)
  go_wp2
  go_ret
  refine ⟨rfl, (bel_al (bel_ald (bel_al (Below.refl _ w1)))).mono (Nat.le_trans hRg (Nat.le_of_lt hgl)), fun i _ h => (bel_al (bel_ald (bel_al (Below.refl _ w1)))).block i h, ?_⟩
  rw [HSELF.out]
  exact HO.out.below (bel_al (bel_ald (bel_al (Below.refl _ w1))))

set_option maxRecDepth 100000 in
set_option maxHeartbeats 2000000 in
theorem give_no2_11 (u g nu ng xu xg : Int) (R gg cc nd : Nat) (ps : List (Nod × Value)) (w1 : World) (hO : Own w1 R (.slice (some ⟨gg, 0, none⟩) ps.length cc) ps) (hnd : nd < ps.length) (hu : ps[nd].1.uid = xu) (hg : ps[nd].1.gid = xg) (h0 : (nu != -1) = true) (h1 : (ng != -1) = true) (h2 : (u != 0) = true) (h3 : (u != xu) = false) (h4 : (nu == xu) = false) (h5 : (nu == u) = false) :
    Calls Tryz.prog 66 #[.pointer (some ⟨gg, nd * 7, none⟩), .agg #[.int .i64 u, .int .i64 g], .int .i64 nu, .int .i64 ng] w1 fun e w' => e = .returned (errC 4) ∧ Below R w1 w' ∧ (∀ i, i ≠ gg → i < w1.heap.size → w'.heap[i]? = w1.heap[i]?) ∧ Own w' R (.slice (some ⟨gg, 0, none⟩) ps.length cc) (ps.set nd (ps[nd].1, (ps[nd]).2)) := by
  obtain ⟨g9, cap9, e9, hRg, hgl, hn9, hm9, hc9, hfr9⟩ := hO.at hnd
  simp only [Value.slice.injEq, Option.some.injEq, Addr.mk.injEq, and_true, true_and] at e9
  obtain ⟨rfl, rfl⟩ := e9
  have HO := Lib.hid hO
  have y2 := hc9.c2
  have y3 := hc9.c3
  rw [hu] at y2
  rw [hg] at y3
  have HU := Lib.hid hu
  have HG := Lib.hid hg
  have HSELF : Hid (ps.set nd (ps[nd].1, (ps[nd]).2) = ps) := Lib.hid (set_self hnd rfl)
  have KS : Hid (∀ W, Below w1.heap.size w1 W → (fun w' => w'.cell? ⟨gg, nd * 7 + 2, none⟩ = some (.int .i64 xu) ∧ w'.cell? ⟨gg, nd * 7 + 3, none⟩ = some (.int .i64 xg)) W) := Lib.hid (fun W h => ⟨(h.cell (p := ⟨gg, nd * 7 + 2, none⟩) hgl).trans y2, (h.cell (p := ⟨gg, nd * 7 + 3, none⟩) hgl).trans y3⟩)
  have HFR : Hid (∀ W, Below w1.heap.size w1 W → ∀ j, W.frozen? ⟨gg, j, none⟩ = false) := Lib.hid (fun W h j => by rw [World.frozen?_of_block (a := ⟨gg, j, none⟩) (h.block gg hgl)]; exact hfr9 j)
  have HK0 : Hid (Below w1.heap.size w1 (w1.alloc (.cells #[.int .i64 u, .int .i64 g] 36))) := Lib.hid (bel_al (Below.refl _ _))
  clear hc9 hO hu hg hfr9
  go_enter Tryz.func66, Tryz.ntmps66
  go_wp2
  go_region_held3 (fun w' => w'.cell? ⟨gg, nd * 7 + 2, none⟩ = some (.int .i64 xu) ∧ w'.cell? ⟨gg, nd * 7 + 3, none⟩ = some (.int .i64 xg)) (first | exact KS.out _ (by (first | (with_reducible exact HK0.out) | (with_reducible exact bel_dr HK0.out) | (with_reducible exact bel_al HK0.out) | (with_reducible exact bel_ald HK0.out))) | exact KS.out _ (bel_ald (bel_al (Below.refl _ _))) | exact KS.out _ (bel_al (bel_dr HK0.out)))
    (fail)
  go_wp2
  go_ret
  refine ⟨rfl, (bel_al (bel_ald (bel_al (Below.refl _ w1)))).mono (Nat.le_trans hRg (Nat.le_of_lt hgl)), fun i _ h => (bel_al (bel_ald (bel_al (Below.refl _ w1)))).block i h, ?_⟩
  rw [HSELF.out]
  exact HO.out.below (bel_al (bel_ald (bel_al (Below.refl _ w1))))

set_option maxRecDepth 100000 in
set_option maxHeartbeats 2000000 in
theorem give_no3_11 (u g nu ng xu xg : Int) (R gg cc nd : Nat) (ps : List (Nod × Value)) (w1 : World) (hO : Own w1 R (.slice (some ⟨gg, 0, none⟩) ps.length cc) ps) (hnd : nd < ps.length) (hu : ps[nd].1.uid = xu) (hg : ps[nd].1.gid = xg) (h0 : (nu != -1) = true) (h1 : (ng != -1) = true) (h2 : (u != 0) = true) (h3 : (u != xu) = false) (h4 : (nu == xu) = true) (h5 : (nu == u) = true) (h6 : (ng == xg) = false) (h7 : (ng == g) = false) :
    Calls Tryz.prog 66 #[.pointer (some ⟨gg, nd * 7, none⟩), .agg #[.int .i64 u, .int .i64 g], .int .i64 nu, .int .i64 ng] w1 fun e w' => e = .returned (errC 4) ∧ Below R w1 w' ∧ (∀ i, i ≠ gg → i < w1.heap.size → w'.heap[i]? = w1.heap[i]?) ∧ Own w' R (.slice (some ⟨gg, 0, none⟩) ps.length cc) (ps.set nd (ps[nd].1, (ps[nd]).2)) := by
  obtain ⟨g9, cap9, e9, hRg, hgl, hn9, hm9, hc9, hfr9⟩ := hO.at hnd
  simp only [Value.slice.injEq, Option.some.injEq, Addr.mk.injEq, and_true, true_and] at e9
  obtain ⟨rfl, rfl⟩ := e9
  have HO := Lib.hid hO
  have y2 := hc9.c2
  have y3 := hc9.c3
  rw [hu] at y2
  rw [hg] at y3
  have HU := Lib.hid hu
  have HG := Lib.hid hg
  have HSELF : Hid (ps.set nd (ps[nd].1, (ps[nd]).2) = ps) := Lib.hid (set_self hnd rfl)
  have KS : Hid (∀ W, Below w1.heap.size w1 W → (fun w' => w'.cell? ⟨gg, nd * 7 + 2, none⟩ = some (.int .i64 xu) ∧ w'.cell? ⟨gg, nd * 7 + 3, none⟩ = some (.int .i64 xg)) W) := Lib.hid (fun W h => ⟨(h.cell (p := ⟨gg, nd * 7 + 2, none⟩) hgl).trans y2, (h.cell (p := ⟨gg, nd * 7 + 3, none⟩) hgl).trans y3⟩)
  have HFR : Hid (∀ W, Below w1.heap.size w1 W → ∀ j, W.frozen? ⟨gg, j, none⟩ = false) := Lib.hid (fun W h j => by rw [World.frozen?_of_block (a := ⟨gg, j, none⟩) (h.block gg hgl)]; exact hfr9 j)
  have HK0 : Hid (Below w1.heap.size w1 (w1.alloc (.cells #[.int .i64 u, .int .i64 g] 36))) := Lib.hid (bel_al (Below.refl _ _))
  clear hc9 hO hu hg hfr9
  go_enter Tryz.func66, Tryz.ntmps66
  go_wp2
  go_region_held3 (fun w' => w'.cell? ⟨gg, nd * 7 + 2, none⟩ = some (.int .i64 xu) ∧ w'.cell? ⟨gg, nd * 7 + 3, none⟩ = some (.int .i64 xg)) (first | exact KS.out _ (by (first | (with_reducible exact HK0.out) | (with_reducible exact bel_dr HK0.out) | (with_reducible exact bel_al HK0.out) | (with_reducible exact bel_ald HK0.out))) | exact KS.out _ (bel_ald (bel_al (Below.refl _ _))) | exact KS.out _ (bel_al (bel_dr HK0.out)))
    (fail)
  go_wp2
  go_ret
  refine ⟨rfl, (bel_al (bel_ald (bel_al (Below.refl _ w1)))).mono (Nat.le_trans hRg (Nat.le_of_lt hgl)), fun i _ h => (bel_al (bel_ald (bel_al (Below.refl _ w1)))).block i h, ?_⟩
  rw [HSELF.out]
  exact HO.out.below (bel_al (bel_ald (bel_al (Below.refl _ w1))))

set_option maxRecDepth 100000 in
set_option maxHeartbeats 2000000 in
theorem give_yes1_11 (u g nu ng xu xg : Int) (R gg cc nd : Nat) (ps : List (Nod × Value)) (w1 : World) (hO : Own w1 R (.slice (some ⟨gg, 0, none⟩) ps.length cc) ps) (hnd : nd < ps.length) (hu : ps[nd].1.uid = xu) (hg : ps[nd].1.gid = xg) (h0 : (nu != -1) = true) (h1 : (ng != -1) = true) (h2 : (u != 0) = false) (h3 : newU nu xu = nu) (h4 : newU ng xg = ng) :
    Calls Tryz.prog 66 #[.pointer (some ⟨gg, nd * 7, none⟩), .agg #[.int .i64 u, .int .i64 g], .int .i64 nu, .int .i64 ng] w1 fun e w' => e = .returned (.nilIface) ∧ Below R w1 w' ∧ (∀ i, i ≠ gg → i < w1.heap.size → w'.heap[i]? = w1.heap[i]?) ∧ Own w' R (.slice (some ⟨gg, 0, none⟩) ps.length cc) (ps.set nd (givN nu ng ps[nd].1, (ps[nd]).2)) := by
  obtain ⟨g9, cap9, e9, hRg, hgl, hn9, hm9, hc9, hfr9⟩ := hO.at hnd
  simp only [Value.slice.injEq, Option.some.injEq, Addr.mk.injEq, and_true, true_and] at e9
  obtain ⟨rfl, rfl⟩ := e9
  have HO := Lib.hid hO
  have y2 := hc9.c2
  have y3 := hc9.c3
  rw [hu] at y2
  rw [hg] at y3
  have HU := Lib.hid hu
  have HG := Lib.hid hg
  have HSELF : Hid (ps.set nd (ps[nd].1, (ps[nd]).2) = ps) := Lib.hid (set_self hnd rfl)
  have KS : Hid (∀ W, Below w1.heap.size w1 W → (fun w' => w'.cell? ⟨gg, nd * 7 + 2, none⟩ = some (.int .i64 xu) ∧ w'.cell? ⟨gg, nd * 7 + 3, none⟩ = some (.int .i64 xg)) W) := Lib.hid (fun W h => ⟨(h.cell (p := ⟨gg, nd * 7 + 2, none⟩) hgl).trans y2, (h.cell (p := ⟨gg, nd * 7 + 3, none⟩) hgl).trans y3⟩)
  have HFR : Hid (∀ W, Below w1.heap.size w1 W → ∀ j, W.frozen? ⟨gg, j, none⟩ = false) := Lib.hid (fun W h j => by rw [World.frozen?_of_block (a := ⟨gg, j, none⟩) (h.block gg hgl)]; exact hfr9 j)
  have HK0 : Hid (Below w1.heap.size w1 (w1.alloc (.cells #[.int .i64 u, .int .i64 g] 36))) := Lib.hid (bel_al (Below.refl _ _))
  clear hc9 hO hu hg hfr9
  go_enter Tryz.func66, Tryz.ntmps66
  go_wp2
  go_region_held3 (fun w' => w'.cell? ⟨gg, nd * 7 + 2, none⟩ = some (.int .i64 xu) ∧ w'.cell? ⟨gg, nd * 7 + 3, none⟩ = some (.int .i64 xg)) (first | exact KS.out _ (by (first | (with_reducible exact HK0.out) | (with_reducible exact bel_dr HK0.out) | (with_reducible exact bel_al HK0.out) | (with_reducible exact bel_ald HK0.out))) | exact KS.out _ (bel_ald (bel_al (Below.refl _ _))) | exact KS.out _ (bel_al (bel_dr HK0.out)))
    (fail)
  go_wp2
  have HBW : Hid (Below w1.heap.size w1 ((((w1.alloc (.cells #[.int .i64 u, .int .i64 g] 36)).alloc (.cells #[.int .i64 xu, .int .i64 xg] 36)).alloc (.cells #[.int .i64 nu, .int .i64 ng] 36)).drew)) := Lib.hid (bel_ald (bel_al (bel_al (Below.refl _ w1))))
  have hTS : ((w1.alloc (.cells #[.int .i64 u, .int .i64 g] 36)).alloc (.cells #[.int .i64 xu, .int .i64 xg] 36)).heap.size = w1.heap.size + 1 + 1 := by simp
  have HT : Hid (((((w1.alloc (.cells #[.int .i64 u, .int .i64 g] 36)).alloc (.cells #[.int .i64 xu, .int .i64 xg] 36)).alloc (.cells #[.int .i64 nu, .int .i64 ng] 36)).drew).heap[w1.heap.size + 1 + 1]? = some (.cells #[.int .i64 nu, .int .i64 ng] 36)) := Lib.hid (by rw [← hTS]; exact heap_alloc_new ((w1.alloc (.cells #[.int .i64 u, .int .i64 g] 36)).alloc (.cells #[.int .i64 xu, .int .i64 xg] 36)) (.cells #[.int .i64 nu, .int .i64 ng] 36))
  obtain ⟨W, hW⟩ : ∃ W, ((((w1.alloc (.cells #[.int .i64 u, .int .i64 g] 36)).alloc (.cells #[.int .i64 xu, .int .i64 xg] 36)).alloc (.cells #[.int .i64 nu, .int .i64 ng] 36)).drew) = W := ⟨_, rfl⟩
  rw [hW] at HBW HT
  rw [hW]
  have hq : givN nu ng ps[nd].1 = { ps[nd].1 with uid := nu, gid := ng } := by unfold givN; rw [HU.out, HG.out, h3, h4]
  have HOW1 : Hid (Own ((W.setCell ⟨gg, nd * 7 + 2, none⟩ (.int .i64 nu)).setCell ⟨gg, nd * 7 + 3, none⟩ (.int .i64 ng)) R (.slice (some ⟨gg, 0, none⟩) ps.length cc) (ps.set nd (givN nu ng ps[nd].1, (ps[nd]).2))) := Lib.hid (by
    rw [hq]
    exact ((HO.out.below HBW.out).turn hnd (show 2 < 7 by decide) (.int .i64 nu) { ps[nd].1 with uid := nu } rfl rfl).again hnd (show 3 < 7 by decide) (.int .i64 ng) _ rfl rfl)
  have HOW2 : Hid (Own ((W.setCell ⟨gg, nd * 7 + 3, none⟩ (.int .i64 ng)).setCell ⟨gg, nd * 7 + 2, none⟩ (.int .i64 nu)) R (.slice (some ⟨gg, 0, none⟩) ps.length cc) (ps.set nd (givN nu ng ps[nd].1, (ps[nd]).2))) := Lib.hid (by
    rw [hq]
    exact ((HO.out.below HBW.out).turn hnd (show 3 < 7 by decide) (.int .i64 ng) { ps[nd].1 with gid := ng } rfl rfl).again hnd (show 2 < 7 by decide) (.int .i64 nu) _ rfl rfl)
  have c0 : W.cell? ⟨w1.heap.size + 1 + 1, 0, none⟩ = some (.int .i64 nu) := cell_blk HT.out 0
  have c1 : W.cell? ⟨w1.heap.size + 1 + 1, 1, none⟩ = some (.int .i64 ng) := cell_blk HT.out 1
  have c2 : W.cell? ⟨gg, nd * 7 + 2, none⟩ = some (.int .i64 xu) := (KS.out _ HBW.out).1
  have c3 : W.cell? ⟨gg, nd * 7 + 3, none⟩ = some (.int .i64 xg) := (KS.out _ HBW.out).2
  have cf := HFR.out _ HBW.out
  have HBR : Hid (Below R w1 W) := Lib.hid (HBW.out.mono (Nat.le_trans hRg (Nat.le_of_lt hgl)))
  have HNE : Hid (∀ (a b : Nat) (x y : Value) (i : Nat), i ≠ gg → i < w1.heap.size → ((W.setCell ⟨gg, a, none⟩ x).setCell ⟨gg, b, none⟩ y).heap[i]? = w1.heap[i]?) := Lib.hid (fun a b x y i h1 h2 => (Below.heap_setCell _ ⟨gg, b, none⟩ y i (by simp only; omega)).trans ((Below.heap_setCell W ⟨gg, a, none⟩ x i (by simp only; omega)).trans (HBW.out.block i h2)))
  have HBB : Hid (∀ (a b : Nat) (x y : Value), Below R w1 ((W.setCell ⟨gg, a, none⟩ x).setCell ⟨gg, b, none⟩ y)) := Lib.hid (fun a b x y => (HBR.out.setCell (p := ⟨gg, a, none⟩) hRg x).setCell (p := ⟨gg, b, none⟩) hRg y)
  have h9 : w1.heap.size + 1 + 1 ≠ gg := by omega
  have h99 : gg ≠ w1.heap.size + 1 + 1 := by omega
  clear hW hTS hq y2 y3
  go_region_with (fail)
  all_goals
    go_wp2
    go_ret
    first
      | exact ⟨rfl, HBB.out _ _ _ _, HNE.out _ _ _ _, HOW1.out⟩
      | exact ⟨rfl, HBB.out _ _ _ _, HNE.out _ _ _ _, HOW2.out⟩
      | exact ⟨rfl, (HBB.out _ _ _ _).drew, HNE.out _ _ _ _, HOW1.out.up (fun _ _ _ => rfl)⟩
      | exact ⟨rfl, (HBB.out _ _ _ _).drew, HNE.out _ _ _ _, HOW2.out.up (fun _ _ _ => rfl)⟩

set_option maxRecDepth 100000 in
set_option maxHeartbeats 2000000 in
theorem give_yes2_11 (u g nu ng xu xg : Int) (R gg cc nd : Nat) (ps : List (Nod × Value)) (w1 : World) (hO : Own w1 R (.slice (some ⟨gg, 0, none⟩) ps.length cc) ps) (hnd : nd < ps.length) (hu : ps[nd].1.uid = xu) (hg : ps[nd].1.gid = xg) (h0 : (nu != -1) = true) (h1 : (ng != -1) = true) (h2 : (u != 0) = true) (h3 : (u != xu) = false) (h4 : (nu == xu) = true) (h5 : (ng == xg) = true) (h6 : newU nu xu = nu) (h7 : newU ng xg = ng) :
    Calls Tryz.prog 66 #[.pointer (some ⟨gg, nd * 7, none⟩), .agg #[.int .i64 u, .int .i64 g], .int .i64 nu, .int .i64 ng] w1 fun e w' => e = .returned (.nilIface) ∧ Below R w1 w' ∧ (∀ i, i ≠ gg → i < w1.heap.size → w'.heap[i]? = w1.heap[i]?) ∧ Own w' R (.slice (some ⟨gg, 0, none⟩) ps.length cc) (ps.set nd (givN nu ng ps[nd].1, (ps[nd]).2)) := by
  obtain ⟨g9, cap9, e9, hRg, hgl, hn9, hm9, hc9, hfr9⟩ := hO.at hnd
  simp only [Value.slice.injEq, Option.some.injEq, Addr.mk.injEq, and_true, true_and] at e9
  obtain ⟨rfl, rfl⟩ := e9
  have HO := Lib.hid hO
  have y2 := hc9.c2
  have y3 := hc9.c3
  rw [hu] at y2
  rw [hg] at y3
  have HU := Lib.hid hu
  have HG := Lib.hid hg
  have HSELF : Hid (ps.set nd (ps[nd].1, (ps[nd]).2) = ps) := Lib.hid (set_self hnd rfl)
  have KS : Hid (∀ W, Below w1.heap.size w1 W → (fun w' => w'.cell? ⟨gg, nd * 7 + 2, none⟩ = some (.int .i64 xu) ∧ w'.cell? ⟨gg, nd * 7 + 3, none⟩ = some (.int .i64 xg)) W) := Lib.hid (fun W h => ⟨(h.cell (p := ⟨gg, nd * 7 + 2, none⟩) hgl).trans y2, (h.cell (p := ⟨gg, nd * 7 + 3, none⟩) hgl).trans y3⟩)
  have HFR : Hid (∀ W, Below w1.heap.size w1 W → ∀ j, W.frozen? ⟨gg, j, none⟩ = false) := Lib.hid (fun W h j => by rw [World.frozen?_of_block (a := ⟨gg, j, none⟩) (h.block gg hgl)]; exact hfr9 j)
  have HK0 : Hid (Below w1.heap.size w1 (w1.alloc (.cells #[.int .i64 u, .int .i64 g] 36))) := Lib.hid (bel_al (Below.refl _ _))
  clear hc9 hO hu hg hfr9
  go_enter Tryz.func66, Tryz.ntmps66
  go_wp2
  go_region_held3 (fun w' => w'.cell? ⟨gg, nd * 7 + 2, none⟩ = some (.int .i64 xu) ∧ w'.cell? ⟨gg, nd * 7 + 3, none⟩ = some (.int .i64 xg)) (first | exact KS.out _ (by (first | (with_reducible exact HK0.out) | (with_reducible exact bel_dr HK0.out) | (with_reducible exact bel_al HK0.out) | (with_reducible exact bel_ald HK0.out))) | exact KS.out _ (bel_ald (bel_al (Below.refl _ _))) | exact KS.out _ (bel_al (bel_dr HK0.out)))
    (fail)
  go_wp2
  have HBW : Hid (Below w1.heap.size w1 ((((w1.alloc (.cells #[.int .i64 u, .int .i64 g] 36)).alloc (.cells #[.int .i64 xu, .int .i64 xg] 36)).alloc (.cells #[.int .i64 nu, .int .i64 ng] 36)).drew)) := Lib.hid (bel_ald (bel_al (bel_al (Below.refl _ w1))))
  have hTS : ((w1.alloc (.cells #[.int .i64 u, .int .i64 g] 36)).alloc (.cells #[.int .i64 xu, .int .i64 xg] 36)).heap.size = w1.heap.size + 1 + 1 := by simp
  have HT : Hid (((((w1.alloc (.cells #[.int .i64 u, .int .i64 g] 36)).alloc (.cells #[.int .i64 xu, .int .i64 xg] 36)).alloc (.cells #[.int .i64 nu, .int .i64 ng] 36)).drew).heap[w1.heap.size + 1 + 1]? = some (.cells #[.int .i64 nu, .int .i64 ng] 36)) := Lib.hid (by rw [← hTS]; exact heap_alloc_new ((w1.alloc (.cells #[.int .i64 u, .int .i64 g] 36)).alloc (.cells #[.int .i64 xu, .int .i64 xg] 36)) (.cells #[.int .i64 nu, .int .i64 ng] 36))
  obtain ⟨W, hW⟩ : ∃ W, ((((w1.alloc (.cells #[.int .i64 u, .int .i64 g] 36)).alloc (.cells #[.int .i64 xu, .int .i64 xg] 36)).alloc (.cells #[.int .i64 nu, .int .i64 ng] 36)).drew) = W := ⟨_, rfl⟩
  rw [hW] at HBW HT
  rw [hW]
  have hq : givN nu ng ps[nd].1 = { ps[nd].1 with uid := nu, gid := ng } := by unfold givN; rw [HU.out, HG.out, h6, h7]
  have HOW1 : Hid (Own ((W.setCell ⟨gg, nd * 7 + 2, none⟩ (.int .i64 nu)).setCell ⟨gg, nd * 7 + 3, none⟩ (.int .i64 ng)) R (.slice (some ⟨gg, 0, none⟩) ps.length cc) (ps.set nd (givN nu ng ps[nd].1, (ps[nd]).2))) := Lib.hid (by
    rw [hq]
    exact ((HO.out.below HBW.out).turn hnd (show 2 < 7 by decide) (.int .i64 nu) { ps[nd].1 with uid := nu } rfl rfl).again hnd (show 3 < 7 by decide) (.int .i64 ng) _ rfl rfl)
  have HOW2 : Hid (Own ((W.setCell ⟨gg, nd * 7 + 3, none⟩ (.int .i64 ng)).setCell ⟨gg, nd * 7 + 2, none⟩ (.int .i64 nu)) R (.slice (some ⟨gg, 0, none⟩) ps.length cc) (ps.set nd (givN nu ng ps[nd].1, (ps[nd]).2))) := Lib.hid (by
    rw [hq]
    exact ((HO.out.below HBW.out).turn hnd (show 3 < 7 by decide) (.int .i64 ng) { ps[nd].1 with gid := ng } rfl rfl).again hnd (show 2 < 7 by decide) (.int .i64 nu) _ rfl rfl)
  have c0 : W.cell? ⟨w1.heap.size + 1 + 1, 0, none⟩ = some (.int .i64 nu) := cell_blk HT.out 0
  have c1 : W.cell? ⟨w1.heap.size + 1 + 1, 1, none⟩ = some (.int .i64 ng) := cell_blk HT.out 1
  have c2 : W.cell? ⟨gg, nd * 7 + 2, none⟩ = some (.int .i64 xu) := (KS.out _ HBW.out).1
  have c3 : W.cell? ⟨gg, nd * 7 + 3, none⟩ = some (.int .i64 xg) := (KS.out _ HBW.out).2
  have cf := HFR.out _ HBW.out
  have HBR : Hid (Below R w1 W) := Lib.hid (HBW.out.mono (Nat.le_trans hRg (Nat.le_of_lt hgl)))
  have HNE : Hid (∀ (a b : Nat) (x y : Value) (i : Nat), i ≠ gg → i < w1.heap.size → ((W.setCell ⟨gg, a, none⟩ x).setCell ⟨gg, b, none⟩ y).heap[i]? = w1.heap[i]?) := Lib.hid (fun a b x y i h1 h2 => (Below.heap_setCell _ ⟨gg, b, none⟩ y i (by simp only; omega)).trans ((Below.heap_setCell W ⟨gg, a, none⟩ x i (by simp only; omega)).trans (HBW.out.block i h2)))
  have HBB : Hid (∀ (a b : Nat) (x y : Value), Below R w1 ((W.setCell ⟨gg, a, none⟩ x).setCell ⟨gg, b, none⟩ y)) := Lib.hid (fun a b x y => (HBR.out.setCell (p := ⟨gg, a, none⟩) hRg x).setCell (p := ⟨gg, b, none⟩) hRg y)
  have h9 : w1.heap.size + 1 + 1 ≠ gg := by omega
  have h99 : gg ≠ w1.heap.size + 1 + 1 := by omega
  clear hW hTS hq y2 y3
  go_region_with (fail)
  all_goals
    go_wp2
    go_ret
    first
      | exact ⟨rfl, HBB.out _ _ _ _, HNE.out _ _ _ _, HOW1.out⟩
      | exact ⟨rfl, HBB.out _ _ _ _, HNE.out _ _ _ _, HOW2.out⟩
      | exact ⟨rfl, (HBB.out _ _ _ _).drew, HNE.out _ _ _ _, HOW1.out.up (fun _ _ _ => rfl)⟩
      | exact ⟨rfl, (HBB.out _ _ _ _).drew, HNE.out _ _ _ _, HOW2.out.up (fun _ _ _ => rfl)⟩

set_option maxRecDepth 100000 in
set_option maxHeartbeats 2000000 in
theorem give_yes3_11 (u g nu ng xu xg : Int) (R gg cc nd : Nat) (ps : List (Nod × Value)) (w1 : World) (hO : Own w1 R (.slice (some ⟨gg, 0, none⟩) ps.length cc) ps) (hnd : nd < ps.length) (hu : ps[nd].1.uid = xu) (hg : ps[nd].1.gid = xg) (h0 : (nu != -1) = true) (h1 : (ng != -1) = true) (h2 : (u != 0) = true) (h3 : (u != xu) = false) (h4 : (nu == xu) = true) (h5 : (ng == xg) = false) (h6 : (nu == u) = true) (h7 : (ng == g) = true) (h8 : newU nu xu = nu) (h9 : newU ng xg = ng) :
    Calls Tryz.prog 66 #[.pointer (some ⟨gg, nd * 7, none⟩), .agg #[.int .i64 u, .int .i64 g], .int .i64 nu, .int .i64 ng] w1 fun e w' => e = .returned (.nilIface) ∧ Below R w1 w' ∧ (∀ i, i ≠ gg → i < w1.heap.size → w'.heap[i]? = w1.heap[i]?) ∧ Own w' R (.slice (some ⟨gg, 0, none⟩) ps.length cc) (ps.set nd (givN nu ng ps[nd].1, (ps[nd]).2)) := by
  obtain ⟨g9, cap9, e9, hRg, hgl, hn9, hm9, hc9, hfr9⟩ := hO.at hnd
  simp only [Value.slice.injEq, Option.some.injEq, Addr.mk.injEq, and_true, true_and] at e9
  obtain ⟨rfl, rfl⟩ := e9
  have HO := Lib.hid hO
  have y2 := hc9.c2
  have y3 := hc9.c3
  rw [hu] at y2
  rw [hg] at y3
  have HU := Lib.hid hu
  have HG := Lib.hid hg
  have HSELF : Hid (ps.set nd (ps[nd].1, (ps[nd]).2) = ps) := Lib.hid (set_self hnd rfl)
  have KS : Hid (∀ W, Below w1.heap.size w1 W → (fun w' => w'.cell? ⟨gg, nd * 7 + 2, none⟩ = some (.int .i64 xu) ∧ w'.cell? ⟨gg, nd * 7 + 3, none⟩ = some (.int .i64 xg)) W) := Lib.hid (fun W h => ⟨(h.cell (p := ⟨gg, nd * 7 + 2, none⟩) hgl).trans y2, (h.cell (p := ⟨gg, nd * 7 + 3, none⟩) hgl).trans y3⟩)
  have HFR : Hid (∀ W, Below w1.heap.size w1 W → ∀ j, W.frozen? ⟨gg, j, none⟩ = false) := Lib.hid (fun W h j => by rw [World.frozen?_of_block (a := ⟨gg, j, none⟩) (h.block gg hgl)]; exact hfr9 j)
  have HK0 : Hid (Below w1.heap.size w1 (w1.alloc (.cells #[.int .i64 u, .int .i64 g] 36))) := Lib.hid (bel_al (Below.refl _ _))
  clear hc9 hO hu hg hfr9
  go_enter Tryz.func66, Tryz.ntmps66
  go_wp2
  go_region_held3 (fun w' => w'.cell? ⟨gg, nd * 7 + 2, none⟩ = some (.int .i64 xu) ∧ w'.cell? ⟨gg, nd * 7 + 3, none⟩ = some (.int .i64 xg)) (first | exact KS.out _ (by (first | (with_reducible exact HK0.out) | (with_reducible exact bel_dr HK0.out) | (with_reducible exact bel_al HK0.out) | (with_reducible exact bel_ald HK0.out))) | exact KS.out _ (bel_ald (bel_al (Below.refl _ _))) | exact KS.out _ (bel_al (bel_dr HK0.out)))
    (fail)
  go_wp2
  have HBW : Hid (Below w1.heap.size w1 ((((w1.alloc (.cells #[.int .i64 u, .int .i64 g] 36)).alloc (.cells #[.int .i64 xu, .int .i64 xg] 36)).alloc (.cells #[.int .i64 nu, .int .i64 ng] 36)).drew)) := Lib.hid (bel_ald (bel_al (bel_al (Below.refl _ w1))))
  have hTS : ((w1.alloc (.cells #[.int .i64 u, .int .i64 g] 36)).alloc (.cells #[.int .i64 xu, .int .i64 xg] 36)).heap.size = w1.heap.size + 1 + 1 := by simp
  have HT : Hid (((((w1.alloc (.cells #[.int .i64 u, .int .i64 g] 36)).alloc (.cells #[.int .i64 xu, .int .i64 xg] 36)).alloc (.cells #[.int .i64 nu, .int .i64 ng] 36)).drew).heap[w1.heap.size + 1 + 1]? = some (.cells #[.int .i64 nu, .int .i64 ng] 36)) := Lib.hid (by rw [← hTS]; exact heap_alloc_new ((w1.alloc (.cells #[.int .i64 u, .int .i64 g] 36)).alloc (.cells #[.int .i64 xu, .int .i64 xg] 36)) (.cells #[.int .i64 nu, .int .i64 ng] 36))
  obtain ⟨W, hW⟩ : ∃ W, ((((w1.alloc (.cells #[.int .i64 u, .int .i64 g] 36)).alloc (.cells #[.int .i64 xu, .int .i64 xg] 36)).alloc (.cells #[.int .i64 nu, .int .i64 ng] 36)).drew) = W := ⟨_, rfl⟩
  rw [hW] at HBW HT
  rw [hW]
  have hq : givN nu ng ps[nd].1 = { ps[nd].1 with uid := nu, gid := ng } := by unfold givN; rw [HU.out, HG.out, h8, h9]
  have HOW1 : Hid (Own ((W.setCell ⟨gg, nd * 7 + 2, none⟩ (.int .i64 nu)).setCell ⟨gg, nd * 7 + 3, none⟩ (.int .i64 ng)) R (.slice (some ⟨gg, 0, none⟩) ps.length cc) (ps.set nd (givN nu ng ps[nd].1, (ps[nd]).2))) := Lib.hid (by
    rw [hq]
    exact ((HO.out.below HBW.out).turn hnd (show 2 < 7 by decide) (.int .i64 nu) { ps[nd].1 with uid := nu } rfl rfl).again hnd (show 3 < 7 by decide) (.int .i64 ng) _ rfl rfl)
  have HOW2 : Hid (Own ((W.setCell ⟨gg, nd * 7 + 3, none⟩ (.int .i64 ng)).setCell ⟨gg, nd * 7 + 2, none⟩ (.int .i64 nu)) R (.slice (some ⟨gg, 0, none⟩) ps.length cc) (ps.set nd (givN nu ng ps[nd].1, (ps[nd]).2))) := Lib.hid (by
    rw [hq]
    exact ((HO.out.below HBW.out).turn hnd (show 3 < 7 by decide) (.int .i64 ng) { ps[nd].1 with gid := ng } rfl rfl).again hnd (show 2 < 7 by decide) (.int .i64 nu) _ rfl rfl)
  have c0 : W.cell? ⟨w1.heap.size + 1 + 1, 0, none⟩ = some (.int .i64 nu) := cell_blk HT.out 0
  have c1 : W.cell? ⟨w1.heap.size + 1 + 1, 1, none⟩ = some (.int .i64 ng) := cell_blk HT.out 1
  have c2 : W.cell? ⟨gg, nd * 7 + 2, none⟩ = some (.int .i64 xu) := (KS.out _ HBW.out).1
  have c3 : W.cell? ⟨gg, nd * 7 + 3, none⟩ = some (.int .i64 xg) := (KS.out _ HBW.out).2
  have cf := HFR.out _ HBW.out
  have HBR : Hid (Below R w1 W) := Lib.hid (HBW.out.mono (Nat.le_trans hRg (Nat.le_of_lt hgl)))
  have HNE : Hid (∀ (a b : Nat) (x y : Value) (i : Nat), i ≠ gg → i < w1.heap.size → ((W.setCell ⟨gg, a, none⟩ x).setCell ⟨gg, b, none⟩ y).heap[i]? = w1.heap[i]?) := Lib.hid (fun a b x y i h1 h2 => (Below.heap_setCell _ ⟨gg, b, none⟩ y i (by simp only; omega)).trans ((Below.heap_setCell W ⟨gg, a, none⟩ x i (by simp only; omega)).trans (HBW.out.block i h2)))
  have HBB : Hid (∀ (a b : Nat) (x y : Value), Below R w1 ((W.setCell ⟨gg, a, none⟩ x).setCell ⟨gg, b, none⟩ y)) := Lib.hid (fun a b x y => (HBR.out.setCell (p := ⟨gg, a, none⟩) hRg x).setCell (p := ⟨gg, b, none⟩) hRg y)
  have h9 : w1.heap.size + 1 + 1 ≠ gg := by omega
  have h99 : gg ≠ w1.heap.size + 1 + 1 := by omega
  clear hW hTS hq y2 y3
  go_region_with (fail)
  all_goals
    go_wp2
    go_ret
    first
      | exact ⟨rfl, HBB.out _ _ _ _, HNE.out _ _ _ _, HOW1.out⟩
      | exact ⟨rfl, HBB.out _ _ _ _, HNE.out _ _ _ _, HOW2.out⟩
      | exact ⟨rfl, (HBB.out _ _ _ _).drew, HNE.out _ _ _ _, HOW1.out.up (fun _ _ _ => rfl)⟩
      | exact ⟨rfl, (HBB.out _ _ _ _).drew, HNE.out _ _ _ _, HOW2.out.up (fun _ _ _ => rfl)⟩
end Go.Proofs.YtpkmkpeabfmbiaaGreatDoor
