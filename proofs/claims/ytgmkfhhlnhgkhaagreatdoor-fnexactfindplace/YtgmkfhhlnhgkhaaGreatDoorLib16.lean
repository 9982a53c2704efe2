/-
  Joined: LookQ PlaceM PlaceC.
  Conditions: as each states.
-/
import Derived.Test.YtgmkfhhlnhgkhaaGreatDoorLib1
import Derived.Test.YtgmkfhhlnhgkhaaGreatDoorLib15

/-
  The program's linkAt, ReadLink, dirAt, RealPath.
  Conditions: at most 2^20 values and letters together; a text of at most 2^20 bytes; the variable errors.errorType as the program's text lays it.
-/
namespace Go.Proofs.YtgmkfhhlnhgkhaaGreatDoor
open Go.ChangeShapes Go.WideShapes Go.ChangeAt Go.RowKit Go.Joins
set_option linter.unusedVariables false
set_option linter.unusedSimpArgs false

theorem errV_ok (p : ByteArray) : errV p 0 = .nilIface := rfl
theorem lkFind_zero {ns : List Nod} {u g : Int} {l : List UInt8} {fol : Bool} (h : (lkFind ns u g l fol).1 ≠ 0) : (lkFind ns u g l fol).2 = 0 := by
  unfold lkFind at h ⊢
  by_cases h1 : goodB l = true ∧ wholeB l = true
  · rw [if_pos h1] at h ⊢
    by_cases h2 : (lkGo ns u g (fol || slashB l) ⟨0, parts l, 0⟩).1 ≠ 0
    · rw [if_pos h2]
    · rw [if_neg h2] at h ⊢
      by_cases h3 : slashB l = true ∧ (nodeAt ns (lkGo ns u g (fol || slashB l) ⟨0, parts l, 0⟩).2).kind ≠ 2
      · rw [if_pos h3]
      · rw [if_neg h3] at h; exact absurd rfl h
  · rw [if_neg h1]
/-- What dirAt finds: a code and a node. -/
def dirW (ns : List Nod) (u g : Int) (l : List UInt8) (want : Int) : Int × Nat :=
  if (lkFind ns u g l true).1 ≠ 0 then ((lkFind ns u g l true).1, 0)
  else if dirC (nodeAt ns (lkFind ns u g l true).2) u g want ≠ 0 then (dirC (nodeAt ns (lkFind ns u g l true).2) u g want, 0)
  else (0, (lkFind ns u g l true).2)
theorem dirW_none (ns : List Nod) (u g : Int) (l : List UInt8) : dirW ns u g l 0 = dirF ns u g l := by
  unfold dirW dirF
  by_cases h1 : (lkFind ns u g l true).1 = 0
  · rw [if_neg (by simp [h1]), dirC_none]
    by_cases h2 : (nodeAt ns (lkFind ns u g l true).2).kind = 2
    · rw [if_neg (by simp [h2]), if_neg (by simp [h2])]
      rw [← h1]
    · rw [if_pos h2, if_pos (show (3 : Int) ≠ 0 by decide), if_pos (show (lkFind ns u g l true).1 = 0 ∧ (nodeAt ns (lkFind ns u g l true).2).kind ≠ 2 from ⟨h1, h2⟩)]
  · rw [if_pos h1, if_neg (fun h => h1 h.1)]
    have h2 := lkFind_zero h1
    exact Prod.ext rfl h2.symm

set_option maxHeartbeats 4000000 in
theorem linkAt_any (f : FsD) (v : Value) (u g : Int) (s : ByteArray) (w : World) (hR : FsA w v f) (hs : szF f ≤ 1048576) (hk : askB4 f u g = true) (hss : s.size ≤ 1048576) :
    Calls Tryz.prog 101 #[v, .agg #[.int .i64 u, .int .i64 g], .string s] w fun e w' => e = .returned (.tuple #[.string (bs (rlF f.nodes u g s.data.toList).1), errV s (rlF f.nodes u g s.data.toList).2]) ∧ Below w.heap.size w w' := by
  have HR := Lib.hid hR
  obtain ⟨nv, rfl, hN⟩ := hR
  have HN := Lib.hid hN
  obtain ⟨o, c, rfl, hm, hH⟩ := hN
  have HH := Lib.hid hH
  unfold maxLen at hm
  have HS := Lib.hid hs
  have hl : f.nodes.length ≤ 1048576 := (lists_small hs).1
  have HB0 : Hid (Below w.heap.size w ((w.alloc (.cells #[.slice o f.nodes.length c, .int .i64 f.room] 26)).alloc (.cells #[.int .i64 u, .int .i64 g] 37))) := Lib.hid (((Below.refl _ _).alloc (Nat.le_refl _) _).alloc (by simp) _)
  have KA0 := Lib.hid (alloc3_fst' w (.cells #[.slice o f.nodes.length c, .int .i64 f.room] 26) (.cells #[.int .i64 u, .int .i64 g] 37))
  have KB0 := Lib.hid (alloc3_snd' w (.cells #[.slice o f.nodes.length c, .int .i64 f.room] 26) (.cells #[.int .i64 u, .int .i64 g] 37))
  clear hH
  have HK := Lib.hid hk
  have HL := Lib.hid (look_of (ask_good hk) HS.out)
  obtain ⟨⟨cd, nd⟩, hfd⟩ : ∃ q, lkFind f.nodes u g s.data.toList false = q := ⟨_, rfl⟩
  have hlt : nd < f.nodes.length := by have h7 := lkFind_lt HL.out.1 u g s.data.toList false; rw [hfd] at h7; exact h7
  have HFD := Lib.hid hfd
  clear hs hk
  by_cases hc : cd = 0
  · subst hc
    by_cases hk3 : (nodeAt f.nodes nd).kind = 3
    · have HV : Hid (rlF f.nodes u g s.data.toList = ((nodeAt f.nodes nd).data, 0)) := Lib.hid (by unfold rlF; rw [hfd]; simp [hk3])
      clear hfd
      go_enter Tryz.func101, Tryz.ntmps101
      go_wp2_with fail
      refine (nodeAt_is HFD.out (HR.out.below HB0.out) HS.out HK.out hss).mono ?_
      rintro e w1 ⟨rfl, hb1⟩
      have HB1 := Lib.hid (HB0.out.trans (hb1.mono HB0.out.size))
      have KA1 := Lib.hid ((hb1.block w.heap.size (lt_of_heap KA0.out)).trans KA0.out)
      have KB1 := Lib.hid ((hb1.block (w.heap.size + 1) (lt_of_heap KB0.out)).trans KB0.out)
      have x1a : w1.cell? ⟨w.heap.size, 0, none⟩ = some (.slice o f.nodes.length c) := cell_blk KA1.out 0
      have x1b : w1.cell? ⟨w.heap.size, 1, none⟩ = some (.int .i64 f.room) := cell_blk KA1.out 1
      have y1a : w1.cell? ⟨w.heap.size + 1, 0, none⟩ = some (.int .i64 u) := cell_blk KB1.out 0
      have y1b : w1.cell? ⟨w.heap.size + 1, 1, none⟩ = some (.int .i64 g) := cell_blk KB1.out 1
      clear hb1
      rw [errV_ok]
      obtain ⟨g3, f3, lv3, e3, hcc, hee⟩ := nod_cells (c := c) HH.out hlt HB1.out
      obtain ⟨d0, d1, d2, d3, d4, d5, d6⟩ := hcc
      subst e3
      rw [hk3] at d0
      clear hee
      go_wp2
      go_ret2
      exact ⟨by rw [HV.out]; rfl, HB1.out⟩
    · have HV : Hid (rlF f.nodes u g s.data.toList = ([], 2)) := Lib.hid (by unfold rlF; rw [hfd]; simp [hk3])
      have kb : ((nodeAt f.nodes nd).kind == 3) = false := beq_eq_false_iff_ne.2 hk3
      have kc : ((nodeAt f.nodes nd).kind != 3) = true := by rw [bne_iff_ne]; exact hk3
      clear hfd
      go_enter Tryz.func101, Tryz.ntmps101
      go_wp2_with fail
      refine (nodeAt_is HFD.out (HR.out.below HB0.out) HS.out HK.out hss).mono ?_
      rintro e w1 ⟨rfl, hb1⟩
      have HB1 := Lib.hid (HB0.out.trans (hb1.mono HB0.out.size))
      have KA1 := Lib.hid ((hb1.block w.heap.size (lt_of_heap KA0.out)).trans KA0.out)
      have KB1 := Lib.hid ((hb1.block (w.heap.size + 1) (lt_of_heap KB0.out)).trans KB0.out)
      have x1a : w1.cell? ⟨w.heap.size, 0, none⟩ = some (.slice o f.nodes.length c) := cell_blk KA1.out 0
      have x1b : w1.cell? ⟨w.heap.size, 1, none⟩ = some (.int .i64 f.room) := cell_blk KA1.out 1
      have y1a : w1.cell? ⟨w.heap.size + 1, 0, none⟩ = some (.int .i64 u) := cell_blk KB1.out 0
      have y1b : w1.cell? ⟨w.heap.size + 1, 1, none⟩ = some (.int .i64 g) := cell_blk KB1.out 1
      clear hb1
      rw [errV_ok]
      obtain ⟨g3, f3, lv3, e3, hcc, hee⟩ := nod_cells (c := c) HH.out hlt HB1.out
      obtain ⟨d0, d1, d2, d3, d4, d5, d6⟩ := hcc
      subst e3
      clear hee
      go_wp2
      go_ret2
      exact ⟨by rw [HV.out]; rfl, HB1.out⟩
  · have HV : Hid (rlF f.nodes u g s.data.toList = ([], cd)) := Lib.hid (by unfold rlF; rw [hfd]; simp [hc])
    have HE := Lib.hid (errV_not s hc)
    clear hfd hc
    go_enter Tryz.func101, Tryz.ntmps101
    go_wp2_with fail
    refine (nodeAt_is HFD.out (HR.out.below HB0.out) HS.out HK.out hss).mono ?_
    rintro e w1 ⟨rfl, hb1⟩
    have HB1 := Lib.hid (HB0.out.trans (hb1.mono HB0.out.size))
    have KA1 := Lib.hid ((hb1.block w.heap.size (lt_of_heap KA0.out)).trans KA0.out)
    have KB1 := Lib.hid ((hb1.block (w.heap.size + 1) (lt_of_heap KB0.out)).trans KB0.out)
    have x1a : w1.cell? ⟨w.heap.size, 0, none⟩ = some (.slice o f.nodes.length c) := cell_blk KA1.out 0
    have x1b : w1.cell? ⟨w.heap.size, 1, none⟩ = some (.int .i64 f.room) := cell_blk KA1.out 1
    have y1a : w1.cell? ⟨w.heap.size + 1, 0, none⟩ = some (.int .i64 u) := cell_blk KB1.out 0
    have y1b : w1.cell? ⟨w.heap.size + 1, 1, none⟩ = some (.int .i64 g) := cell_blk KB1.out 1
    clear hb1
    rw [HE.out]
    go_wp2
    go_ret2
    exact ⟨by rw [HV.out]; show _ = Ending.returned (.tuple #[.string (bs []), errV s cd]); rw [HE.out]; rfl, HB1.out⟩
theorem linkAt_is {f : FsD} {v : Value} {u g : Int} {s : ByteArray} {w : World} {t : List UInt8} {cd : Int} (h : rlF f.nodes u g s.data.toList = (t, cd)) (hR : FsA w v f) (hs : szF f ≤ 1048576) (hk : askB4 f u g = true) (hss : s.size ≤ 1048576) :
    Calls Tryz.prog 101 #[v, .agg #[.int .i64 u, .int .i64 g], .string s] w fun e w' => e = .returned (.tuple #[.string (bs t), errV s cd]) ∧ Below w.heap.size w w' := by
  have := linkAt_any f v u g s w hR hs hk hss
  rw [h] at this
  exact this

set_option maxHeartbeats 4000000 in
theorem readLink_any (f : FsD) (v : Value) (u g : Int) (s : ByteArray) (w : World) (hR : FsA w v f) (hs : szF f ≤ 1048576) (hss : s.size ≤ 1048576) (hE : ErrT w) : Calls Tryz.prog 47 #[v, .agg #[.int .i64 u, .int .i64 g], .string s] w fun e w' => e = .returned (.tuple #[.string (bs (rlT f u g s.data.toList)), .int .i64 (rlC f u g s.data.toList), .bool (askB4 f u g)]) ∧ Below w.heap.size w w' := by
  have HR := Lib.hid hR
  obtain ⟨nv, rfl, hN⟩ := hR
  have HN := Lib.hid hN
  obtain ⟨o, c, rfl, hm, hH⟩ := hN
  unfold maxLen at hm
  have HS := Lib.hid hs
  have hl : f.nodes.length ≤ 1048576 := (lists_small hs).1
  have HB0 : Hid (Below w.heap.size w ((w.alloc (.cells #[.slice o f.nodes.length c, .int .i64 f.room] 26)).alloc (.cells #[.int .i64 u, .int .i64 g] 37))) := Lib.hid (((Below.refl _ _).alloc (Nat.le_refl _) _).alloc (by simp) _)
  have KA0 := Lib.hid (alloc3_fst' w (.cells #[.slice o f.nodes.length c, .int .i64 f.room] 26) (.cells #[.int .i64 u, .int .i64 g] 37))
  have KB0 := Lib.hid (alloc3_snd' w (.cells #[.slice o f.nodes.length c, .int .i64 f.room] 26) (.cells #[.int .i64 u, .int .i64 g] 37))
  clear hH
  have HET := Lib.hid hE
  clear hs hE
  by_cases hk : askB4 f u g = true
  · have HK := Lib.hid hk
    obtain ⟨⟨t, cd⟩, hfd⟩ : ∃ q, rlF f.nodes u g s.data.toList = q := ⟨_, rfl⟩
    have HFD := Lib.hid hfd
    have HV : Hid (rlT f u g s.data.toList = t ∧ rlC f u g s.data.toList = cd) := Lib.hid (by unfold rlT rlC; rw [if_pos hk, if_pos hk, hfd]; exact ⟨rfl, rfl⟩)
    clear hk hfd
    obtain ⟨tx, htx⟩ : ∃ tx, tx = bs t := ⟨_, rfl⟩
    have HTX := Lib.hid htx
    go_enter Tryz.func47, Tryz.ntmps47
    go_wp2_with fail
    refine (canLook_is HK.out (HR.out.below HB0.out) HS.out).mono ?_
    rintro e w1 ⟨rfl, hb1⟩
    have HB1 := Lib.hid (HB0.out.trans (hb1.mono HB0.out.size))
    have KA1 := Lib.hid ((hb1.block w.heap.size (lt_of_heap KA0.out)).trans KA0.out)
    have KB1 := Lib.hid ((hb1.block (w.heap.size + 1) (lt_of_heap KB0.out)).trans KB0.out)
    have x1a : w1.cell? ⟨w.heap.size, 0, none⟩ = some (.slice o f.nodes.length c) := cell_blk KA1.out 0
    have x1b : w1.cell? ⟨w.heap.size, 1, none⟩ = some (.int .i64 f.room) := cell_blk KA1.out 1
    have y1a : w1.cell? ⟨w.heap.size + 1, 0, none⟩ = some (.int .i64 u) := cell_blk KB1.out 0
    have y1b : w1.cell? ⟨w.heap.size + 1, 1, none⟩ = some (.int .i64 g) := cell_blk KB1.out 1
    clear hb1
    go_wp2_with fail
    refine (linkAt_is HFD.out (HR.out.below HB1.out) HS.out HK.out hss).mono ?_
    rintro e w2 ⟨rfl, hb2⟩
    have HB2 := Lib.hid (HB1.out.trans (hb2.mono HB1.out.size))
    clear hb2
    rw [← htx]
    clear htx
    obtain ⟨ev, hev⟩ : ∃ ev, errV s cd = ev := ⟨_, rfl⟩
    have HEV := Lib.hid hev
    rw [hev]
    clear hev
    go_wp2_with fail
    rw [← HEV.out]
    refine (codeOf_any s cd _ (HET.out.below HB2.out HET.out.1)).mono ?_
    rintro e w3 ⟨rfl, hb3⟩
    have HB3 := Lib.hid (HB2.out.trans (hb3.mono HB2.out.size))
    clear hb3
    go_wp2
    go_ret3
    exact ⟨by rw [HV.out.1, HV.out.2, HK.out, HTX.out]; rfl, HB3.out⟩
  · have HK : Hid (askB4 f u g = false) := Lib.hid (by simpa using hk)
    have HV : Hid (rlT f u g s.data.toList = [] ∧ rlC f u g s.data.toList = 0) := Lib.hid (by unfold rlT rlC; rw [HK.out]; exact ⟨rfl, rfl⟩)
    clear hk
    go_enter Tryz.func47, Tryz.ntmps47
    go_wp2_with fail
    refine (canLook_is HK.out (HR.out.below HB0.out) HS.out).mono ?_
    rintro e w1 ⟨rfl, hb1⟩
    have HB1 := Lib.hid (HB0.out.trans (hb1.mono HB0.out.size))
    clear hb1
    go_wp2
    go_ret3
    exact ⟨by rw [HV.out.1, HV.out.2, HK.out]; rfl, HB1.out⟩

set_option maxHeartbeats 4000000 in
theorem dirAt_any (f : FsD) (v : Value) (u g : Int) (s : ByteArray) (want : Int) (w : World) (hR : FsA w v f) (hs : szF f ≤ 1048576) (hk : askB4 f u g = true) (hw : inB 0 7 want = true) (hss : s.size ≤ 1048576) :
    Calls Tryz.prog 97 #[v, .agg #[.int .i64 u, .int .i64 g], .string s, .int .i64 want] w fun e w' => e = .returned (.tuple #[.int .i64 ((dirW f.nodes u g s.data.toList want).2 : Nat), errV s (dirW f.nodes u g s.data.toList want).1]) ∧ Below w.heap.size w w' := by
  have HR := Lib.hid hR
  obtain ⟨nv, rfl, hN⟩ := hR
  have HN := Lib.hid hN
  obtain ⟨o, c, rfl, hm, hH⟩ := hN
  unfold maxLen at hm
  have HS := Lib.hid hs
  have hl : f.nodes.length ≤ 1048576 := (lists_small hs).1
  have HB0 : Hid (Below w.heap.size w ((w.alloc (.cells #[.slice o f.nodes.length c, .int .i64 f.room] 26)).alloc (.cells #[.int .i64 u, .int .i64 g] 37))) := Lib.hid (((Below.refl _ _).alloc (Nat.le_refl _) _).alloc (by simp) _)
  have KA0 := Lib.hid (alloc3_fst' w (.cells #[.slice o f.nodes.length c, .int .i64 f.room] 26) (.cells #[.int .i64 u, .int .i64 g] 37))
  have KB0 := Lib.hid (alloc3_snd' w (.cells #[.slice o f.nodes.length c, .int .i64 f.room] 26) (.cells #[.int .i64 u, .int .i64 g] 37))
  clear hH
  have HK := Lib.hid hk
  have HW := Lib.hid hw
  have HL := Lib.hid (look_of (ask_good hk) HS.out)
  obtain ⟨⟨cd, nd⟩, hfd⟩ : ∃ q, lkFind f.nodes u g s.data.toList true = q := ⟨_, rfl⟩
  have hlt : nd < f.nodes.length := by have h7 := lkFind_lt HL.out.1 u g s.data.toList true; rw [hfd] at h7; exact h7
  have HFD := Lib.hid hfd
  clear hs hk hw
  by_cases hc : cd = 0
  · subst hc
    obtain ⟨dc, hdc⟩ : ∃ dc, dirC (nodeAt f.nodes nd) u g want = dc := ⟨_, rfl⟩
    have HDC := Lib.hid hdc
    by_cases hd : dc = 0
    · have HF : Hid (dirW f.nodes u g s.data.toList want = (0, nd)) := Lib.hid (by unfold dirW; rw [hfd]; simp [hdc, hd])
      subst hd
      clear hfd hdc
      go_enter Tryz.func97, Tryz.ntmps97
      go_wp2_with fail
      refine (nodeAt_is HFD.out (HR.out.below HB0.out) HS.out HK.out hss).mono ?_
      rintro e w1 ⟨rfl, hb1⟩
      have HB1 := Lib.hid (HB0.out.trans (hb1.mono HB0.out.size))
      have KA1 := Lib.hid ((hb1.block w.heap.size (lt_of_heap KA0.out)).trans KA0.out)
      have KB1 := Lib.hid ((hb1.block (w.heap.size + 1) (lt_of_heap KB0.out)).trans KB0.out)
      have x1a : w1.cell? ⟨w.heap.size, 0, none⟩ = some (.slice o f.nodes.length c) := cell_blk KA1.out 0
      have x1b : w1.cell? ⟨w.heap.size, 1, none⟩ = some (.int .i64 f.room) := cell_blk KA1.out 1
      have y1a : w1.cell? ⟨w.heap.size + 1, 0, none⟩ = some (.int .i64 u) := cell_blk KB1.out 0
      have y1b : w1.cell? ⟨w.heap.size + 1, 1, none⟩ = some (.int .i64 g) := cell_blk KB1.out 1
      clear hb1
      rw [errV_ok]
      obtain ⟨o5, c5, e5, -, hH5⟩ := HN.out.below HB1.out
      simp only [Value.slice.injEq, true_and] at e5
      obtain ⟨rfl, rfl⟩ := e5
      obtain ⟨g5, f5, l5, rfl, hg5, hc5, -, -⟩ := hH5 nd hlt
      have hqe : f.nodes[nd] = nodeAt f.nodes nd := (getD_at hlt).symm
      rw [hqe] at hc5
      have HC5 := Lib.hid hc5
      have HAS : Hid ((nodeAt f.nodes nd).kind = 2 → askB u g (nodeAt f.nodes nd).mode (nodeAt f.nodes nd).uid (nodeAt f.nodes nd).gid want = true) := Lib.hid (fun h => good_ask (ask_good HK.out) (ask_cred HK.out) HW.out hlt h)
      obtain ⟨nq, hnq⟩ : ∃ nq, nq = nodeAt f.nodes nd := ⟨_, rfl⟩
      rw [← hnq] at HC5 HAS HDC
      clear hH5 hc5 hqe hnq
      have z0 := fun d os => cell_regrown (w := w1) x1a d os
      have z1 := fun d os => cell_regrown (w := w1) y1a d os
      have z2 := fun d os => cell_regrown (w := w1) y1b d os
      have HV : Hid (errC (dirC nq u g want) = .nilIface) := Lib.hid (by rw [HDC.out]; rfl)
      go_wp2
      refine wp_region_quiet_below (by kernel_rfl) (by kernel_rfl) ?_
      repeat (first | go_big_quiet_step ((go_at_call 121; exact Calls.regrown_of (checkDir_is HV.out (Nat.lt_of_lt_of_le hg5 (below_regrown _ _ _).size) (HC5.out.below (below_regrown _ _ _) hg5) HAS.out))) | quiet_step ((go_at_call 121; exact Calls.regrown_of (checkDir_is HV.out (Nat.lt_of_lt_of_le hg5 (below_regrown _ _ _).size) (HC5.out.below (below_regrown _ _ _) hg5) HAS.out))))
      refine wpQuiet_nil ?_
      intro w6 hwq
      have hb6 : Below w1.heap.size w1 w6 := by
        obtain ⟨pp, rfl⟩ := hwq
        exact below_regrown _ _ _
      have HB6 := Lib.hid (HB1.out.trans (hb6.mono HB1.out.size))
      clear hwq hb6 z0 z1 z2
      go_wp2
      go_ret2
      exact ⟨by rw [HF.out]; rfl, HB6.out⟩
    · have HF : Hid (dirW f.nodes u g s.data.toList want = (dc, 0)) := Lib.hid (by unfold dirW; rw [hfd]; simp [hdc, hd])
      have HE := Lib.hid (errV_not s hd)
      have HX : Hid (errC dc = .iface 143 (.agg #[.int .i64 dc])) := Lib.hid (by unfold errC; rw [if_neg hd]; rfl)
      clear hfd hdc hd
      go_enter Tryz.func97, Tryz.ntmps97
      go_wp2_with fail
      refine (nodeAt_is HFD.out (HR.out.below HB0.out) HS.out HK.out hss).mono ?_
      rintro e w1 ⟨rfl, hb1⟩
      have HB1 := Lib.hid (HB0.out.trans (hb1.mono HB0.out.size))
      have KA1 := Lib.hid ((hb1.block w.heap.size (lt_of_heap KA0.out)).trans KA0.out)
      have KB1 := Lib.hid ((hb1.block (w.heap.size + 1) (lt_of_heap KB0.out)).trans KB0.out)
      have x1a : w1.cell? ⟨w.heap.size, 0, none⟩ = some (.slice o f.nodes.length c) := cell_blk KA1.out 0
      have x1b : w1.cell? ⟨w.heap.size, 1, none⟩ = some (.int .i64 f.room) := cell_blk KA1.out 1
      have y1a : w1.cell? ⟨w.heap.size + 1, 0, none⟩ = some (.int .i64 u) := cell_blk KB1.out 0
      have y1b : w1.cell? ⟨w.heap.size + 1, 1, none⟩ = some (.int .i64 g) := cell_blk KB1.out 1
      clear hb1
      rw [errV_ok]
      obtain ⟨o5, c5, e5, -, hH5⟩ := HN.out.below HB1.out
      simp only [Value.slice.injEq, true_and] at e5
      obtain ⟨rfl, rfl⟩ := e5
      obtain ⟨g5, f5, l5, rfl, hg5, hc5, -, -⟩ := hH5 nd hlt
      have hqe : f.nodes[nd] = nodeAt f.nodes nd := (getD_at hlt).symm
      rw [hqe] at hc5
      have HC5 := Lib.hid hc5
      have HAS : Hid ((nodeAt f.nodes nd).kind = 2 → askB u g (nodeAt f.nodes nd).mode (nodeAt f.nodes nd).uid (nodeAt f.nodes nd).gid want = true) := Lib.hid (fun h => good_ask (ask_good HK.out) (ask_cred HK.out) HW.out hlt h)
      obtain ⟨nq, hnq⟩ : ∃ nq, nq = nodeAt f.nodes nd := ⟨_, rfl⟩
      rw [← hnq] at HC5 HAS HDC
      clear hH5 hc5 hqe hnq
      have z0 := fun d os => cell_regrown (w := w1) x1a d os
      have z1 := fun d os => cell_regrown (w := w1) y1a d os
      have z2 := fun d os => cell_regrown (w := w1) y1b d os
      have HV : Hid (errC (dirC nq u g want) = .iface 143 (.agg #[.int .i64 dc])) := Lib.hid (by rw [HDC.out, HX.out])
      go_wp2
      refine wp_region_quiet_below (by kernel_rfl) (by kernel_rfl) ?_
      repeat (first | go_big_quiet_step ((go_at_call 121; exact Calls.regrown_of (checkDir_is HV.out (Nat.lt_of_lt_of_le hg5 (below_regrown _ _ _).size) (HC5.out.below (below_regrown _ _ _) hg5) HAS.out))) | quiet_step ((go_at_call 121; exact Calls.regrown_of (checkDir_is HV.out (Nat.lt_of_lt_of_le hg5 (below_regrown _ _ _).size) (HC5.out.below (below_regrown _ _ _) hg5) HAS.out))))
      refine wpQuiet_nil ?_
      intro w6 hwq
      have hb6 : Below w1.heap.size w1 w6 := by
        obtain ⟨pp, rfl⟩ := hwq
        exact below_regrown _ _ _
      have HB6 := Lib.hid (HB1.out.trans (hb6.mono HB1.out.size))
      clear hwq hb6 z0 z1 z2
      go_wp2
      go_ret2
      exact ⟨by rw [HF.out]; show _ = Ending.returned (.tuple #[.int .i64 ((0 : Nat) : Int), errV s dc]); rw [HE.out]; rfl, HB6.out⟩
  · have HF : Hid (dirW f.nodes u g s.data.toList want = (cd, 0)) := Lib.hid (by unfold dirW; rw [hfd]; simp [hc])
    have HE := Lib.hid (errV_not s hc)
    clear hfd hc
    go_enter Tryz.func97, Tryz.ntmps97
    go_wp2_with fail
    refine (nodeAt_is HFD.out (HR.out.below HB0.out) HS.out HK.out hss).mono ?_
    rintro e w1 ⟨rfl, hb1⟩
    have HB1 := Lib.hid (HB0.out.trans (hb1.mono HB0.out.size))
    have KA1 := Lib.hid ((hb1.block w.heap.size (lt_of_heap KA0.out)).trans KA0.out)
    have KB1 := Lib.hid ((hb1.block (w.heap.size + 1) (lt_of_heap KB0.out)).trans KB0.out)
    have x1a : w1.cell? ⟨w.heap.size, 0, none⟩ = some (.slice o f.nodes.length c) := cell_blk KA1.out 0
    have x1b : w1.cell? ⟨w.heap.size, 1, none⟩ = some (.int .i64 f.room) := cell_blk KA1.out 1
    have y1a : w1.cell? ⟨w.heap.size + 1, 0, none⟩ = some (.int .i64 u) := cell_blk KB1.out 0
    have y1b : w1.cell? ⟨w.heap.size + 1, 1, none⟩ = some (.int .i64 g) := cell_blk KB1.out 1
    clear hb1
    rw [HE.out]
    go_wp2
    go_ret2
    exact ⟨by rw [HF.out]; show _ = Ending.returned (.tuple #[.int .i64 ((0 : Nat) : Int), errV s cd]); rw [HE.out]; rfl, HB1.out⟩
theorem dirAt_is {f : FsD} {v : Value} {u g : Int} {s : ByteArray} {want : Int} {w : World} {cd : Int} {nd : Nat} (h : dirW f.nodes u g s.data.toList want = (cd, nd)) (hR : FsA w v f) (hs : szF f ≤ 1048576) (hk : askB4 f u g = true) (hw : inB 0 7 want = true) (hss : s.size ≤ 1048576) :
    Calls Tryz.prog 97 #[v, .agg #[.int .i64 u, .int .i64 g], .string s, .int .i64 want] w fun e w' => e = .returned (.tuple #[.int .i64 (nd : Int), errV s cd]) ∧ Below w.heap.size w w' := by
  have := dirAt_any f v u g s want w hR hs hk hw hss
  rw [h] at this
  exact this

set_option maxHeartbeats 4000000 in
theorem realPath_any (f : FsD) (v : Value) (u g : Int) (s : ByteArray) (w : World) (hR : FsA w v f) (hs : szF f ≤ 1048576) (hss : s.size ≤ 1048576) (hE : ErrT w) : Calls Tryz.prog 45 #[v, .agg #[.int .i64 u, .int .i64 g], .string s] w fun e w' => e = .returned (.tuple #[.string (bs (rpT f u g s.data.toList)), .int .i64 (rpC f u g s.data.toList), .bool (askB4 f u g)]) ∧ Below w.heap.size w w' := by
  have HR := Lib.hid hR
  obtain ⟨nv, rfl, hN⟩ := hR
  have HN := Lib.hid hN
  obtain ⟨o, c, rfl, hm, hH⟩ := hN
  unfold maxLen at hm
  have HS := Lib.hid hs
  have hl : f.nodes.length ≤ 1048576 := (lists_small hs).1
  have HB0 : Hid (Below w.heap.size w ((w.alloc (.cells #[.slice o f.nodes.length c, .int .i64 f.room] 26)).alloc (.cells #[.int .i64 u, .int .i64 g] 37))) := Lib.hid (((Below.refl _ _).alloc (Nat.le_refl _) _).alloc (by simp) _)
  have KA0 := Lib.hid (alloc3_fst' w (.cells #[.slice o f.nodes.length c, .int .i64 f.room] 26) (.cells #[.int .i64 u, .int .i64 g] 37))
  have KB0 := Lib.hid (alloc3_snd' w (.cells #[.slice o f.nodes.length c, .int .i64 f.room] 26) (.cells #[.int .i64 u, .int .i64 g] 37))
  clear hH
  have HET := Lib.hid hE
  clear hs hE
  by_cases hk : askB4 f u g = true
  · have HK := Lib.hid hk
    have HL := Lib.hid (look_of (ask_good hk) HS.out)
    have hkd0 := dirF_kind (ns := f.nodes) (u := u) (g := g) (l := s.data.toList)
    have hlt0 := dirF_lt HL.out.1 u g s.data.toList
    obtain ⟨⟨cd, nd⟩, hfd⟩ : ∃ q, dirF f.nodes u g s.data.toList = q := ⟨_, rfl⟩
    rw [hfd] at hkd0 hlt0
    have hlt : nd < f.nodes.length := hlt0
    have HFD : Hid (dirW f.nodes u g s.data.toList 0 = (cd, nd)) := Lib.hid (by rw [dirW_none, hfd])
    clear hlt0
    by_cases hc : cd = 0
    · have hk2 : kindAt f.nodes (nd : Int) = 2 := by rw [kind_at hlt]; exact hkd0 hc
      have hpk : parK f (nd : Int) = true := by
        unfold parK isDirN isN
        rw [ask_good hk, hk2]
        simp [inB]
        omega
      have HV : Hid (rpT f u g s.data.toList = pathF f (nd : Int) ∧ rpC f u g s.data.toList = 0) := Lib.hid (by unfold rpT rpC rpF pathF; rw [if_pos hk, if_pos hk, hfd, if_pos hpk]; simp [hc])
      obtain ⟨tx, htx⟩ : ∃ tx, tx = bs (pathF f (nd : Int)) := ⟨_, rfl⟩
      have HTX := Lib.hid htx
      subst hc
      clear hk hfd hkd0 hk2 hpk
      go_enter Tryz.func45, Tryz.ntmps45
      go_wp2_with fail
      refine (canLook_is HK.out (HR.out.below HB0.out) HS.out).mono ?_
      rintro e w1 ⟨rfl, hb1⟩
      have HB1 := Lib.hid (HB0.out.trans (hb1.mono HB0.out.size))
      have KA1 := Lib.hid ((hb1.block w.heap.size (lt_of_heap KA0.out)).trans KA0.out)
      have KB1 := Lib.hid ((hb1.block (w.heap.size + 1) (lt_of_heap KB0.out)).trans KB0.out)
      have x1a : w1.cell? ⟨w.heap.size, 0, none⟩ = some (.slice o f.nodes.length c) := cell_blk KA1.out 0
      have x1b : w1.cell? ⟨w.heap.size, 1, none⟩ = some (.int .i64 f.room) := cell_blk KA1.out 1
      have y1a : w1.cell? ⟨w.heap.size + 1, 0, none⟩ = some (.int .i64 u) := cell_blk KB1.out 0
      have y1b : w1.cell? ⟨w.heap.size + 1, 1, none⟩ = some (.int .i64 g) := cell_blk KB1.out 1
      clear hb1
      go_wp2_with fail
      refine (dirAt_is HFD.out (HR.out.below HB1.out) HS.out HK.out (by decide) hss).mono ?_
      rintro e w2 ⟨rfl, hb2⟩
      rw [errV_ok]
      have HB2 := Lib.hid (HB1.out.trans (hb2.mono HB1.out.size))
      have KA2 := Lib.hid ((hb2.block w.heap.size (lt_of_heap KA1.out)).trans KA1.out)
      have KB2 := Lib.hid ((hb2.block (w.heap.size + 1) (lt_of_heap KB1.out)).trans KB1.out)
      have x2a : w2.cell? ⟨w.heap.size, 0, none⟩ = some (.slice o f.nodes.length c) := cell_blk KA2.out 0
      have x2b : w2.cell? ⟨w.heap.size, 1, none⟩ = some (.int .i64 f.room) := cell_blk KA2.out 1
      have y2a : w2.cell? ⟨w.heap.size + 1, 0, none⟩ = some (.int .i64 u) := cell_blk KB2.out 0
      have y2b : w2.cell? ⟨w.heap.size + 1, 1, none⟩ = some (.int .i64 g) := cell_blk KB2.out 1
      clear hb2
      go_wp2_with fail
      refine (pathTo_any f (nd : Int) _ _ (HR.out.below HB2.out) HS.out).mono ?_
      rintro e w3 ⟨rfl, hb3⟩
      have HB3 := Lib.hid (HB2.out.trans (hb3.mono HB2.out.size))
      clear hb3
      rw [← htx]
      clear htx
      go_wp2
      go_ret3
      exact ⟨by rw [HV.out.1, HV.out.2, HK.out, HTX.out]; rfl, HB3.out⟩
    · have HV : Hid (rpT f u g s.data.toList = [] ∧ rpC f u g s.data.toList = cd) := Lib.hid (by unfold rpT rpC rpF; rw [if_pos hk, if_pos hk, hfd]; simp [hc])
      have HE := Lib.hid (errV_not s hc)
      clear hk hfd hkd0 hc
      go_enter Tryz.func45, Tryz.ntmps45
      go_wp2_with fail
      refine (canLook_is HK.out (HR.out.below HB0.out) HS.out).mono ?_
      rintro e w1 ⟨rfl, hb1⟩
      have HB1 := Lib.hid (HB0.out.trans (hb1.mono HB0.out.size))
      have KA1 := Lib.hid ((hb1.block w.heap.size (lt_of_heap KA0.out)).trans KA0.out)
      have KB1 := Lib.hid ((hb1.block (w.heap.size + 1) (lt_of_heap KB0.out)).trans KB0.out)
      have x1a : w1.cell? ⟨w.heap.size, 0, none⟩ = some (.slice o f.nodes.length c) := cell_blk KA1.out 0
      have x1b : w1.cell? ⟨w.heap.size, 1, none⟩ = some (.int .i64 f.room) := cell_blk KA1.out 1
      have y1a : w1.cell? ⟨w.heap.size + 1, 0, none⟩ = some (.int .i64 u) := cell_blk KB1.out 0
      have y1b : w1.cell? ⟨w.heap.size + 1, 1, none⟩ = some (.int .i64 g) := cell_blk KB1.out 1
      clear hb1
      go_wp2_with fail
      refine (dirAt_is HFD.out (HR.out.below HB1.out) HS.out HK.out (by decide) hss).mono ?_
      rintro e w2 ⟨rfl, hb2⟩
      have HB2 := Lib.hid (HB1.out.trans (hb2.mono HB1.out.size))
      clear hb2
      rw [HE.out]
      go_wp2_with fail
      rw [← HE.out]
      refine (codeOf_any s cd _ (HET.out.below HB2.out HET.out.1)).mono ?_
      rintro e w3 ⟨rfl, hb3⟩
      have HB3 := Lib.hid (HB2.out.trans (hb3.mono HB2.out.size))
      clear hb3
      go_wp2
      go_ret3
      exact ⟨by rw [HV.out.1, HV.out.2, HK.out]; rfl, HB3.out⟩
  · have HK : Hid (askB4 f u g = false) := Lib.hid (by simpa using hk)
    have HV : Hid (rpT f u g s.data.toList = [] ∧ rpC f u g s.data.toList = 0) := Lib.hid (by unfold rpT rpC; rw [HK.out]; exact ⟨rfl, rfl⟩)
    clear hk
    go_enter Tryz.func45, Tryz.ntmps45
    go_wp2_with fail
    refine (canLook_is HK.out (HR.out.below HB0.out) HS.out).mono ?_
    rintro e w1 ⟨rfl, hb1⟩
    have HB1 := Lib.hid (HB0.out.trans (hb1.mono HB0.out.size))
    clear hb1
    go_wp2
    go_ret3
    exact ⟨by rw [HV.out.1, HV.out.2, HK.out]; rfl, HB1.out⟩
end Go.Proofs.YtgmkfhhlnhgkhaaGreatDoor


/-
  Where the last name of a path comes, as plain data: the text behind the last slash, what is ahead of it; slashes at the end count for nothing where a directory is asked for.
  Conditions: as each states.
-/
namespace Go.Proofs.YtgmkfhhlnhgkhaaGreatDoor
open Go.ChangeShapes Go.WideShapes Go.ChangeAt Go.RowKit Go.Joins
set_option linter.unusedVariables false

theorem cut_slash : ∀ (l : List UInt8), 47 ∈ l → ∃ D p, l = D ++ 47 :: p ∧ 47 ∉ p
  | [], h => by simp at h
  | c :: l, h => by
    by_cases hl : 47 ∈ l
    · obtain ⟨D, p, e, hp⟩ := cut_slash l hl
      exact ⟨c :: D, p, by rw [e]; rfl, hp⟩
    · have hc : c = 47 := by
        rcases List.mem_cons.1 h with h | h
        · exact h.symm
        · exact absurd h hl
      exact ⟨[], l, by rw [hc]; rfl, hl⟩
theorem parts_cut (D p : List UInt8) (hp : 47 ∉ p) : parts (D ++ 47 :: p) = parts D ++ full [p] := by
  have e : D ++ 47 :: p = (D ++ [47]) ++ p := by simp
  unfold parts
  rw [e, sp_app _ _ (fun c hc h => hp (h ▸ hc)), sp_snoc, spStep, if_pos rfl]
  show full (((sp D).1 ++ [(sp D).2]) ++ [[] ++ p]) = _
  rw [full_app]
  rfl
theorem parts_slash (D : List UInt8) : parts (D ++ [47]) = parts D := by
  have := parts_cut D [] (by simp)
  rw [this]; simp [full]
theorem full_one {p : List UInt8} (h : p ≠ []) : full [p] = [p] := by
  cases p with
  | nil => exact absurd rfl h
  | cons c p => rfl
theorem slash_cut (D p : List UInt8) (hp : 47 ∉ p) : slashB (D ++ 47 :: p) = p.isEmpty := by
  unfold slashB
  rcases List.eq_nil_or_concat p with rfl | ⟨q, c, hq⟩
  · simp
  · rw [List.concat_eq_append] at hq
    subst hq
    have e : D ++ 47 :: (q ++ [c]) = (D ++ 47 :: q) ++ [c] := by simp
    have hc : c ≠ 47 := fun h => hp (by rw [h]; simp)
    have h1 : (c == 47) = false := beq_eq_false_iff_ne.2 hc
    have h2 : (q ++ [c]).isEmpty = false := by cases q <;> rfl
    rw [e, List.getLast?_append, h2, ← h1]
    simp
theorem name_is4 {p : List UInt8} (h : nameB p = true) : partB p = true ∧ p ≠ [46] ∧ p ≠ [46, 46] ∧ p ≠ [] := by
  unfold nameB at h
  simp only [Bool.and_eq_true, Bool.not_eq_true', beq_eq_false_iff_ne] at h
  refine ⟨h.1, h.2.1, h.2.2, ?_⟩
  rintro rfl
  exact absurd h.1 (by decide)
/-- What is ahead of the last slash: the root's own text where nothing is. -/
def aheadL (D : List UInt8) : List UInt8 := if D = [] then [47] else D
/-- What is ahead, slashes at its end struck. -/
def strip : List UInt8 → List UInt8 := fun l => (l.reverse.dropWhile (· == 47)).reverse

theorem goodB_slash {l : List UInt8} (hl : l.length < 60) (h0 : l ≠ []) : goodB (l ++ [47]) = goodB l := by
  unfold goodB
  rw [parts_slash]
  have h1 : 1 ≤ l.length := by cases l with | nil => exact absurd rfl h0 | cons => simp
  have e1 : decide (1 ≤ (l ++ [47]).length ∧ (l ++ [47]).length ≤ 60) = true := by simp; omega
  have e2 : decide (1 ≤ l.length ∧ l.length ≤ 60) = true := by simp; omega
  rw [e1, e2]
theorem wholeB_slash {l : List UInt8} (h0 : l ≠ []) (m : List UInt8) : wholeB (l ++ m) = wholeB l := by
  cases l with
  | nil => exact absurd rfl h0
  | cons c l => rfl
/-- A slash at the end changes nothing where a directory is asked for. -/
theorem dirW_slash {ns : List Nod} {u g : Int} {l : List UInt8} {want : Int} (hl : l.length < 60) (h0 : l ≠ []) : dirW ns u g (l ++ [47]) want = dirW ns u g l want := by
  have hs : slashB (l ++ [47]) = true := by unfold slashB; simp
  unfold dirW lkFind
  rw [goodB_slash hl h0, wholeB_slash h0, parts_slash, hs]
  by_cases h1 : goodB l = true ∧ wholeB l = true
  · simp only [if_pos h1, Bool.true_or]
    obtain ⟨⟨cd, nd⟩, hfd⟩ : ∃ q, lkGo ns u g true ⟨0, parts l, 0⟩ = q := ⟨_, rfl⟩
    rw [hfd]
    by_cases h2 : cd = 0
    · subst h2
      by_cases hk : (nodeAt ns nd).kind = 2
      · simp [hk]
      · have hd : dirC (nodeAt ns nd) u g want = 3 := by unfold dirC; rw [if_pos hk]
        by_cases hsl : slashB l = true
        · simp [hk, hsl]
        · simp [hk, hsl, hd]
    · simp [h2]
  · simp only [if_neg h1]
theorem dirW_slashes {ns : List Nod} {u g : Int} {want : Int} : ∀ (k : Nat) (l : List UInt8), l.length + k ≤ 60 → l ≠ [] → dirW ns u g (l ++ List.replicate k 47) want = dirW ns u g l want
  | 0, l, _, _ => by simp
  | k + 1, l, h, h0 => by
    rw [List.replicate_succ', ← List.append_assoc, dirW_slash (by simp; omega) (by simp [h0])]
    exact dirW_slashes k l (by omega) h0

/-- What FindPlace tells: a code, a node, a name. -/
def plF4 (ns : List Nod) (u g : Int) (D p : List UInt8) : Int × Nat × List UInt8 :=
  if (goodB (D ++ 47 :: p) = true ∧ wholeB (D ++ 47 :: p) = true) ∧ nameB p = true then
    ((dirW ns u g (aheadL D) 1).1, (dirW ns u g (aheadL D) 1).2, if (dirW ns u g (aheadL D) 1).1 = 0 then p else [])
  else (1, 0, [])
theorem base_cut {D p : List UInt8} (hp : 47 ∉ p) (hn : nameB p = true) : clean (wholeB (D ++ 47 :: p)) (parts (D ++ 47 :: p)) = clean (wholeB (D ++ 47 :: p)) (parts D) ++ [p] := by
  obtain ⟨h1, h2, h3, h4⟩ := name_is4 hn
  rw [parts_cut D p hp, full_one h4, clean_snoc, clStep, if_neg h2, if_neg h3]
end Go.Proofs.YtgmkfhhlnhgkhaaGreatDoor


/-
  The program's placeAt, FindPlace; strings.LastIndexByte at a slash.
  Conditions: at most 2^20 values and letters together; a text of at most 2^20 bytes; the variable errors.errorType as the program's text lays it.
-/
namespace Go.Proofs.YtgmkfhhlnhgkhaaGreatDoor
open Go.ChangeShapes Go.WideShapes Go.ChangeAt Go.RowKit Go.Joins
set_option linter.unusedVariables false
set_option linter.unusedSimpArgs false

theorem byte_at {s : ByteArray} {D p : List UInt8} (hs : s.data.toList = D ++ 47 :: p) (hp : 47 ∉ p) (m : Nat) (hm : m < s.size) : (D.length < m → (s[m]'hm).toNat ≠ 47) ∧ (m = D.length → (s[m]'hm).toNat = 47) := by
  have hl : m < s.data.toList.length := by rw [len_size]; exact hm
  have e : s[m]'hm = s.data.toList[m]'hl := rfl
  have e2 : s.data.toList[m]'hl = (D ++ 47 :: p)[m]'(by rw [← hs]; exact hl) := by congr 1
  rw [e, e2]
  constructor
  · intro h h47
    rw [List.getElem_append_right (by omega)] at h47
    obtain ⟨j, hj⟩ : ∃ j, m - D.length = j + 1 := ⟨m - D.length - 1, by omega⟩
    have hjl : j < p.length := by
      have : s.data.toList.length = (D ++ 47 :: p).length := by rw [hs]
      simp at this hl
      omega
    have h5 : ((47 :: p)[m - D.length]'(by simp; omega)) = p[j] := by
      simp only [hj, List.getElem_cons_succ]
    rw [h5] at h47
    have : p[j] = 47 := UInt8.toNat_inj.1 (by rw [h47]; rfl)
    exact hp (this ▸ List.getElem_mem hjl)
  · intro h
    subst h
    simp
theorem lastB_some (D p : List UInt8) (s : ByteArray) (w : World) (hs : s.data.toList = D ++ 47 :: p) (hp : 47 ∉ p) (hz : s.size ≤ 1073741824) :
    Calls Tryz.prog 169 #[.string s, .int .u8 47] w fun e w' => e = .returned (.int .i64 (D.length : Nat)) ∧ w = w' := by
  have HA := Lib.hid (byte_at hs hp)
  have hsz : s.size = D.length + 1 + p.length := by rw [← len_size, hs]; simp; omega
  clear hs hp
  go_enter Tryz.func169, Tryz.ntmps169
  go_wp2
  go_loop [5] (fun i => ∃ m : Nat, D.length ≤ m ∧ m < s.size ∧ i = .int .i64 m) (fun i => (intOf i).toNat)
  case atStart => exact ⟨s.size - 1, by omega, by omega, by congr 1; omega⟩
  case round =>
    obtain ⟨m, hm0, hm1, rfl⟩ := hrel
    obtain ⟨h1, h2⟩ := HA.out m hm1
    by_cases hmD : m = D.length
    · have h47 := h2 hmD
      have h47b : (((s[m]'hm1).toNat : Int) == 47) = true := by rw [h47]; rfl
      subst hmD
      clear h1 h2
      go_wp2
      go_ret
      exact ⟨rfl, rfl⟩
    · have hgt : D.length < m := by omega
      have hne := h1 hgt
      have hne2 : (((s[m]'hm1).toNat : Int) == 47) = false := by rw [beq_eq_false_iff_ne]; omega
      clear h1 h2
      go_wp2
      go_round
      case rel => exact ⟨m - 1, by omega, by omega, by congr 1; omega⟩
      case measure => simp [intOf]; omega
theorem lastB_none (s : ByteArray) (w : World) (hs : 47 ∉ s.data.toList) (hz : s.size ≤ 1073741824) :
    Calls Tryz.prog 169 #[.string s, .int .u8 47] w fun e w' => e = .returned (.int .i64 (-1)) ∧ w = w' := by
  have HA : Hid (∀ m (hm : m < s.size), (s[m]'hm).toNat ≠ 47) := Lib.hid (by
    intro m hm h
    have hl : m < s.data.toList.length := by rw [len_size]; exact hm
    have e : s[m]'hm = s.data.toList[m]'hl := rfl
    have : s[m]'hm = 47 := UInt8.toNat_inj.1 (by rw [h]; rfl)
    rw [e] at this
    exact hs (this ▸ List.getElem_mem hl))
  clear hs
  go_enter Tryz.func169, Tryz.ntmps169
  go_wp2
  go_loop [5] (fun i => ∃ m : Int, -1 ≤ m ∧ m < s.size ∧ i = .int .i64 m) (fun i => (intOf i + 1).toNat)
  case atStart => exact ⟨(s.size : Int) - 1, by omega, by omega, rfl⟩
  case round =>
    obtain ⟨m, hm0, hm1, rfl⟩ := hrel
    by_cases hm : m = -1
    · subst hm
      go_wp2
      go_ret
      exact ⟨rfl, rfl⟩
    · obtain ⟨k, rfl⟩ : ∃ k : Nat, m = k := ⟨m.toNat, by omega⟩
      have hk : k < s.size := by omega
      have h1 := HA.out k hk
      go_wp2
      all_goals first
        | (exfalso; simp at *; omega)
        | (go_round
           case rel => exact ⟨(k : Int) - 1, by omega, by omega, by congr 1⟩
           case measure => (simp [intOf]) <;> omega)
theorem lastI_some {D p : List UInt8} {s : ByteArray} {w : World} (hs : s.data.toList = D ++ 47 :: p) (hp : 47 ∉ p) (hz : s.size ≤ 1073741824) :
    Calls Tryz.prog 133 #[.string s, .int .u8 47] w fun e w' => e = .returned (.int .i64 (D.length : Nat)) ∧ w = w' := by
  have H := Lib.hid (lastB_some D p s w hs hp hz)
  clear hs hp
  go_enter Tryz.func133, Tryz.ntmps133
  go_wp2_with fail
  refine H.out.mono ?_
  rintro e w1 ⟨rfl, rfl⟩
  go_wp2
  go_ret
  exact ⟨rfl, rfl⟩
theorem lastI_none {s : ByteArray} {w : World} (hs : 47 ∉ s.data.toList) (hz : s.size ≤ 1073741824) :
    Calls Tryz.prog 133 #[.string s, .int .u8 47] w fun e w' => e = .returned (.int .i64 (-1)) ∧ w = w' := by
  have H := Lib.hid (lastB_none s w hs hz)
  clear hs
  go_enter Tryz.func133, Tryz.ntmps133
  go_wp2_with fail
  refine H.out.mono ?_
  rintro e w1 ⟨rfl, rfl⟩
  go_wp2
  go_ret
  exact ⟨rfl, rfl⟩
theorem cut_tail {D p : List UInt8} {s : ByteArray} (hs : s.data.toList = D ++ 47 :: p) : s.extract (D.length + 1) s.size = bs p := by
  rw [bs_ext, ← len_size, List.take_length, hs]
  congr 1
  have e : D ++ 47 :: p = (D ++ [47]) ++ p := by simp
  rw [e, List.drop_append_of_le_length (by simp)]
  simp
theorem cut_front {D p : List UInt8} {s : ByteArray} (hs : s.data.toList = D ++ 47 :: p) : s.extract 0 D.length = bs D := by
  rw [bs_ext, hs]; simp
theorem cut_root {p : List UInt8} {s : ByteArray} (hs : s.data.toList = 47 :: p) : s.extract 0 1 = bs [47] := by
  rw [bs_ext, hs]; simp

set_option maxHeartbeats 4000000 in
theorem placeAt_no (f : FsD) (v : Value) (u g : Int) (s : ByteArray) (w : World) (hR : FsA w v f) (hs : szF f ≤ 1048576) (hss : s.size ≤ 1048576) (hw : wgB s.data.toList = false) :
    Calls Tryz.prog 94 #[v, .agg #[.int .i64 u, .int .i64 g], .string s] w fun e w' => e = .returned (.tuple #[.int .i64 0, .string ⟨#[]⟩, faultV s 1]) ∧ Below w.heap.size w w' := by
  have HR := Lib.hid hR
  obtain ⟨nv, rfl, hN⟩ := hR
  have HN := Lib.hid hN
  obtain ⟨o, c, rfl, hm, hH⟩ := hN
  unfold maxLen at hm
  have HS := Lib.hid hs
  have hl : f.nodes.length ≤ 1048576 := (lists_small hs).1
  have HB0 : Hid (Below w.heap.size w ((w.alloc (.cells #[.slice o f.nodes.length c, .int .i64 f.room] 26)).alloc (.cells #[.int .i64 u, .int .i64 g] 37))) := Lib.hid (((Below.refl _ _).alloc (Nat.le_refl _) _).alloc (by simp) _)
  have KA0 := Lib.hid (alloc3_fst' w (.cells #[.slice o f.nodes.length c, .int .i64 f.room] 26) (.cells #[.int .i64 u, .int .i64 g] 37))
  have KB0 := Lib.hid (alloc3_snd' w (.cells #[.slice o f.nodes.length c, .int .i64 f.room] 26) (.cells #[.int .i64 u, .int .i64 g] 37))
  clear hH
  have HW := Lib.hid hw
  clear hs hw
  by_cases h47 : 47 ∈ s.data.toList
  · obtain ⟨D, p, hDp, hp⟩ := cut_slash _ h47
    have hsz : D.length + 1 ≤ s.size := by rw [← len_size, hDp]; simp
    have HDP := Lib.hid hDp
    have HP := Lib.hid hp
    clear hDp hp h47
    go_enter Tryz.func94, Tryz.ntmps94
    go_wp2_with fail
    refine (lastI_some HDP.out HP.out (by omega)).mono ?_
    rintro e w0 ⟨rfl, rfl⟩
    go_wp2_with fail
    refine (isWholePath_is HW.out (by omega)).mono ?_
    rintro e w1 ⟨rfl, hb1⟩
    have HB1 := Lib.hid (HB0.out.trans (hb1.mono HB0.out.size))
    have KA1 := Lib.hid ((hb1.block w.heap.size (lt_of_heap KA0.out)).trans KA0.out)
    have KB1 := Lib.hid ((hb1.block (w.heap.size + 1) (lt_of_heap KB0.out)).trans KB0.out)
    have x1a : w1.cell? ⟨w.heap.size, 0, none⟩ = some (.slice o f.nodes.length c) := cell_blk KA1.out 0
    have x1b : w1.cell? ⟨w.heap.size, 1, none⟩ = some (.int .i64 f.room) := cell_blk KA1.out 1
    have y1a : w1.cell? ⟨w.heap.size + 1, 0, none⟩ = some (.int .i64 u) := cell_blk KB1.out 0
    have y1b : w1.cell? ⟨w.heap.size + 1, 1, none⟩ = some (.int .i64 g) := cell_blk KB1.out 1
    clear hb1
    go_wp2
    go_ret3
    exact ⟨rfl, HB1.out⟩
  · have HN := Lib.hid h47
    clear h47
    go_enter Tryz.func94, Tryz.ntmps94
    go_wp2_with fail
    refine (lastI_none HN.out (by omega)).mono ?_
    rintro e w0 ⟨rfl, rfl⟩
    go_wp2_with fail
    refine (isWholePath_is HW.out (by omega)).mono ?_
    rintro e w1 ⟨rfl, hb1⟩
    have HB1 := Lib.hid (HB0.out.trans (hb1.mono HB0.out.size))
    have KA1 := Lib.hid ((hb1.block w.heap.size (lt_of_heap KA0.out)).trans KA0.out)
    have KB1 := Lib.hid ((hb1.block (w.heap.size + 1) (lt_of_heap KB0.out)).trans KB0.out)
    have x1a : w1.cell? ⟨w.heap.size, 0, none⟩ = some (.slice o f.nodes.length c) := cell_blk KA1.out 0
    have x1b : w1.cell? ⟨w.heap.size, 1, none⟩ = some (.int .i64 f.room) := cell_blk KA1.out 1
    have y1a : w1.cell? ⟨w.heap.size + 1, 0, none⟩ = some (.int .i64 u) := cell_blk KB1.out 0
    have y1b : w1.cell? ⟨w.heap.size + 1, 1, none⟩ = some (.int .i64 g) := cell_blk KB1.out 1
    clear hb1
    go_wp2
    go_ret3
    exact ⟨rfl, HB1.out⟩
set_option maxHeartbeats 4000000 in
theorem placeAt_bad (f : FsD) (v : Value) (u g : Int) (s : ByteArray) (D p : List UInt8) (w : World) (hR : FsA w v f) (hs : szF f ≤ 1048576) (hss : s.size ≤ 1048576) (hw : wgB s.data.toList = true) (hDp : s.data.toList = D ++ 47 :: p) (hp : 47 ∉ p) (hn : nameB p = false) :
    Calls Tryz.prog 94 #[v, .agg #[.int .i64 u, .int .i64 g], .string s] w fun e w' => e = .returned (.tuple #[.int .i64 0, .string ⟨#[]⟩, faultV s 1]) ∧ Below w.heap.size w w' := by
  have HR := Lib.hid hR
  obtain ⟨nv, rfl, hN⟩ := hR
  have HN := Lib.hid hN
  obtain ⟨o, c, rfl, hm, hH⟩ := hN
  unfold maxLen at hm
  have HS := Lib.hid hs
  have hl : f.nodes.length ≤ 1048576 := (lists_small hs).1
  have HB0 : Hid (Below w.heap.size w ((w.alloc (.cells #[.slice o f.nodes.length c, .int .i64 f.room] 26)).alloc (.cells #[.int .i64 u, .int .i64 g] 37))) := Lib.hid (((Below.refl _ _).alloc (Nat.le_refl _) _).alloc (by simp) _)
  have KA0 := Lib.hid (alloc3_fst' w (.cells #[.slice o f.nodes.length c, .int .i64 f.room] 26) (.cells #[.int .i64 u, .int .i64 g] 37))
  have KB0 := Lib.hid (alloc3_snd' w (.cells #[.slice o f.nodes.length c, .int .i64 f.room] 26) (.cells #[.int .i64 u, .int .i64 g] 37))
  clear hH
  have HW := Lib.hid hw
  have HCT := Lib.hid (cut_tail hDp)
  have HNM : Hid (nameB p = false) := Lib.hid hn
  have hsz : D.length + 1 ≤ s.size := by rw [← len_size, hDp]; simp
  have HDP := Lib.hid hDp
  have HP := Lib.hid hp
  clear hs hw hn hDp hp
  go_enter Tryz.func94, Tryz.ntmps94
  go_wp2_with fail
  refine (lastI_some HDP.out HP.out (by omega)).mono ?_
  rintro e w0 ⟨rfl, rfl⟩
  go_wp2_with fail
  refine (isWholePath_is HW.out (by omega)).mono ?_
  rintro e w1 ⟨rfl, hb1⟩
  have HB1 := Lib.hid (HB0.out.trans (hb1.mono HB0.out.size))
  have KA1 := Lib.hid ((hb1.block w.heap.size (lt_of_heap KA0.out)).trans KA0.out)
  have KB1 := Lib.hid ((hb1.block (w.heap.size + 1) (lt_of_heap KB0.out)).trans KB0.out)
  have x1a : w1.cell? ⟨w.heap.size, 0, none⟩ = some (.slice o f.nodes.length c) := cell_blk KA1.out 0
  have x1b : w1.cell? ⟨w.heap.size, 1, none⟩ = some (.int .i64 f.room) := cell_blk KA1.out 1
  have y1a : w1.cell? ⟨w.heap.size + 1, 0, none⟩ = some (.int .i64 u) := cell_blk KB1.out 0
  have y1b : w1.cell? ⟨w.heap.size + 1, 1, none⟩ = some (.int .i64 g) := cell_blk KB1.out 1
  clear hb1
  go_wp2_with fail
  rw [HCT.out]
  refine (goodName_is HNM.out _ rfl _).mono ?_
  rintro e w2 ⟨rfl, hb2⟩
  have HB2 := Lib.hid (HB1.out.trans (hb2.mono HB1.out.size))
  clear hb2
  go_wp2
  go_ret3
  exact ⟨rfl, HB2.out⟩
theorem dirW_zero {ns : List Nod} {u g : Int} {l : List UInt8} {want : Int} (h : (dirW ns u g l want).1 ≠ 0) : (dirW ns u g l want).2 = 0 := by
  unfold dirW at h ⊢
  by_cases h1 : (lkFind ns u g l true).1 ≠ 0
  · rw [if_pos h1]
  · rw [if_neg h1] at h ⊢
    by_cases h2 : dirC (nodeAt ns (lkFind ns u g l true).2) u g want ≠ 0
    · rw [if_pos h2]
    · rw [if_neg h2] at h; exact absurd rfl h
set_option maxHeartbeats 4000000 in
theorem placeAt_D (f : FsD) (v : Value) (u g : Int) (s : ByteArray) (D p : List UInt8) (w : World) (hR : FsA w v f) (hs : szF f ≤ 1048576) (hk : askB4 f u g = true) (hss : s.size ≤ 1048576) (hw : wgB s.data.toList = true) (hDp : s.data.toList = D ++ 47 :: p) (hp : 47 ∉ p) (hn : nameB p = true) (hD : D ≠ []) :
    Calls Tryz.prog 94 #[v, .agg #[.int .i64 u, .int .i64 g], .string s] w fun e w' => e = .returned (.tuple #[.int .i64 ((dirW f.nodes u g D 1).2 : Nat), .string (bs (if (dirW f.nodes u g D 1).1 = 0 then p else [])), errV (bs D) (dirW f.nodes u g D 1).1]) ∧ Below w.heap.size w w' := by
  have HR := Lib.hid hR
  obtain ⟨nv, rfl, hN⟩ := hR
  have HN := Lib.hid hN
  obtain ⟨o, c, rfl, hm, hH⟩ := hN
  unfold maxLen at hm
  have HS := Lib.hid hs
  have hl : f.nodes.length ≤ 1048576 := (lists_small hs).1
  have HB0 : Hid (Below w.heap.size w ((w.alloc (.cells #[.slice o f.nodes.length c, .int .i64 f.room] 26)).alloc (.cells #[.int .i64 u, .int .i64 g] 37))) := Lib.hid (((Below.refl _ _).alloc (Nat.le_refl _) _).alloc (by simp) _)
  have KA0 := Lib.hid (alloc3_fst' w (.cells #[.slice o f.nodes.length c, .int .i64 f.room] 26) (.cells #[.int .i64 u, .int .i64 g] 37))
  have KB0 := Lib.hid (alloc3_snd' w (.cells #[.slice o f.nodes.length c, .int .i64 f.room] 26) (.cells #[.int .i64 u, .int .i64 g] 37))
  clear hH
  have HK := Lib.hid hk
  have HW := Lib.hid hw
  
  have HCT := Lib.hid (cut_tail hDp)
  have HFR : Hid (s.extract 0 D.length = bs D) := Lib.hid (cut_front hDp)
  have HNM : Hid (nameB p = true) := Lib.hid hn
  have hsz : D.length + 1 ≤ s.size := by rw [← len_size, hDp]; simp
  have hD0 : 1 ≤ D.length := by cases D with | nil => exact absurd rfl hD | cons => simp
  have HDP := Lib.hid hDp
  have HP := Lib.hid hp
  obtain ⟨⟨cd, nd⟩, hfd⟩ : ∃ q, dirW f.nodes u g D 1 = q := ⟨_, rfl⟩
  have HFD : Hid (dirW f.nodes u g (bs D).data.toList 1 = (cd, nd)) := Lib.hid (by rw [bs_list]; exact hfd)
  rw [hfd]
  have HZ : Hid (cd ≠ 0 → nd = 0) := Lib.hid (fun h => by have := dirW_zero (ns := f.nodes) (u := u) (g := g) (l := D) (want := 1) (by rw [hfd]; exact h); rw [hfd] at this; exact this)
  have hsa : (bs D).size ≤ 1048576 := by rw [bs_size]; omega
  clear hs hw hn hDp hp hk hfd hD
  
  go_enter Tryz.func94, Tryz.ntmps94
  go_wp2_with fail
  refine (lastI_some HDP.out HP.out (by omega)).mono ?_
  rintro e w0 ⟨rfl, rfl⟩
  go_wp2_with fail
  refine (isWholePath_is HW.out (by omega)).mono ?_
  rintro e w1 ⟨rfl, hb1⟩
  have HB1 := Lib.hid (HB0.out.trans (hb1.mono HB0.out.size))
  have KA1 := Lib.hid ((hb1.block w.heap.size (lt_of_heap KA0.out)).trans KA0.out)
  have KB1 := Lib.hid ((hb1.block (w.heap.size + 1) (lt_of_heap KB0.out)).trans KB0.out)
  have x1a : w1.cell? ⟨w.heap.size, 0, none⟩ = some (.slice o f.nodes.length c) := cell_blk KA1.out 0
  have x1b : w1.cell? ⟨w.heap.size, 1, none⟩ = some (.int .i64 f.room) := cell_blk KA1.out 1
  have y1a : w1.cell? ⟨w.heap.size + 1, 0, none⟩ = some (.int .i64 u) := cell_blk KB1.out 0
  have y1b : w1.cell? ⟨w.heap.size + 1, 1, none⟩ = some (.int .i64 g) := cell_blk KB1.out 1
  clear hb1
  go_wp2_with fail
  rw [HCT.out]
  refine (goodName_is HNM.out _ rfl _).mono ?_
  rintro e w2 ⟨rfl, hb2⟩
  have HB2 := Lib.hid (HB1.out.trans (hb2.mono HB1.out.size))
  have KA2 := Lib.hid ((hb2.block w.heap.size (lt_of_heap KA1.out)).trans KA1.out)
  have KB2 := Lib.hid ((hb2.block (w.heap.size + 1) (lt_of_heap KB1.out)).trans KB1.out)
  have x2a : w2.cell? ⟨w.heap.size, 0, none⟩ = some (.slice o f.nodes.length c) := cell_blk KA2.out 0
  have x2b : w2.cell? ⟨w.heap.size, 1, none⟩ = some (.int .i64 f.room) := cell_blk KA2.out 1
  have y2a : w2.cell? ⟨w.heap.size + 1, 0, none⟩ = some (.int .i64 u) := cell_blk KB2.out 0
  have y2b : w2.cell? ⟨w.heap.size + 1, 1, none⟩ = some (.int .i64 g) := cell_blk KB2.out 1
  clear hb2
  have z0 := fun d os => cell_regrown (w := w2) x2a d os
  have z1 := fun d os => cell_regrown (w := w2) x2b d os
  have z2 := fun d os => cell_regrown (w := w2) y2a d os
  have z3 := fun d os => cell_regrown (w := w2) y2b d os
  have HR2 := Lib.hid (HR.out.below HB2.out)
  by_cases hc : cd = 0
  · subst hc
    go_wp2
    refine wp_region_quiet_below (by kernel_rfl) (by kernel_rfl) ?_
    repeat (first | go_big_quiet_step ((go_at_call 97; rw [HFR.out]; exact Calls.regrown_of (dirAt_is HFD.out (HR2.out.below (below_regrown _ _ _)) HS.out HK.out (by decide) hsa))) | quiet_step ((go_at_call 97; rw [HFR.out]; exact Calls.regrown_of (dirAt_is HFD.out (HR2.out.below (below_regrown _ _ _)) HS.out HK.out (by decide) hsa))))
    refine wpQuiet_nil ?_
    intro w6 hwq
    have hb6 : Below w2.heap.size w2 w6 := by
      obtain ⟨pp, rfl⟩ := hwq
      exact below_regrown _ _ _
    have HB6 := Lib.hid (HB2.out.trans (hb6.mono HB2.out.size))
    clear hwq hb6 z0 z1 z2 z3
    rw [errV_ok]
    go_wp2
    go_ret3
    exact ⟨by simp [errV_ok], HB6.out⟩
  · have HE := Lib.hid (errV_not (bs D) hc)
    have HND := Lib.hid (HZ.out hc)
    go_wp2
    refine wp_region_quiet_below (by kernel_rfl) (by kernel_rfl) ?_
    repeat (first | go_big_quiet_step ((go_at_call 97; rw [HFR.out]; exact Calls.regrown_of (dirAt_is HFD.out (HR2.out.below (below_regrown _ _ _)) HS.out HK.out (by decide) hsa))) | quiet_step ((go_at_call 97; rw [HFR.out]; exact Calls.regrown_of (dirAt_is HFD.out (HR2.out.below (below_regrown _ _ _)) HS.out HK.out (by decide) hsa))))
    refine wpQuiet_nil ?_
    intro w6 hwq
    have hb6 : Below w2.heap.size w2 w6 := by
      obtain ⟨pp, rfl⟩ := hwq
      exact below_regrown _ _ _
    have HB6 := Lib.hid (HB2.out.trans (hb6.mono HB2.out.size))
    clear hwq hb6 z0 z1 z2 z3
    rw [HE.out]
    go_wp2
    go_ret3
    exact ⟨by rw [HND.out, HE.out]; rfl, HB6.out⟩
set_option maxHeartbeats 4000000 in
theorem placeAt_E (f : FsD) (v : Value) (u g : Int) (s : ByteArray) (p : List UInt8) (w : World) (hR : FsA w v f) (hs : szF f ≤ 1048576) (hk : askB4 f u g = true) (hss : s.size ≤ 1048576) (hw : wgB s.data.toList = true) (hDp : s.data.toList = 47 :: p) (hp : 47 ∉ p) (hn : nameB p = true) :
    Calls Tryz.prog 94 #[v, .agg #[.int .i64 u, .int .i64 g], .string s] w fun e w' => e = .returned (.tuple #[.int .i64 ((dirW f.nodes u g [47] 1).2 : Nat), .string (bs (if (dirW f.nodes u g [47] 1).1 = 0 then p else [])), errV (bs [47]) (dirW f.nodes u g [47] 1).1]) ∧ Below w.heap.size w w' := by
  have HR := Lib.hid hR
  obtain ⟨nv, rfl, hN⟩ := hR
  have HN := Lib.hid hN
  obtain ⟨o, c, rfl, hm, hH⟩ := hN
  unfold maxLen at hm
  have HS := Lib.hid hs
  have hl : f.nodes.length ≤ 1048576 := (lists_small hs).1
  have HB0 : Hid (Below w.heap.size w ((w.alloc (.cells #[.slice o f.nodes.length c, .int .i64 f.room] 26)).alloc (.cells #[.int .i64 u, .int .i64 g] 37))) := Lib.hid (((Below.refl _ _).alloc (Nat.le_refl _) _).alloc (by simp) _)
  have KA0 := Lib.hid (alloc3_fst' w (.cells #[.slice o f.nodes.length c, .int .i64 f.room] 26) (.cells #[.int .i64 u, .int .i64 g] 37))
  have KB0 := Lib.hid (alloc3_snd' w (.cells #[.slice o f.nodes.length c, .int .i64 f.room] 26) (.cells #[.int .i64 u, .int .i64 g] 37))
  clear hH
  have HK := Lib.hid hk
  have HW := Lib.hid hw
  have hDp9 : s.data.toList = [] ++ 47 :: p := hDp
  have HCT : Hid (s.extract 1 s.size = bs p) := Lib.hid (cut_tail hDp9)
  have HFR : Hid (s.extract 0 1 = bs [47]) := Lib.hid (cut_root hDp)
  have HNM : Hid (nameB p = true) := Lib.hid hn
  have hsz : 1 ≤ s.size := by rw [← len_size, hDp]; simp
  
  have HDP := Lib.hid hDp9
  have HP := Lib.hid hp
  obtain ⟨⟨cd, nd⟩, hfd⟩ : ∃ q, dirW f.nodes u g [47] 1 = q := ⟨_, rfl⟩
  have HFD : Hid (dirW f.nodes u g (bs [47]).data.toList 1 = (cd, nd)) := Lib.hid (by rw [bs_list]; exact hfd)
  rw [hfd]
  have HZ : Hid (cd ≠ 0 → nd = 0) := Lib.hid (fun h => by have := dirW_zero (ns := f.nodes) (u := u) (g := g) (l := [47]) (want := 1) (by rw [hfd]; exact h); rw [hfd] at this; exact this)
  have hsa : (bs [47]).size ≤ 1048576 := by rw [bs_size]; simp
  clear hs hw hn hDp hp hk hfd hDp9
  have hlen0 : (([] : List UInt8).length : Int) = 0 := rfl
  go_enter Tryz.func94, Tryz.ntmps94
  go_wp2_with fail
  refine (lastI_some HDP.out HP.out (by omega)).mono ?_
  rintro e w0 ⟨rfl, rfl⟩
  go_wp2_with fail
  refine (isWholePath_is HW.out (by omega)).mono ?_
  rintro e w1 ⟨rfl, hb1⟩
  have HB1 := Lib.hid (HB0.out.trans (hb1.mono HB0.out.size))
  have KA1 := Lib.hid ((hb1.block w.heap.size (lt_of_heap KA0.out)).trans KA0.out)
  have KB1 := Lib.hid ((hb1.block (w.heap.size + 1) (lt_of_heap KB0.out)).trans KB0.out)
  have x1a : w1.cell? ⟨w.heap.size, 0, none⟩ = some (.slice o f.nodes.length c) := cell_blk KA1.out 0
  have x1b : w1.cell? ⟨w.heap.size, 1, none⟩ = some (.int .i64 f.room) := cell_blk KA1.out 1
  have y1a : w1.cell? ⟨w.heap.size + 1, 0, none⟩ = some (.int .i64 u) := cell_blk KB1.out 0
  have y1b : w1.cell? ⟨w.heap.size + 1, 1, none⟩ = some (.int .i64 g) := cell_blk KB1.out 1
  clear hb1
  go_wp2_with fail
  rw [HCT.out]
  refine (goodName_is HNM.out _ rfl _).mono ?_
  rintro e w2 ⟨rfl, hb2⟩
  have HB2 := Lib.hid (HB1.out.trans (hb2.mono HB1.out.size))
  have KA2 := Lib.hid ((hb2.block w.heap.size (lt_of_heap KA1.out)).trans KA1.out)
  have KB2 := Lib.hid ((hb2.block (w.heap.size + 1) (lt_of_heap KB1.out)).trans KB1.out)
  have x2a : w2.cell? ⟨w.heap.size, 0, none⟩ = some (.slice o f.nodes.length c) := cell_blk KA2.out 0
  have x2b : w2.cell? ⟨w.heap.size, 1, none⟩ = some (.int .i64 f.room) := cell_blk KA2.out 1
  have y2a : w2.cell? ⟨w.heap.size + 1, 0, none⟩ = some (.int .i64 u) := cell_blk KB2.out 0
  have y2b : w2.cell? ⟨w.heap.size + 1, 1, none⟩ = some (.int .i64 g) := cell_blk KB2.out 1
  clear hb2
  have z0 := fun d os => cell_regrown (w := w2) x2a d os
  have z1 := fun d os => cell_regrown (w := w2) x2b d os
  have z2 := fun d os => cell_regrown (w := w2) y2a d os
  have z3 := fun d os => cell_regrown (w := w2) y2b d os
  have HR2 := Lib.hid (HR.out.below HB2.out)
  by_cases hc : cd = 0
  · subst hc
    go_wp2
    refine wp_region_quiet_below (by kernel_rfl) (by kernel_rfl) ?_
    repeat (first | go_big_quiet_step ((go_at_call 97; rw [HFR.out]; exact Calls.regrown_of (dirAt_is HFD.out (HR2.out.below (below_regrown _ _ _)) HS.out HK.out (by decide) hsa))) | quiet_step ((go_at_call 97; rw [HFR.out]; exact Calls.regrown_of (dirAt_is HFD.out (HR2.out.below (below_regrown _ _ _)) HS.out HK.out (by decide) hsa))))
    refine wpQuiet_nil ?_
    intro w6 hwq
    have hb6 : Below w2.heap.size w2 w6 := by
      obtain ⟨pp, rfl⟩ := hwq
      exact below_regrown _ _ _
    have HB6 := Lib.hid (HB2.out.trans (hb6.mono HB2.out.size))
    clear hwq hb6 z0 z1 z2 z3
    rw [errV_ok]
    go_wp2
    go_ret3
    exact ⟨by simp [errV_ok], HB6.out⟩
  · have HE := Lib.hid (errV_not (bs [47]) hc)
    have HND := Lib.hid (HZ.out hc)
    go_wp2
    refine wp_region_quiet_below (by kernel_rfl) (by kernel_rfl) ?_
    repeat (first | go_big_quiet_step ((go_at_call 97; rw [HFR.out]; exact Calls.regrown_of (dirAt_is HFD.out (HR2.out.below (below_regrown _ _ _)) HS.out HK.out (by decide) hsa))) | quiet_step ((go_at_call 97; rw [HFR.out]; exact Calls.regrown_of (dirAt_is HFD.out (HR2.out.below (below_regrown _ _ _)) HS.out HK.out (by decide) hsa))))
    refine wpQuiet_nil ?_
    intro w6 hwq
    have hb6 : Below w2.heap.size w2 w6 := by
      obtain ⟨pp, rfl⟩ := hwq
      exact below_regrown _ _ _
    have HB6 := Lib.hid (HB2.out.trans (hb6.mono HB2.out.size))
    clear hwq hb6 z0 z1 z2 z3
    rw [HE.out]
    go_wp2
    go_ret3
    exact ⟨by rw [HND.out, HE.out]; rfl, HB6.out⟩
end Go.Proofs.YtgmkfhhlnhgkhaaGreatDoor
