/-
  Joined: GivN GivT.
  Conditions: as each states.
-/
import Derived.Deep.RegionWith
import Derived.Test.YtpkmkpeabfmbiaaGreatDoorLib25
import Derived.Test.YtpkmkpeabfmbiaaGreatDoorLib26

/-
  The model's SetOwner.
  Conditions: at most 2^20 values and letters together; texts of at most 2^20 bytes.
-/
namespace Go.Proofs.YtpkmkpeabfmbiaaGreatDoor
open Go.ChangeShapes Go.WideShapes Go.ChangeAt Go.RowKit Go.Joins
set_option linter.unusedVariables false
set_option linter.unusedSimpArgs false

set_option maxRecDepth 100000 in
set_option maxHeartbeats 8000000 in
theorem specSetOwner_any (f : FsD) (v : Value) (u g : Int) (s : ByteArray) (nu ng : Int) (fol : Bool) (w : World) (hR : FsA w v f) (hs : szF f ≤ 1048576) (hss : s.size ≤ 1048576) : Calls Tryz.prog 30 #[v, .agg #[.int .i64 u, .int .i64 g], .string s, .int .i64 nu, .int .i64 ng, .bool fol] w fun e w' => ∃ nv ps, e = .returned (.tuple #[.agg #[nv, .int .i64 (setF (askOw f u g nu ng) f (givW f.nodes u g s.data.toList nu ng fol) (givN nu ng)).room], .int .i64 (setC (askOw f u g nu ng) (givW f.nodes u g s.data.toList nu ng fol)), .bool (askOw f u g nu ng)]) ∧ ps.map Prod.fst = (setF (askOw f u g nu ng) f (givW f.nodes u g s.data.toList nu ng fol) (givN nu ng)).nodes ∧ Own w' w.heap.size nv ps ∧ Below w.heap.size w w' := by
  have HR := Lib.hid hR
  obtain ⟨nv, rfl, hN⟩ := hR
  obtain ⟨o, c, rfl, hm, hH⟩ := hN
  unfold maxLen at hm
  have HH := Lib.hid hH
  have HS := Lib.hid hs
  have hl : f.nodes.length ≤ 1048576 := (lists_small hs).1
  have HB0 : Hid (Below w.heap.size w (((w.alloc (.cells #[.slice o f.nodes.length c, .int .i64 f.room] 34)).alloc (.cells #[.int .i64 u, .int .i64 g] 36)).alloc (.cells #[.slice none 0 0, .int .i64 0] 34))) := Lib.hid ((((Below.refl _ _).alloc (Nat.le_refl _) _).alloc (by simp) _).alloc (by simp; omega) _)
  have KA0 := Lib.hid (m3_0 w (.cells #[.slice o f.nodes.length c, .int .i64 f.room] 34) (.cells #[.int .i64 u, .int .i64 g] 36) (.cells #[.slice none 0 0, .int .i64 0] 34))
  have KB0 := Lib.hid (m3_1 w (.cells #[.slice o f.nodes.length c, .int .i64 f.room] 34) (.cells #[.int .i64 u, .int .i64 g] 36) (.cells #[.slice none 0 0, .int .i64 0] 34))
  have KZ0 := Lib.hid (m3_2 w (.cells #[.slice o f.nodes.length c, .int .i64 f.room] 34) (.cells #[.int .i64 u, .int .i64 g] 36) (.cells #[.slice none 0 0, .int .i64 0] 34))
  clear hH hs
  obtain ⟨F, hF⟩ : ∃ F, F = (setF (askOw f u g nu ng) f (givW f.nodes u g s.data.toList nu ng fol) (givN nu ng)) := ⟨_, rfl⟩
  obtain ⟨CD, hCD⟩ : ∃ C, C = (setC (askOw f u g nu ng) (givW f.nodes u g s.data.toList nu ng fol)) := ⟨_, rfl⟩
  obtain ⟨AK, hAK⟩ : ∃ A, A = (askOw f u g nu ng) := ⟨_, rfl⟩
  rw [← hF, ← hCD, ← hAK]
  cases hk : askOw f u g nu ng with
  | false =>
    have HAK : Hid (AK = false) := Lib.hid (by rw [hAK, hk])
    have HF : Hid (F = fs0) := Lib.hid (by rw [hF, hk]; rfl)
    have HCD : Hid (CD = 0) := Lib.hid (by rw [hCD, hk]; rfl)
    clear hF hCD hAK
    cases hk4 : askB4 f u g with
    | false =>
      have HK4 := Lib.hid hk4
      clear hk hk4
      go_enter Tryz.func30, Tryz.ntmps30
      go_wp2_with fail
      refine (l4Asked_isM HK4.out (HR.out.below HB0.out) HS.out).mono ?_
      rintro e w1 ⟨rfl, hb1⟩
      have HB1 := Lib.hid (HB0.out.trans (hb1.mono HB0.out.size))
      have KA1 := Lib.hid (blk_step hb1 KA0.out)
      have KB1 := Lib.hid (blk_step hb1 KB0.out)
      have KZ1 := Lib.hid (blk_step hb1 KZ0.out)
      have KA1c0 : w1.cell? ⟨w.heap.size, 0, none⟩ = some (.slice o f.nodes.length c) := cell_blk KA1.out 0
      have KA1c1 : w1.cell? ⟨w.heap.size, 1, none⟩ = some (.int .i64 f.room) := cell_blk KA1.out 1
      have KB1c0 : w1.cell? ⟨w.heap.size + 1, 0, none⟩ = some (.int .i64 u) := cell_blk KB1.out 0
      have KB1c1 : w1.cell? ⟨w.heap.size + 1, 1, none⟩ = some (.int .i64 g) := cell_blk KB1.out 1
      have KZ1c0 : w1.cell? ⟨w.heap.size + 2, 0, none⟩ = some (.slice none 0 0) := cell_blk KZ1.out 0
      have KZ1c1 : w1.cell? ⟨w.heap.size + 2, 1, none⟩ = some (.int .i64 0) := cell_blk KZ1.out 1
      have KZ1f := frozen_blk KZ1.out
      clear hb1
      have hq := two_set KZ1.out (.slice none 0 0) (.int .i64 0)
      have t0 := (cell_blk hq 0).trans rfl
      have t1 := (cell_blk hq 1).trans rfl
      go_wp2
      refine bodyPost_ret (v := .tuple #[.agg #[.slice none 0 0, .int .i64 0], .int .i64 0, .bool false]) (by simp [results, Tryz.results30, go_sem, t0, t1]) rfl ?_
      exact ⟨_, [], by rw [HF.out, HCD.out, HAK.out]; rfl, by rw [HF.out]; rfl, Own.nil _ _, bel_set2 HB1.out (by omega)⟩
    | true =>
      have HK4 := Lib.hid hk4
      cases hi1 : inB (-1) 99 nu with
      | false =>
        have HI1 := Lib.hid hi1
        clear hk hk4 hi1
        go_enter Tryz.func30, Tryz.ntmps30
        go_wp2_with fail
        refine (l4Asked_isM HK4.out (HR.out.below HB0.out) HS.out).mono ?_
        rintro e w1 ⟨rfl, hb1⟩
        have HB1 := Lib.hid (HB0.out.trans (hb1.mono HB0.out.size))
        have KA1 := Lib.hid (blk_step hb1 KA0.out)
        have KB1 := Lib.hid (blk_step hb1 KB0.out)
        have KZ1 := Lib.hid (blk_step hb1 KZ0.out)
        have KA1c0 : w1.cell? ⟨w.heap.size, 0, none⟩ = some (.slice o f.nodes.length c) := cell_blk KA1.out 0
        have KA1c1 : w1.cell? ⟨w.heap.size, 1, none⟩ = some (.int .i64 f.room) := cell_blk KA1.out 1
        have KB1c0 : w1.cell? ⟨w.heap.size + 1, 0, none⟩ = some (.int .i64 u) := cell_blk KB1.out 0
        have KB1c1 : w1.cell? ⟨w.heap.size + 1, 1, none⟩ = some (.int .i64 g) := cell_blk KB1.out 1
        have KZ1c0 : w1.cell? ⟨w.heap.size + 2, 0, none⟩ = some (.slice none 0 0) := cell_blk KZ1.out 0
        have KZ1c1 : w1.cell? ⟨w.heap.size + 2, 1, none⟩ = some (.int .i64 0) := cell_blk KZ1.out 1
        have KZ1f := frozen_blk KZ1.out
        clear hb1
        go_wp2_with fail
        refine (l1In_any _ _ _ _).mono ?_
        rintro e w1b ⟨rfl, rfl⟩
        rw [HI1.out]
        have hq := two_set KZ1.out (.slice none 0 0) (.int .i64 0)
        have t0 := (cell_blk hq 0).trans rfl
        have t1 := (cell_blk hq 1).trans rfl
        go_wp2
        refine bodyPost_ret (v := .tuple #[.agg #[.slice none 0 0, .int .i64 0], .int .i64 0, .bool false]) (by simp [results, Tryz.results30, go_sem, t0, t1]) rfl ?_
        exact ⟨_, [], by rw [HF.out, HCD.out, HAK.out]; rfl, by rw [HF.out]; rfl, Own.nil _ _, bel_set2 HB1.out (by omega)⟩
      | true =>
        have HI1 := Lib.hid hi1
        have HI2 : Hid (inB (-1) 99 ng = false) := Lib.hid (by unfold askOw at hk; rw [hk4, hi1] at hk; simpa using hk)
        clear hk hk4 hi1
        go_enter Tryz.func30, Tryz.ntmps30
        go_wp2_with fail
        refine (l4Asked_isM HK4.out (HR.out.below HB0.out) HS.out).mono ?_
        rintro e w1 ⟨rfl, hb1⟩
        have HB1 := Lib.hid (HB0.out.trans (hb1.mono HB0.out.size))
        have KA1 := Lib.hid (blk_step hb1 KA0.out)
        have KB1 := Lib.hid (blk_step hb1 KB0.out)
        have KZ1 := Lib.hid (blk_step hb1 KZ0.out)
        have KA1c0 : w1.cell? ⟨w.heap.size, 0, none⟩ = some (.slice o f.nodes.length c) := cell_blk KA1.out 0
        have KA1c1 : w1.cell? ⟨w.heap.size, 1, none⟩ = some (.int .i64 f.room) := cell_blk KA1.out 1
        have KB1c0 : w1.cell? ⟨w.heap.size + 1, 0, none⟩ = some (.int .i64 u) := cell_blk KB1.out 0
        have KB1c1 : w1.cell? ⟨w.heap.size + 1, 1, none⟩ = some (.int .i64 g) := cell_blk KB1.out 1
        have KZ1c0 : w1.cell? ⟨w.heap.size + 2, 0, none⟩ = some (.slice none 0 0) := cell_blk KZ1.out 0
        have KZ1c1 : w1.cell? ⟨w.heap.size + 2, 1, none⟩ = some (.int .i64 0) := cell_blk KZ1.out 1
        have KZ1f := frozen_blk KZ1.out
        clear hb1
        go_wp2_with fail
        refine (l1In_any _ _ _ _).mono ?_
        rintro e w1b ⟨rfl, rfl⟩
        rw [HI1.out]
        go_wp2_with fail
        refine (l1In_any _ _ _ _).mono ?_
        rintro e w1c ⟨rfl, rfl⟩
        rw [HI2.out]
        have hq := two_set KZ1.out (.slice none 0 0) (.int .i64 0)
        have t0 := (cell_blk hq 0).trans rfl
        have t1 := (cell_blk hq 1).trans rfl
        go_wp2
        refine bodyPost_ret (v := .tuple #[.agg #[.slice none 0 0, .int .i64 0], .int .i64 0, .bool false]) (by simp [results, Tryz.results30, go_sem, t0, t1]) rfl ?_
        exact ⟨_, [], by rw [HF.out, HCD.out, HAK.out]; rfl, by rw [HF.out]; rfl, Own.nil _ _, bel_set2 HB1.out (by omega)⟩
  | true =>
    have HAK : Hid (AK = true) := Lib.hid (by rw [hAK, hk])
    obtain ⟨hk4, hi1, hi2⟩ : askB4 f u g = true ∧ inB (-1) 99 nu = true ∧ inB (-1) 99 ng = true := by unfold askOw at hk; simpa using hk
    have HK4 := Lib.hid hk4
    have HI1 := Lib.hid hi1
    have HI2 := Lib.hid hi2
    have HL := Lib.hid (look_of (ask_good hk4) HS.out)
    obtain ⟨⟨cd, nd⟩, hfd⟩ : ∃ q, lkFind f.nodes u g s.data.toList fol = q := ⟨_, rfl⟩
    have hlt : nd < f.nodes.length := by have h7 := lkFind_lt HL.out.1 u g s.data.toList fol; rw [hfd] at h7; exact h7
    have HFD := Lib.hid hfd
    rw [hk] at hF hCD
    clear hk hk4 hAK hi1 hi2
    by_cases hc : cd = 0
    · subst hc
      obtain ⟨GV, hGV⟩ : ∃ GV, givB u g (nodeAt f.nodes nd).uid (nodeAt f.nodes nd).gid nu ng = GV := ⟨_, rfl⟩
      have HGB := Lib.hid hGV
      cases GV with
      | false =>
        have hr : givW f.nodes u g s.data.toList nu ng fol = (4, 0) := by unfold givW; rw [hfd]; simp [hGV]
        have HF : Hid (F = f) := Lib.hid (by rw [hF]; exact setF_bad (by rw [hr]; simp))
        have HCD : Hid (CD = 4) := Lib.hid (by rw [hCD, hr]; rfl)
        obtain ⟨GV, hGV2⟩ : ∃ GV, GV = false := ⟨_, rfl⟩
        rw [← hGV2] at HGB
        clear hF hCD hr hfd hGV
        go_enter Tryz.func30, Tryz.ntmps30
        go_wp2_with fail
        refine (l4Asked_isM HK4.out (HR.out.below HB0.out) HS.out).mono ?_
        rintro e w1 ⟨rfl, hb1⟩
        have HB1 := Lib.hid (HB0.out.trans (hb1.mono HB0.out.size))
        have KA1 := Lib.hid (blk_step hb1 KA0.out)
        have KB1 := Lib.hid (blk_step hb1 KB0.out)
        have KZ1 := Lib.hid (blk_step hb1 KZ0.out)
        have KA1c0 : w1.cell? ⟨w.heap.size, 0, none⟩ = some (.slice o f.nodes.length c) := cell_blk KA1.out 0
        have KA1c1 : w1.cell? ⟨w.heap.size, 1, none⟩ = some (.int .i64 f.room) := cell_blk KA1.out 1
        have KB1c0 : w1.cell? ⟨w.heap.size + 1, 0, none⟩ = some (.int .i64 u) := cell_blk KB1.out 0
        have KB1c1 : w1.cell? ⟨w.heap.size + 1, 1, none⟩ = some (.int .i64 g) := cell_blk KB1.out 1
        have KZ1c0 : w1.cell? ⟨w.heap.size + 2, 0, none⟩ = some (.slice none 0 0) := cell_blk KZ1.out 0
        have KZ1c1 : w1.cell? ⟨w.heap.size + 2, 1, none⟩ = some (.int .i64 0) := cell_blk KZ1.out 1
        have KZ1f := frozen_blk KZ1.out
        clear hb1
        go_wp2_with fail
        refine (l1In_any _ _ _ _).mono ?_
        rintro e w1b ⟨rfl, rfl⟩
        rw [HI1.out]
        go_wp2_with fail
        refine (l1In_any _ _ _ _).mono ?_
        rintro e w1c ⟨rfl, rfl⟩
        rw [HI2.out]
        go_wp2_with fail
        refine (l3Own_any f _ _ (HR.out.below HB1.out) HS.out).mono ?_
        rintro e w2 ⟨nv2, ps2, rfl, hps2, hO2, hb2⟩
        obtain ⟨oo2, cc2, rfl, -⟩ := owns_form hO2.row
        have HLN : Hid (ps2.length = f.nodes.length) := Lib.hid (by rw [← hps2]; simp)
        have hndl : nd < ps2.length := by rw [HLN.out]; exact hlt
        have hpl8 : ps2.length ≤ 1048576 := by have h9 := HLN.out; omega
        have HPS := Lib.hid hps2
        have HB2 := Lib.hid (HB1.out.trans (hb2.mono HB1.out.size))
        have KA2 := Lib.hid (blk_step hb2 KA1.out)
        have KB2 := Lib.hid (blk_step hb2 KB1.out)
        have KZ2 := Lib.hid (blk_step hb2 KZ1.out)
        have hsz1 := lt_of_heap KZ1.out
        have HO2 := Lib.hid (hO2.low (R := w.heap.size + 3) hsz1)
        have HB2a := Lib.hid (HB2.out.alloc HB2.out.size (.cells #[.slice oo2 ps2.length cc2, .int .i64 f.room] 34))
        have KO2 := Lib.hid (heap_alloc_new w2 (.cells #[.slice oo2 ps2.length cc2, .int .i64 f.room] 34))
        have HO2a := Lib.hid (HO2.out.below ((Below.refl _ w2).alloc (Nat.le_refl _) (.cells #[.slice oo2 ps2.length cc2, .int .i64 f.room] 34)))
        have KA2a := Lib.hid ((Below.heap_alloc w2 (.cells #[.slice oo2 ps2.length cc2, .int .i64 f.room] 34) _ (lt_of_heap KA2.out)).trans KA2.out)
        have KB2a := Lib.hid ((Below.heap_alloc w2 (.cells #[.slice oo2 ps2.length cc2, .int .i64 f.room] 34) _ (lt_of_heap KB2.out)).trans KB2.out)
        have KZ2a := Lib.hid ((Below.heap_alloc w2 (.cells #[.slice oo2 ps2.length cc2, .int .i64 f.room] 34) _ (lt_of_heap KZ2.out)).trans KZ2.out)
        have KA2ac0 : (w2.alloc (.cells #[.slice oo2 ps2.length cc2, .int .i64 f.room] 34)).cell? ⟨w.heap.size, 0, none⟩ = some (.slice o f.nodes.length c) := cell_blk KA2a.out 0
        have KA2ac1 : (w2.alloc (.cells #[.slice oo2 ps2.length cc2, .int .i64 f.room] 34)).cell? ⟨w.heap.size, 1, none⟩ = some (.int .i64 f.room) := cell_blk KA2a.out 1
        have KB2ac0 : (w2.alloc (.cells #[.slice oo2 ps2.length cc2, .int .i64 f.room] 34)).cell? ⟨w.heap.size + 1, 0, none⟩ = some (.int .i64 u) := cell_blk KB2a.out 0
        have KB2ac1 : (w2.alloc (.cells #[.slice oo2 ps2.length cc2, .int .i64 f.room] 34)).cell? ⟨w.heap.size + 1, 1, none⟩ = some (.int .i64 g) := cell_blk KB2a.out 1
        clear hps2 hO2 hb2
        clear KA1c0 KA1c1 KB1c0 KB1c1 KZ1c0 KZ1c1 KZ1f
        go_wp2_with fail
        refine (l4Find_isM HFD.out (HR.out.below HB2a.out) HL.out.1 HL.out.2 (by omega)).mono ?_
        rintro e w3 ⟨rfl, hb3⟩
        have HB3 := Lib.hid (HB2a.out.trans (hb3.mono HB2a.out.size))
        have KO3 := Lib.hid (blk_step hb3 KO2.out)
        have HO3 := Lib.hid (HO2a.out.below hb3)
        have KA3 := Lib.hid (blk_step hb3 KA2a.out)
        have KB3 := Lib.hid (blk_step hb3 KB2a.out)
        have KZ3 := Lib.hid (blk_step hb3 KZ2a.out)
        clear KA2ac0 KA2ac1 KB2ac0 KB2ac1
        clear hb3
        obtain ⟨g3, f3, lv3, e3, hcc, hee⟩ := nod_cells (c := c) HH.out hlt HB3.out
        obtain ⟨d0, d1, d2, d3, d4, d5, d6⟩ := hcc
        subst e3
        have hlg := World.block_lt_of_cell? w3 _ d5
        obtain ⟨nq, hnq⟩ : ∃ nq, nodeAt f.nodes nd = nq := ⟨_, rfl⟩
        rw [hnq] at d0 d1 d2 d3 d4 d5
        obtain ⟨xo, hxo⟩ : ∃ xo, bs nq.data = xo := ⟨_, rfl⟩
        rw [hxo] at d5
        have HGV : Hid (givB u g nq.uid nq.gid nu ng = GV) := Lib.hid (by rw [← hnq]; exact HGB.out)
        clear hee hxo hnq
        have HQ0 : Hid (Below w3.heap.size w3 w3) := Lib.hid (Below.refl _ _)
        have KS : Hid (∀ W, Below w3.heap.size w3 W → (fun w' => w'.cell? ⟨w.heap.size, 0, none⟩ = some (.slice (some ⟨g3, f3, none⟩) f.nodes.length c) ∧ w'.cell? ⟨w.heap.size + 1, 0, none⟩ = some (.int .i64 u) ∧ w'.cell? ⟨w.heap.size + 1, 1, none⟩ = some (.int .i64 g) ∧ w'.cell? ⟨g3, f3 + nd * 7, none⟩ = some (.int .i64 nq.kind) ∧ w'.cell? ⟨g3, f3 + nd * 7 + 1, none⟩ = some (.int .i64 nq.mode) ∧ w'.cell? ⟨g3, f3 + nd * 7 + 2, none⟩ = some (.int .i64 nq.uid) ∧ w'.cell? ⟨g3, f3 + nd * 7 + 3, none⟩ = some (.int .i64 nq.gid) ∧ w'.cell? ⟨g3, f3 + nd * 7 + 4, none⟩ = some (.int .i64 nq.time) ∧ w'.cell? ⟨g3, f3 + nd * 7 + 5, none⟩ = some (.string xo) ∧ w'.cell? ⟨g3, f3 + nd * 7 + 6, none⟩ = some (lv3)) W) := Lib.hid (fun W h => ⟨(h.cell (p := ⟨w.heap.size, 0, none⟩) (lt_of_heap KA3.out)).trans (cell_blk KA3.out 0), (h.cell (p := ⟨w.heap.size + 1, 0, none⟩) (lt_of_heap KB3.out)).trans (cell_blk KB3.out 0), (h.cell (p := ⟨w.heap.size + 1, 1, none⟩) (lt_of_heap KB3.out)).trans (cell_blk KB3.out 1), (h.cell (p := ⟨g3, f3 + nd * 7, none⟩) hlg).trans d0, (h.cell (p := ⟨g3, f3 + nd * 7 + 1, none⟩) hlg).trans d1, (h.cell (p := ⟨g3, f3 + nd * 7 + 2, none⟩) hlg).trans d2, (h.cell (p := ⟨g3, f3 + nd * 7 + 3, none⟩) hlg).trans d3, (h.cell (p := ⟨g3, f3 + nd * 7 + 4, none⟩) hlg).trans d4, (h.cell (p := ⟨g3, f3 + nd * 7 + 5, none⟩) hlg).trans d5, (h.cell (p := ⟨g3, f3 + nd * 7 + 6, none⟩) hlg).trans d6⟩)
        have HGC : Hid (∀ W, Calls Tryz.prog 61 #[.agg #[.int .i64 u, .int .i64 g], .agg #[.int .i64 nq.kind, .int .i64 nq.mode, .int .i64 nq.uid, .int .i64 nq.gid, .int .i64 nq.time, .string xo, lv3], .int .i64 nu, .int .i64 ng] W fun e w' => e = .returned (.bool GV) ∧ Below W.heap.size W w') := Lib.hid (fun W => by rw [← HGV.out]; exact l6Give_any u g nq.kind nq.mode nq.uid nq.gid nq.time xo lv3 nu ng W)
        have x3b : w3.cell? ⟨w.heap.size, 0, none⟩ = some (.slice (some ⟨g3, f3, none⟩) f.nodes.length c) := cell_blk KA3.out 0
        clear x3b d0 d1 d2 d3 d4 d5 d6
        go_wp2
        go_region_held3 (fun w' => w'.cell? ⟨w.heap.size, 0, none⟩ = some (.slice (some ⟨g3, f3, none⟩) f.nodes.length c) ∧ w'.cell? ⟨w.heap.size + 1, 0, none⟩ = some (.int .i64 u) ∧ w'.cell? ⟨w.heap.size + 1, 1, none⟩ = some (.int .i64 g) ∧ w'.cell? ⟨g3, f3 + nd * 7, none⟩ = some (.int .i64 nq.kind) ∧ w'.cell? ⟨g3, f3 + nd * 7 + 1, none⟩ = some (.int .i64 nq.mode) ∧ w'.cell? ⟨g3, f3 + nd * 7 + 2, none⟩ = some (.int .i64 nq.uid) ∧ w'.cell? ⟨g3, f3 + nd * 7 + 3, none⟩ = some (.int .i64 nq.gid) ∧ w'.cell? ⟨g3, f3 + nd * 7 + 4, none⟩ = some (.int .i64 nq.time) ∧ w'.cell? ⟨g3, f3 + nd * 7 + 5, none⟩ = some (.string xo) ∧ w'.cell? ⟨g3, f3 + nd * 7 + 6, none⟩ = some (lv3)) (first | exact KS.out _ (by (first | (with_reducible exact HQ0.out) | (with_reducible exact bel_dr HQ0.out) | (with_reducible exact HQ5.out) | (with_reducible exact bel_dr HQ5.out))))
          (first | (go_at_call 61; (with_reducible refine (HGC.out _).mono ?_); rintro e w5 ⟨rfl, hb5⟩; have HQ5 := Lib.hid (bel_both (w := w3) (by (first | (with_reducible exact HQ0.out) | (with_reducible exact bel_dr HQ0.out))) hb5).2; clear hb5))
        have HB5 := Lib.hid (bel_step HB3.out HQ5.out)
        have KO5 := Lib.hid (blk_step HQ5.out KO3.out)
        have HO5 := Lib.hid (HO3.out.below HQ5.out)
        have KZ5 := Lib.hid (blk_step HQ5.out KZ3.out)
        have KZ5c0 : w5.cell? ⟨w.heap.size + 2, 0, none⟩ = some (.slice none 0 0) := cell_blk KZ5.out 0
        have KZ5c1 : w5.cell? ⟨w.heap.size + 2, 1, none⟩ = some (.int .i64 0) := cell_blk KZ5.out 1
        have KZ5f := frozen_blk KZ5.out
        have ko0 : w5.cell? ⟨w2.heap.size, 0, none⟩ = some (.slice oo2 ps2.length cc2) := cell_blk KO5.out 0
        have ko1 : w5.cell? ⟨w2.heap.size, 1, none⟩ = some (.int .i64 f.room) := cell_blk KO5.out 1
        subst hGV2
        go_wp2
        have hq := two_set KZ5.out (.slice oo2 ps2.length cc2) (.int .i64 f.room)
        have t0 := (cell_blk hq 0).trans rfl
        have t1 := (cell_blk hq 1).trans rfl
        refine bodyPost_ret (v := .tuple #[.agg #[(.slice oo2 ps2.length cc2), .int .i64 f.room], .int .i64 4, .bool true]) (by simp [results, Tryz.results30, go_sem, t0, t1]) rfl ?_
        have hA9 : Own _ w.heap.size _ _ := ((HO5.out.besides (b := w.heap.size + 2) (by omega) 0 (.slice oo2 ps2.length cc2)).besides (b := w.heap.size + 2) (by omega) 1 (.int .i64 f.room)).low (by omega)
        have hB9 := bel_set2 (G := w.heap.size + 2) (x := (.slice oo2 ps2.length cc2)) (y := .int .i64 f.room) HB5.out (by omega)
        first
          | exact ⟨_, ps2, by rw [HF.out, HCD.out, HAK.out], by rw [HF.out]; exact HPS.out, hA9, hB9⟩
          | exact ⟨_, by rw [HF.out, HCD.out, HAK.out], ps2, by rw [HF.out]; exact HPS.out, hA9, hB9⟩
      | true =>
        have hr : givW f.nodes u g s.data.toList nu ng fol = (0, nd) := by unfold givW; rw [hfd]; simp [hGV]
        have HF : Hid (F = ⟨f.nodes.set nd (givN nu ng (nodeAt f.nodes nd)), f.room⟩) := Lib.hid (by rw [hF, hr]; rfl)
        have HCD : Hid (CD = 0) := Lib.hid (by rw [hCD, hr]; rfl)
        obtain ⟨GV, hGV2⟩ : ∃ GV, GV = true := ⟨_, rfl⟩
        rw [← hGV2] at HGB
        clear hF hCD hr hfd hGV
        go_enter Tryz.func30, Tryz.ntmps30
        go_wp2_with fail
        refine (l4Asked_isM HK4.out (HR.out.below HB0.out) HS.out).mono ?_
        rintro e w1 ⟨rfl, hb1⟩
        have HB1 := Lib.hid (HB0.out.trans (hb1.mono HB0.out.size))
        have KA1 := Lib.hid (blk_step hb1 KA0.out)
        have KB1 := Lib.hid (blk_step hb1 KB0.out)
        have KZ1 := Lib.hid (blk_step hb1 KZ0.out)
        have KA1c0 : w1.cell? ⟨w.heap.size, 0, none⟩ = some (.slice o f.nodes.length c) := cell_blk KA1.out 0
        have KA1c1 : w1.cell? ⟨w.heap.size, 1, none⟩ = some (.int .i64 f.room) := cell_blk KA1.out 1
        have KB1c0 : w1.cell? ⟨w.heap.size + 1, 0, none⟩ = some (.int .i64 u) := cell_blk KB1.out 0
        have KB1c1 : w1.cell? ⟨w.heap.size + 1, 1, none⟩ = some (.int .i64 g) := cell_blk KB1.out 1
        have KZ1c0 : w1.cell? ⟨w.heap.size + 2, 0, none⟩ = some (.slice none 0 0) := cell_blk KZ1.out 0
        have KZ1c1 : w1.cell? ⟨w.heap.size + 2, 1, none⟩ = some (.int .i64 0) := cell_blk KZ1.out 1
        have KZ1f := frozen_blk KZ1.out
        clear hb1
        go_wp2_with fail
        refine (l1In_any _ _ _ _).mono ?_
        rintro e w1b ⟨rfl, rfl⟩
        rw [HI1.out]
        go_wp2_with fail
        refine (l1In_any _ _ _ _).mono ?_
        rintro e w1c ⟨rfl, rfl⟩
        rw [HI2.out]
        go_wp2_with fail
        refine (l3Own_any f _ _ (HR.out.below HB1.out) HS.out).mono ?_
        rintro e w2 ⟨nv2, ps2, rfl, hps2, hO2, hb2⟩
        obtain ⟨oo2, cc2, rfl, -⟩ := owns_form hO2.row
        have HLN : Hid (ps2.length = f.nodes.length) := Lib.hid (by rw [← hps2]; simp)
        have hndl : nd < ps2.length := by rw [HLN.out]; exact hlt
        have hpl8 : ps2.length ≤ 1048576 := by have h9 := HLN.out; omega
        have HPS := Lib.hid hps2
        have HB2 := Lib.hid (HB1.out.trans (hb2.mono HB1.out.size))
        have KA2 := Lib.hid (blk_step hb2 KA1.out)
        have KB2 := Lib.hid (blk_step hb2 KB1.out)
        have KZ2 := Lib.hid (blk_step hb2 KZ1.out)
        have hsz1 := lt_of_heap KZ1.out
        have HO2 := Lib.hid (hO2.low (R := w.heap.size + 3) hsz1)
        have HB2a := Lib.hid (HB2.out.alloc HB2.out.size (.cells #[.slice oo2 ps2.length cc2, .int .i64 f.room] 34))
        have KO2 := Lib.hid (heap_alloc_new w2 (.cells #[.slice oo2 ps2.length cc2, .int .i64 f.room] 34))
        have HO2a := Lib.hid (HO2.out.below ((Below.refl _ w2).alloc (Nat.le_refl _) (.cells #[.slice oo2 ps2.length cc2, .int .i64 f.room] 34)))
        have KA2a := Lib.hid ((Below.heap_alloc w2 (.cells #[.slice oo2 ps2.length cc2, .int .i64 f.room] 34) _ (lt_of_heap KA2.out)).trans KA2.out)
        have KB2a := Lib.hid ((Below.heap_alloc w2 (.cells #[.slice oo2 ps2.length cc2, .int .i64 f.room] 34) _ (lt_of_heap KB2.out)).trans KB2.out)
        have KZ2a := Lib.hid ((Below.heap_alloc w2 (.cells #[.slice oo2 ps2.length cc2, .int .i64 f.room] 34) _ (lt_of_heap KZ2.out)).trans KZ2.out)
        have KA2ac0 : (w2.alloc (.cells #[.slice oo2 ps2.length cc2, .int .i64 f.room] 34)).cell? ⟨w.heap.size, 0, none⟩ = some (.slice o f.nodes.length c) := cell_blk KA2a.out 0
        have KA2ac1 : (w2.alloc (.cells #[.slice oo2 ps2.length cc2, .int .i64 f.room] 34)).cell? ⟨w.heap.size, 1, none⟩ = some (.int .i64 f.room) := cell_blk KA2a.out 1
        have KB2ac0 : (w2.alloc (.cells #[.slice oo2 ps2.length cc2, .int .i64 f.room] 34)).cell? ⟨w.heap.size + 1, 0, none⟩ = some (.int .i64 u) := cell_blk KB2a.out 0
        have KB2ac1 : (w2.alloc (.cells #[.slice oo2 ps2.length cc2, .int .i64 f.room] 34)).cell? ⟨w.heap.size + 1, 1, none⟩ = some (.int .i64 g) := cell_blk KB2a.out 1
        clear hps2 hO2 hb2
        clear KA1c0 KA1c1 KB1c0 KB1c1 KZ1c0 KZ1c1 KZ1f
        go_wp2_with fail
        refine (l4Find_isM HFD.out (HR.out.below HB2a.out) HL.out.1 HL.out.2 (by omega)).mono ?_
        rintro e w3 ⟨rfl, hb3⟩
        have HB3 := Lib.hid (HB2a.out.trans (hb3.mono HB2a.out.size))
        have KO3 := Lib.hid (blk_step hb3 KO2.out)
        have HO3 := Lib.hid (HO2a.out.below hb3)
        have KA3 := Lib.hid (blk_step hb3 KA2a.out)
        have KB3 := Lib.hid (blk_step hb3 KB2a.out)
        have KZ3 := Lib.hid (blk_step hb3 KZ2a.out)
        clear KA2ac0 KA2ac1 KB2ac0 KB2ac1
        clear hb3
        obtain ⟨g3, f3, lv3, e3, hcc, hee⟩ := nod_cells (c := c) HH.out hlt HB3.out
        obtain ⟨d0, d1, d2, d3, d4, d5, d6⟩ := hcc
        subst e3
        have hlg := World.block_lt_of_cell? w3 _ d5
        obtain ⟨nq, hnq⟩ : ∃ nq, nodeAt f.nodes nd = nq := ⟨_, rfl⟩
        rw [hnq] at d0 d1 d2 d3 d4 d5
        obtain ⟨xo, hxo⟩ : ∃ xo, bs nq.data = xo := ⟨_, rfl⟩
        rw [hxo] at d5
        have HGV : Hid (givB u g nq.uid nq.gid nu ng = GV) := Lib.hid (by rw [← hnq]; exact HGB.out)
        clear hee hxo hnq
        have HQ0 : Hid (Below w3.heap.size w3 w3) := Lib.hid (Below.refl _ _)
        have KS : Hid (∀ W, Below w3.heap.size w3 W → (fun w' => w'.cell? ⟨w.heap.size, 0, none⟩ = some (.slice (some ⟨g3, f3, none⟩) f.nodes.length c) ∧ w'.cell? ⟨w.heap.size + 1, 0, none⟩ = some (.int .i64 u) ∧ w'.cell? ⟨w.heap.size + 1, 1, none⟩ = some (.int .i64 g) ∧ w'.cell? ⟨g3, f3 + nd * 7, none⟩ = some (.int .i64 nq.kind) ∧ w'.cell? ⟨g3, f3 + nd * 7 + 1, none⟩ = some (.int .i64 nq.mode) ∧ w'.cell? ⟨g3, f3 + nd * 7 + 2, none⟩ = some (.int .i64 nq.uid) ∧ w'.cell? ⟨g3, f3 + nd * 7 + 3, none⟩ = some (.int .i64 nq.gid) ∧ w'.cell? ⟨g3, f3 + nd * 7 + 4, none⟩ = some (.int .i64 nq.time) ∧ w'.cell? ⟨g3, f3 + nd * 7 + 5, none⟩ = some (.string xo) ∧ w'.cell? ⟨g3, f3 + nd * 7 + 6, none⟩ = some (lv3)) W) := Lib.hid (fun W h => ⟨(h.cell (p := ⟨w.heap.size, 0, none⟩) (lt_of_heap KA3.out)).trans (cell_blk KA3.out 0), (h.cell (p := ⟨w.heap.size + 1, 0, none⟩) (lt_of_heap KB3.out)).trans (cell_blk KB3.out 0), (h.cell (p := ⟨w.heap.size + 1, 1, none⟩) (lt_of_heap KB3.out)).trans (cell_blk KB3.out 1), (h.cell (p := ⟨g3, f3 + nd * 7, none⟩) hlg).trans d0, (h.cell (p := ⟨g3, f3 + nd * 7 + 1, none⟩) hlg).trans d1, (h.cell (p := ⟨g3, f3 + nd * 7 + 2, none⟩) hlg).trans d2, (h.cell (p := ⟨g3, f3 + nd * 7 + 3, none⟩) hlg).trans d3, (h.cell (p := ⟨g3, f3 + nd * 7 + 4, none⟩) hlg).trans d4, (h.cell (p := ⟨g3, f3 + nd * 7 + 5, none⟩) hlg).trans d5, (h.cell (p := ⟨g3, f3 + nd * 7 + 6, none⟩) hlg).trans d6⟩)
        have HGC : Hid (∀ W, Calls Tryz.prog 61 #[.agg #[.int .i64 u, .int .i64 g], .agg #[.int .i64 nq.kind, .int .i64 nq.mode, .int .i64 nq.uid, .int .i64 nq.gid, .int .i64 nq.time, .string xo, lv3], .int .i64 nu, .int .i64 ng] W fun e w' => e = .returned (.bool GV) ∧ Below W.heap.size W w') := Lib.hid (fun W => by rw [← HGV.out]; exact l6Give_any u g nq.kind nq.mode nq.uid nq.gid nq.time xo lv3 nu ng W)
        have x3b : w3.cell? ⟨w.heap.size, 0, none⟩ = some (.slice (some ⟨g3, f3, none⟩) f.nodes.length c) := cell_blk KA3.out 0
        clear x3b d0 d1 d2 d3 d4 d5 d6
        go_wp2
        go_region_held3 (fun w' => w'.cell? ⟨w.heap.size, 0, none⟩ = some (.slice (some ⟨g3, f3, none⟩) f.nodes.length c) ∧ w'.cell? ⟨w.heap.size + 1, 0, none⟩ = some (.int .i64 u) ∧ w'.cell? ⟨w.heap.size + 1, 1, none⟩ = some (.int .i64 g) ∧ w'.cell? ⟨g3, f3 + nd * 7, none⟩ = some (.int .i64 nq.kind) ∧ w'.cell? ⟨g3, f3 + nd * 7 + 1, none⟩ = some (.int .i64 nq.mode) ∧ w'.cell? ⟨g3, f3 + nd * 7 + 2, none⟩ = some (.int .i64 nq.uid) ∧ w'.cell? ⟨g3, f3 + nd * 7 + 3, none⟩ = some (.int .i64 nq.gid) ∧ w'.cell? ⟨g3, f3 + nd * 7 + 4, none⟩ = some (.int .i64 nq.time) ∧ w'.cell? ⟨g3, f3 + nd * 7 + 5, none⟩ = some (.string xo) ∧ w'.cell? ⟨g3, f3 + nd * 7 + 6, none⟩ = some (lv3)) (first | exact KS.out _ (by (first | (with_reducible exact HQ0.out) | (with_reducible exact bel_dr HQ0.out) | (with_reducible exact HQ5.out) | (with_reducible exact bel_dr HQ5.out))))
          (first | (go_at_call 61; (with_reducible refine (HGC.out _).mono ?_); rintro e w5 ⟨rfl, hb5⟩; have HQ5 := Lib.hid (bel_both (w := w3) (by (first | (with_reducible exact HQ0.out) | (with_reducible exact bel_dr HQ0.out))) hb5).2; clear hb5))
        have HB5 := Lib.hid (bel_step HB3.out HQ5.out)
        have KO5 := Lib.hid (blk_step HQ5.out KO3.out)
        have HO5 := Lib.hid (HO3.out.below HQ5.out)
        have KZ5 := Lib.hid (blk_step HQ5.out KZ3.out)
        have KZ5c0 : w5.cell? ⟨w.heap.size + 2, 0, none⟩ = some (.slice none 0 0) := cell_blk KZ5.out 0
        have KZ5c1 : w5.cell? ⟨w.heap.size + 2, 1, none⟩ = some (.int .i64 0) := cell_blk KZ5.out 1
        have KZ5f := frozen_blk KZ5.out
        have ko0 : w5.cell? ⟨w2.heap.size, 0, none⟩ = some (.slice oo2 ps2.length cc2) := cell_blk KO5.out 0
        have ko1 : w5.cell? ⟨w2.heap.size, 1, none⟩ = some (.int .i64 f.room) := cell_blk KO5.out 1
        subst hGV2
        obtain ⟨g9, cap9, e9, hRg, hgl, hn9, hm9, hc9, hfr9⟩ := HO5.out.at hndl
        simp only [Value.slice.injEq, true_and] at e9
        obtain ⟨rfl, rfl⟩ := e9
        have HPN := Lib.hid (at_map HPS.out hndl)
        have hlt9 : g9 < w2.heap.size := HO2.out.ltE.1 g9 (by simp [Value.ownBlock])
        obtain ⟨ol, cl, e8, -⟩ := owns_form (HO5.out.ent _ (List.getElem_mem hndl))
        obtain ⟨nl, hnl⟩ : ∃ nl, (ps2[nd]'hndl).1.list.length = nl := ⟨_, rfl⟩
        rw [hnl] at e8
        have HE8 := Lib.hid e8
        obtain ⟨px, hpx⟩ : ∃ px, (ps2[nd]'hndl).1 = px := ⟨_, rfl⟩
        have HPX := Lib.hid hpx
        obtain ⟨xd, hxd⟩ : ∃ xd, bs px.data = xd := ⟨_, rfl⟩
        have HXD := Lib.hid hxd
        have b0 := hc9.c0
        have b1 := hc9.c1
        have b2 := hc9.c2
        have b3 := hc9.c3
        have b4 := hc9.c4
        have b5 := hc9.c5
        have b6 := hc9.c6
        rw [e8] at b6
        rw [hpx] at b0 b1 b2 b3 b4 b5
        rw [hxd] at b5
        have HC0 : Hid (∀ W, Below w5.heap.size w5 W → W.cell? ⟨g9, nd * 7, none⟩ = some (.int .i64 px.kind) ∧ W.cell? ⟨g9, nd * 7 + 1, none⟩ = some (.int .i64 px.mode) ∧ W.cell? ⟨g9, nd * 7 + 2, none⟩ = some (.int .i64 px.uid) ∧ W.cell? ⟨g9, nd * 7 + 3, none⟩ = some (.int .i64 px.gid) ∧ W.cell? ⟨g9, nd * 7 + 4, none⟩ = some (.int .i64 px.time) ∧ W.cell? ⟨g9, nd * 7 + 5, none⟩ = some (.string xd) ∧ W.cell? ⟨g9, nd * 7 + 6, none⟩ = some (.slice ol nl cl)) := Lib.hid (fun W h => ⟨(h.cell (p := ⟨g9, nd * 7, none⟩) hgl).trans b0, (h.cell (p := ⟨g9, nd * 7 + 1, none⟩) hgl).trans b1, (h.cell (p := ⟨g9, nd * 7 + 2, none⟩) hgl).trans b2, (h.cell (p := ⟨g9, nd * 7 + 3, none⟩) hgl).trans b3, (h.cell (p := ⟨g9, nd * 7 + 4, none⟩) hgl).trans b4, (h.cell (p := ⟨g9, nd * 7 + 5, none⟩) hgl).trans b5, (h.cell (p := ⟨g9, nd * 7 + 6, none⟩) hgl).trans b6⟩)
        have HFR : Hid (∀ W, Below w5.heap.size w5 W → ∀ j, W.frozen? ⟨g9, j, none⟩ = false) := Lib.hid (fun W h j => by rw [World.frozen?_of_block (a := ⟨g9, j, none⟩) (h.block g9 hgl)]; exact hfr9 j)
        have HQB : Hid (Below w5.heap.size w5 w5.drew) := Lib.hid (Below.refl _ w5).drew
        clear hc9 e8 hnl hpx hxd
        go_wp2
        go_region_with (first | (go_at_call 62; (with_reducible refine (l6Owned_any px.kind px.mode px.uid px.gid px.time xd ol nl cl nu ng _).mono ?_); rintro e w6 ⟨rfl, hb6⟩; have HQ6 := Lib.hid (bel_step HQB.out hb6); obtain ⟨f0, f1, f2, f3x, f4, f5, f6⟩ := HC0.out _ HQ6.out; have ff := HFR.out _ HQ6.out; have hko6 := blk_step HQ6.out KO5.out; have ko60 : w6.cell? ⟨w2.heap.size, 0, none⟩ = some (.slice (some ⟨g9, 0, none⟩) ps2.length cc2) := cell_blk hko6 0; clear hb6 hko6))
        all_goals
          have HBL := Lib.hid (bel_row (i := nd) (bel_step HB5.out HQ6.out) (show w.heap.size ≤ g9 by omega) (.int .i64 px.kind) (.int .i64 px.mode) (.int .i64 (newU nu px.uid)) (.int .i64 (newU ng px.gid)) (.int .i64 px.time) (.string xd) (.slice ol nl cl))
          have HW9 : Hid (Own (((((((w6.setCell ⟨g9, nd * 7, none⟩ (.int .i64 px.kind)).setCell ⟨g9, nd * 7 + 1, none⟩ (.int .i64 px.mode)).setCell ⟨g9, nd * 7 + 2, none⟩ (.int .i64 (newU nu px.uid))).setCell ⟨g9, nd * 7 + 3, none⟩ (.int .i64 (newU ng px.gid))).setCell ⟨g9, nd * 7 + 4, none⟩ (.int .i64 px.time)).setCell ⟨g9, nd * 7 + 5, none⟩ (.string xd)).setCell ⟨g9, nd * 7 + 6, none⟩ (.slice ol nl cl)) (w.heap.size + 3) (.slice (some ⟨g9, 0, none⟩) ps2.length cc2) (ps2.set nd (givN nu ng (ps2[nd]'hndl).1, (ps2[nd]'hndl).2))) := Lib.hid (by
            have h := (HO5.out.below HQ6.out).turn7 hndl (givN nu ng (ps2[nd]'hndl).1) rfl
            rw [HE8.out] at h
            rw [HE8.out, ← HXD.out, ← HPX.out]
            exact h)
          have hKO9 := (row_ne (w := w6) (g := g9) (i := nd) (b := w2.heap.size) (by omega) (.int .i64 px.kind) (.int .i64 px.mode) (.int .i64 (newU nu px.uid)) (.int .i64 (newU ng px.gid)) (.int .i64 px.time) (.string xd) (.slice ol nl cl)).trans (blk_step HQ6.out KO5.out)
          have HK9 := Lib.hid ((row_ne (w := w6) (g := g9) (i := nd) (b := w.heap.size + 2) (by omega) (.int .i64 px.kind) (.int .i64 px.mode) (.int .i64 (newU nu px.uid)) (.int .i64 (newU ng px.gid)) (.int .i64 px.time) (.string xd) (.slice ol nl cl)).trans (blk_step HQ6.out KZ5.out))
          obtain ⟨W9, hW9⟩ : ∃ W9, (((((((w6.setCell ⟨g9, nd * 7, none⟩ (.int .i64 px.kind)).setCell ⟨g9, nd * 7 + 1, none⟩ (.int .i64 px.mode)).setCell ⟨g9, nd * 7 + 2, none⟩ (.int .i64 (newU nu px.uid))).setCell ⟨g9, nd * 7 + 3, none⟩ (.int .i64 (newU ng px.gid))).setCell ⟨g9, nd * 7 + 4, none⟩ (.int .i64 px.time)).setCell ⟨g9, nd * 7 + 5, none⟩ (.string xd)).setCell ⟨g9, nd * 7 + 6, none⟩ (.slice ol nl cl)) = W9 := ⟨_, rfl⟩
          rw [hW9] at HBL HW9 hKO9 HK9
          have HWE := Lib.hid hW9
          clear hW9
          have ko90 : W9.cell? ⟨w2.heap.size, 0, none⟩ = some (.slice (some ⟨g9, 0, none⟩) ps2.length cc2) := cell_blk hKO9 0
          have ko91 : W9.cell? ⟨w2.heap.size, 1, none⟩ = some (.int .i64 f.room) := cell_blk hKO9 1
          have kz90 : W9.cell? ⟨w.heap.size + 2, 0, none⟩ = some (.slice none 0 0) := cell_blk HK9.out 0
          have kz91 : W9.cell? ⟨w.heap.size + 2, 1, none⟩ = some (.int .i64 0) := cell_blk HK9.out 1
          have kz9f := frozen_blk HK9.out
          clear hKO9
          rw [HWE.out]
          go_wp2
          have hq := two_set HK9.out (.slice (some ⟨g9, 0, none⟩) ps2.length cc2) (.int .i64 f.room)
          have t0 := (cell_blk hq 0).trans rfl
          have t1 := (cell_blk hq 1).trans rfl
          refine bodyPost_ret (v := .tuple #[.agg #[(.slice (some ⟨g9, 0, none⟩) ps2.length cc2), .int .i64 f.room], .int .i64 0, .bool true]) (by simp [results, Tryz.results30, go_sem, t0, t1]) rfl ?_
          have hA9 : Own _ w.heap.size _ _ := ((HW9.out.besides (b := w.heap.size + 2) (by omega) 0 (.slice (some ⟨g9, 0, none⟩) ps2.length cc2)).besides (b := w.heap.size + 2) (by omega) 1 (.int .i64 f.room)).low (by omega)
          have hB9 := bel_set2 (G := w.heap.size + 2) (x := (.slice (some ⟨g9, 0, none⟩) ps2.length cc2)) (y := .int .i64 f.room) HBL.out (by omega)
          first
            | exact ⟨_, (ps2.set nd (givN nu ng (ps2[nd]'hndl).1, (ps2[nd]'hndl).2)), by rw [HF.out, HCD.out, HAK.out], by rw [HF.out, map_turn HPS.out, HPN.out], hA9, hB9⟩
            | exact ⟨_, by rw [HF.out, HCD.out, HAK.out], (ps2.set nd (givN nu ng (ps2[nd]'hndl).1, (ps2[nd]'hndl).2)), by rw [HF.out, map_turn HPS.out, HPN.out], hA9, hB9⟩
    · have hr : givW f.nodes u g s.data.toList nu ng fol = (cd, 0) := by unfold givW; rw [hfd]; simp [hc]
      have HF : Hid (F = f) := Lib.hid (by rw [hF]; exact setF_bad (by rw [hr]; exact hc))
      have HCD : Hid (CD = cd) := Lib.hid (by rw [hCD, hr]; rfl)
      have hcb : (cd != 0) = true := by rw [bne_iff_ne]; exact hc
      clear hF hCD hr hfd hc
      go_enter Tryz.func30, Tryz.ntmps30
      go_wp2_with fail
      refine (l4Asked_isM HK4.out (HR.out.below HB0.out) HS.out).mono ?_
      rintro e w1 ⟨rfl, hb1⟩
      have HB1 := Lib.hid (HB0.out.trans (hb1.mono HB0.out.size))
      have KA1 := Lib.hid (blk_step hb1 KA0.out)
      have KB1 := Lib.hid (blk_step hb1 KB0.out)
      have KZ1 := Lib.hid (blk_step hb1 KZ0.out)
      have KA1c0 : w1.cell? ⟨w.heap.size, 0, none⟩ = some (.slice o f.nodes.length c) := cell_blk KA1.out 0
      have KA1c1 : w1.cell? ⟨w.heap.size, 1, none⟩ = some (.int .i64 f.room) := cell_blk KA1.out 1
      have KB1c0 : w1.cell? ⟨w.heap.size + 1, 0, none⟩ = some (.int .i64 u) := cell_blk KB1.out 0
      have KB1c1 : w1.cell? ⟨w.heap.size + 1, 1, none⟩ = some (.int .i64 g) := cell_blk KB1.out 1
      have KZ1c0 : w1.cell? ⟨w.heap.size + 2, 0, none⟩ = some (.slice none 0 0) := cell_blk KZ1.out 0
      have KZ1c1 : w1.cell? ⟨w.heap.size + 2, 1, none⟩ = some (.int .i64 0) := cell_blk KZ1.out 1
      have KZ1f := frozen_blk KZ1.out
      clear hb1
      go_wp2_with fail
      refine (l1In_any _ _ _ _).mono ?_
      rintro e w1b ⟨rfl, rfl⟩
      rw [HI1.out]
      go_wp2_with fail
      refine (l1In_any _ _ _ _).mono ?_
      rintro e w1c ⟨rfl, rfl⟩
      rw [HI2.out]
      go_wp2_with fail
      refine (l3Own_any f _ _ (HR.out.below HB1.out) HS.out).mono ?_
      rintro e w2 ⟨nv2, ps2, rfl, hps2, hO2, hb2⟩
      obtain ⟨oo2, cc2, rfl, -⟩ := owns_form hO2.row
      have HLN : Hid (ps2.length = f.nodes.length) := Lib.hid (by rw [← hps2]; simp)
      have hndl : nd < ps2.length := by rw [HLN.out]; exact hlt
      have hpl8 : ps2.length ≤ 1048576 := by have h9 := HLN.out; omega
      have HPS := Lib.hid hps2
      have HB2 := Lib.hid (HB1.out.trans (hb2.mono HB1.out.size))
      have KA2 := Lib.hid (blk_step hb2 KA1.out)
      have KB2 := Lib.hid (blk_step hb2 KB1.out)
      have KZ2 := Lib.hid (blk_step hb2 KZ1.out)
      have hsz1 := lt_of_heap KZ1.out
      have HO2 := Lib.hid (hO2.low (R := w.heap.size + 3) hsz1)
      have HB2a := Lib.hid (HB2.out.alloc HB2.out.size (.cells #[.slice oo2 ps2.length cc2, .int .i64 f.room] 34))
      have KO2 := Lib.hid (heap_alloc_new w2 (.cells #[.slice oo2 ps2.length cc2, .int .i64 f.room] 34))
      have HO2a := Lib.hid (HO2.out.below ((Below.refl _ w2).alloc (Nat.le_refl _) (.cells #[.slice oo2 ps2.length cc2, .int .i64 f.room] 34)))
      have KA2a := Lib.hid ((Below.heap_alloc w2 (.cells #[.slice oo2 ps2.length cc2, .int .i64 f.room] 34) _ (lt_of_heap KA2.out)).trans KA2.out)
      have KB2a := Lib.hid ((Below.heap_alloc w2 (.cells #[.slice oo2 ps2.length cc2, .int .i64 f.room] 34) _ (lt_of_heap KB2.out)).trans KB2.out)
      have KZ2a := Lib.hid ((Below.heap_alloc w2 (.cells #[.slice oo2 ps2.length cc2, .int .i64 f.room] 34) _ (lt_of_heap KZ2.out)).trans KZ2.out)
      have KA2ac0 : (w2.alloc (.cells #[.slice oo2 ps2.length cc2, .int .i64 f.room] 34)).cell? ⟨w.heap.size, 0, none⟩ = some (.slice o f.nodes.length c) := cell_blk KA2a.out 0
      have KA2ac1 : (w2.alloc (.cells #[.slice oo2 ps2.length cc2, .int .i64 f.room] 34)).cell? ⟨w.heap.size, 1, none⟩ = some (.int .i64 f.room) := cell_blk KA2a.out 1
      have KB2ac0 : (w2.alloc (.cells #[.slice oo2 ps2.length cc2, .int .i64 f.room] 34)).cell? ⟨w.heap.size + 1, 0, none⟩ = some (.int .i64 u) := cell_blk KB2a.out 0
      have KB2ac1 : (w2.alloc (.cells #[.slice oo2 ps2.length cc2, .int .i64 f.room] 34)).cell? ⟨w.heap.size + 1, 1, none⟩ = some (.int .i64 g) := cell_blk KB2a.out 1
      clear hps2 hO2 hb2
      clear KA1c0 KA1c1 KB1c0 KB1c1 KZ1c0 KZ1c1 KZ1f
      go_wp2_with fail
      refine (l4Find_isM HFD.out (HR.out.below HB2a.out) HL.out.1 HL.out.2 (by omega)).mono ?_
      rintro e w3 ⟨rfl, hb3⟩
      have HB3 := Lib.hid (HB2a.out.trans (hb3.mono HB2a.out.size))
      have KO3 := Lib.hid (blk_step hb3 KO2.out)
      have HO3 := Lib.hid (HO2a.out.below hb3)
      have KA3 := Lib.hid (blk_step hb3 KA2a.out)
      have KB3 := Lib.hid (blk_step hb3 KB2a.out)
      have KZ3 := Lib.hid (blk_step hb3 KZ2a.out)
      clear KA2ac0 KA2ac1 KB2ac0 KB2ac1
      clear hb3
      have ko0 : w3.cell? ⟨w2.heap.size, 0, none⟩ = some (.slice oo2 ps2.length cc2) := cell_blk KO3.out 0
      have ko1 : w3.cell? ⟨w2.heap.size, 1, none⟩ = some (.int .i64 f.room) := cell_blk KO3.out 1
      have KZ3c0 : w3.cell? ⟨w.heap.size + 2, 0, none⟩ = some (.slice none 0 0) := cell_blk KZ3.out 0
      have KZ3c1 : w3.cell? ⟨w.heap.size + 2, 1, none⟩ = some (.int .i64 0) := cell_blk KZ3.out 1
      have KZ3f := frozen_blk KZ3.out
      go_wp2
      have hq := two_set KZ3.out (.slice oo2 ps2.length cc2) (.int .i64 f.room)
      have t0 := (cell_blk hq 0).trans rfl
      have t1 := (cell_blk hq 1).trans rfl
      refine bodyPost_ret (v := .tuple #[.agg #[(.slice oo2 ps2.length cc2), .int .i64 f.room], .int .i64 cd, .bool true]) (by simp [results, Tryz.results30, go_sem, t0, t1]) rfl ?_
      have hA9 : Own _ w.heap.size _ _ := ((HO3.out.besides (b := w.heap.size + 2) (by omega) 0 (.slice oo2 ps2.length cc2)).besides (b := w.heap.size + 2) (by omega) 1 (.int .i64 f.room)).low (by omega)
      have hB9 := bel_set2 (G := w.heap.size + 2) (x := (.slice oo2 ps2.length cc2)) (y := .int .i64 f.room) HB3.out (by omega)
      first
        | exact ⟨_, ps2, by rw [HF.out, HCD.out, HAK.out], by rw [HF.out]; exact HPS.out, hA9, hB9⟩
        | exact ⟨_, by rw [HF.out, HCD.out, HAK.out], ps2, by rw [HF.out]; exact HPS.out, hA9, hB9⟩
end Go.Proofs.YtpkmkpeabfmbiaaGreatDoor


/-
  giveNode in one contract; SetOwner of the program.
  Conditions: at most 2^20 values and letters together; a text of at most 2^20 bytes; the variable errors.errorType as the program's text lays it.
-/
namespace Go.Proofs.YtpkmkpeabfmbiaaGreatDoor
open Go.ChangeShapes Go.WideShapes Go.ChangeAt Go.RowKit Go.Joins Go.Shelf
set_option linter.unusedVariables false
set_option linter.unusedSimpArgs false

theorem giveNode_yes (u g nu ng : Int) (h1 : -1 ≤ nu) (h2 : -1 ≤ ng) (R gg cc nd : Nat) (ps : List (Nod × Value)) (w1 : World) (hO : Own w1 R (.slice (some ⟨gg, 0, none⟩) ps.length cc) ps) (hnd : nd < ps.length) (hx : 0 ≤ ps[nd].1.uid) (hy : 0 ≤ ps[nd].1.gid) (hg : givB u g ps[nd].1.uid ps[nd].1.gid nu ng = true) : Calls Tryz.prog 66 #[.pointer (some ⟨gg, nd * 7, none⟩), .agg #[.int .i64 u, .int .i64 g], .int .i64 nu, .int .i64 ng] w1 fun e w' => e = .returned (.nilIface) ∧ Below R w1 w' ∧ (∀ i, i ≠ gg → i < w1.heap.size → w'.heap[i]? = w1.heap[i]?) ∧ Own w' R (.slice (some ⟨gg, 0, none⟩) ps.length cc) (ps.set nd (givN nu ng ps[nd].1, (ps[nd]).2)) := by
  have hh := (giv_is h1 h2 hx hy).1 hg
  by_cases hnu : nu = -1
  · by_cases hng : ng = -1
    · rw [newU_at h1, if_pos hnu, newU_at h2, if_pos hng] at hh
      by_cases h0 : u = 0
      · exact give_yes1_00 u g nu ng _ _ R gg cc nd ps w1 hO hnd rfl rfl (bne_eq_false_iff_eq.2 hnu) (bne_eq_false_iff_eq.2 hng) (bne_eq_false_iff_eq.2 h0) (by rw [newU_at h1, if_pos hnu]) (by rw [newU_at h2, if_pos hng])
      · rcases hh with h | ⟨h, hh⟩
        · exact absurd h h0
        · exact give_yes2_00 u g nu ng _ _ R gg cc nd ps w1 hO hnd rfl rfl (bne_eq_false_iff_eq.2 hnu) (bne_eq_false_iff_eq.2 hng) (bne_iff_ne.2 h0) (bne_eq_false_iff_eq.2 h) (by simp) (by simp) (by rw [newU_at h1, if_pos hnu]) (by rw [newU_at h2, if_pos hng])
    · rw [newU_at h1, if_pos hnu, newU_at h2, if_neg hng] at hh
      by_cases h0 : u = 0
      · exact give_yes1_01 u g nu ng _ _ R gg cc nd ps w1 hO hnd rfl rfl (bne_eq_false_iff_eq.2 hnu) (bne_iff_ne.2 hng) (bne_eq_false_iff_eq.2 h0) (by rw [newU_at h1, if_pos hnu]) (by rw [newU_at h2, if_neg hng])
      · rcases hh with h | ⟨h, hh⟩
        · exact absurd h h0
        · by_cases h9 : ng = ps[nd].1.gid
          · exact give_yes2_01 u g nu ng _ _ R gg cc nd ps w1 hO hnd rfl rfl (bne_eq_false_iff_eq.2 hnu) (bne_iff_ne.2 hng) (bne_iff_ne.2 h0) (bne_eq_false_iff_eq.2 h) (by simp) (beq_iff_eq.2 (by omega)) (by rw [newU_at h1, if_pos hnu]) (by rw [newU_at h2, if_neg hng])
          · exact give_yes3_01 u g nu ng _ _ R gg cc nd ps w1 hO hnd rfl rfl (bne_eq_false_iff_eq.2 hnu) (bne_iff_ne.2 hng) (bne_iff_ne.2 h0) (bne_eq_false_iff_eq.2 h) (by simp) (beq_eq_false_iff_ne.2 h9) (beq_iff_eq.2 (by omega)) (beq_iff_eq.2 (by omega)) (by rw [newU_at h1, if_pos hnu]) (by rw [newU_at h2, if_neg hng])
  · by_cases hng : ng = -1
    · rw [newU_at h1, if_neg hnu, newU_at h2, if_pos hng] at hh
      by_cases h0 : u = 0
      · exact give_yes1_10 u g nu ng _ _ R gg cc nd ps w1 hO hnd rfl rfl (bne_iff_ne.2 hnu) (bne_eq_false_iff_eq.2 hng) (bne_eq_false_iff_eq.2 h0) (by rw [newU_at h1, if_neg hnu]) (by rw [newU_at h2, if_pos hng])
      · rcases hh with h | ⟨h, hh⟩
        · exact absurd h h0
        · exact give_yes2_10 u g nu ng _ _ R gg cc nd ps w1 hO hnd rfl rfl (bne_iff_ne.2 hnu) (bne_eq_false_iff_eq.2 hng) (bne_iff_ne.2 h0) (bne_eq_false_iff_eq.2 h) (beq_iff_eq.2 (by omega)) (by simp) (by rw [newU_at h1, if_neg hnu]) (by rw [newU_at h2, if_pos hng])
    · rw [newU_at h1, if_neg hnu, newU_at h2, if_neg hng] at hh
      by_cases h0 : u = 0
      · exact give_yes1_11 u g nu ng _ _ R gg cc nd ps w1 hO hnd rfl rfl (bne_iff_ne.2 hnu) (bne_iff_ne.2 hng) (bne_eq_false_iff_eq.2 h0) (by rw [newU_at h1, if_neg hnu]) (by rw [newU_at h2, if_neg hng])
      · rcases hh with h | ⟨h, hh⟩
        · exact absurd h h0
        · by_cases h9 : ng = ps[nd].1.gid
          · exact give_yes2_11 u g nu ng _ _ R gg cc nd ps w1 hO hnd rfl rfl (bne_iff_ne.2 hnu) (bne_iff_ne.2 hng) (bne_iff_ne.2 h0) (bne_eq_false_iff_eq.2 h) (beq_iff_eq.2 (by omega)) (beq_iff_eq.2 (by omega)) (by rw [newU_at h1, if_neg hnu]) (by rw [newU_at h2, if_neg hng])
          · exact give_yes3_11 u g nu ng _ _ R gg cc nd ps w1 hO hnd rfl rfl (bne_iff_ne.2 hnu) (bne_iff_ne.2 hng) (bne_iff_ne.2 h0) (bne_eq_false_iff_eq.2 h) (beq_iff_eq.2 (by omega)) (beq_eq_false_iff_ne.2 h9) (beq_iff_eq.2 (by omega)) (beq_iff_eq.2 (by omega)) (by rw [newU_at h1, if_neg hnu]) (by rw [newU_at h2, if_neg hng])
theorem giveNode_no (u g nu ng : Int) (h1 : -1 ≤ nu) (h2 : -1 ≤ ng) (R gg cc nd : Nat) (ps : List (Nod × Value)) (w1 : World) (hO : Own w1 R (.slice (some ⟨gg, 0, none⟩) ps.length cc) ps) (hnd : nd < ps.length) (hx : 0 ≤ ps[nd].1.uid) (hy : 0 ≤ ps[nd].1.gid) (hg : givB u g ps[nd].1.uid ps[nd].1.gid nu ng = false) : Calls Tryz.prog 66 #[.pointer (some ⟨gg, nd * 7, none⟩), .agg #[.int .i64 u, .int .i64 g], .int .i64 nu, .int .i64 ng] w1 fun e w' => e = .returned (errC 4) ∧ Below R w1 w' ∧ (∀ i, i ≠ gg → i < w1.heap.size → w'.heap[i]? = w1.heap[i]?) ∧ Own w' R (.slice (some ⟨gg, 0, none⟩) ps.length cc) (ps.set nd (ps[nd].1, (ps[nd]).2)) := by
  have hh : ¬ (u = 0 ∨ (u = ps[nd].1.uid ∧ ((newU nu ps[nd].1.uid = ps[nd].1.uid ∧ newU ng ps[nd].1.gid = ps[nd].1.gid) ∨ (newU nu ps[nd].1.uid = u ∧ newU ng ps[nd].1.gid = g)))) := fun q => absurd ((giv_is h1 h2 hx hy).2 q) (by rw [hg]; decide)
  by_cases hnu : nu = -1
  · by_cases hng : ng = -1
    · have hh2 : ¬ (u = ps[nd].1.uid ∧ (((ps[nd].1.uid) = ps[nd].1.uid ∧ (ps[nd].1.gid) = ps[nd].1.gid) ∨ ((ps[nd].1.uid) = u ∧ (ps[nd].1.gid) = g))) := fun q => hh (.inr (by rw [newU_at h1, if_pos hnu, newU_at h2, if_pos hng]; exact q))
      have h0 : u ≠ 0 := fun h => hh (.inl h)
      by_cases h : u = ps[nd].1.uid
      · exact absurd ⟨h, .inl ⟨rfl, rfl⟩⟩ hh2
      · exact give_no1_00 u g nu ng _ _ R gg cc nd ps w1 hO hnd rfl rfl (bne_eq_false_iff_eq.2 hnu) (bne_eq_false_iff_eq.2 hng) (bne_iff_ne.2 h0) (bne_iff_ne.2 h)
    · have hh2 : ¬ (u = ps[nd].1.uid ∧ (((ps[nd].1.uid) = ps[nd].1.uid ∧ ng = ps[nd].1.gid) ∨ ((ps[nd].1.uid) = u ∧ ng = g))) := fun q => hh (.inr (by rw [newU_at h1, if_pos hnu, newU_at h2, if_neg hng]; exact q))
      have h0 : u ≠ 0 := fun h => hh (.inl h)
      by_cases h : u = ps[nd].1.uid
      · exact give_no3_01 u g nu ng _ _ R gg cc nd ps w1 hO hnd rfl rfl (bne_eq_false_iff_eq.2 hnu) (bne_iff_ne.2 hng) (bne_iff_ne.2 h0) (bne_eq_false_iff_eq.2 h) (by simp) (beq_iff_eq.2 (by omega)) (beq_eq_false_iff_ne.2 (fun q => hh2 ⟨h, .inl ⟨rfl, q⟩⟩)) (beq_eq_false_iff_ne.2 (fun q => hh2 ⟨h, .inr ⟨by omega, q⟩⟩))
      · exact give_no1_01 u g nu ng _ _ R gg cc nd ps w1 hO hnd rfl rfl (bne_eq_false_iff_eq.2 hnu) (bne_iff_ne.2 hng) (bne_iff_ne.2 h0) (bne_iff_ne.2 h)
  · by_cases hng : ng = -1
    · have hh2 : ¬ (u = ps[nd].1.uid ∧ ((nu = ps[nd].1.uid ∧ (ps[nd].1.gid) = ps[nd].1.gid) ∨ (nu = u ∧ (ps[nd].1.gid) = g))) := fun q => hh (.inr (by rw [newU_at h1, if_neg hnu, newU_at h2, if_pos hng]; exact q))
      have h0 : u ≠ 0 := fun h => hh (.inl h)
      by_cases h : u = ps[nd].1.uid
      · by_cases h8 : nu = ps[nd].1.uid
        · exact absurd ⟨h, .inl ⟨h8, rfl⟩⟩ hh2
        · exact give_no2_10 u g nu ng _ _ R gg cc nd ps w1 hO hnd rfl rfl (bne_iff_ne.2 hnu) (bne_eq_false_iff_eq.2 hng) (bne_iff_ne.2 h0) (bne_eq_false_iff_eq.2 h) (beq_eq_false_iff_ne.2 h8) (beq_eq_false_iff_ne.2 (by rw [h]; exact h8))
      · exact give_no1_10 u g nu ng _ _ R gg cc nd ps w1 hO hnd rfl rfl (bne_iff_ne.2 hnu) (bne_eq_false_iff_eq.2 hng) (bne_iff_ne.2 h0) (bne_iff_ne.2 h)
    · have hh2 : ¬ (u = ps[nd].1.uid ∧ ((nu = ps[nd].1.uid ∧ ng = ps[nd].1.gid) ∨ (nu = u ∧ ng = g))) := fun q => hh (.inr (by rw [newU_at h1, if_neg hnu, newU_at h2, if_neg hng]; exact q))
      have h0 : u ≠ 0 := fun h => hh (.inl h)
      by_cases h : u = ps[nd].1.uid
      · by_cases h8 : nu = ps[nd].1.uid
        · exact give_no3_11 u g nu ng _ _ R gg cc nd ps w1 hO hnd rfl rfl (bne_iff_ne.2 hnu) (bne_iff_ne.2 hng) (bne_iff_ne.2 h0) (bne_eq_false_iff_eq.2 h) (beq_iff_eq.2 (by omega)) (beq_iff_eq.2 (by omega)) (beq_eq_false_iff_ne.2 (fun q => hh2 ⟨h, .inl ⟨h8, q⟩⟩)) (beq_eq_false_iff_ne.2 (fun q => hh2 ⟨h, .inr ⟨by omega, q⟩⟩))
        · exact give_no2_11 u g nu ng _ _ R gg cc nd ps w1 hO hnd rfl rfl (bne_iff_ne.2 hnu) (bne_iff_ne.2 hng) (bne_iff_ne.2 h0) (bne_eq_false_iff_eq.2 h) (beq_eq_false_iff_ne.2 h8) (beq_eq_false_iff_ne.2 (by rw [h]; exact h8))
      · exact give_no1_11 u g nu ng _ _ R gg cc nd ps w1 hO hnd rfl rfl (bne_iff_ne.2 hnu) (bne_iff_ne.2 hng) (bne_iff_ne.2 h0) (bne_iff_ne.2 h)
set_option maxHeartbeats 2000000 in
theorem setOwner1_says (w0 : World) (cb ub gb : Nat) (u g nu ng : Int) (h1 : -1 ≤ nu) (h2 : -1 ≤ ng) (hC : w0.heap[cb]? = some (.cells #[.int .i64 u, .int .i64 g] 36)) (hU : w0.heap[ub]? = some (.cells #[.int .i64 nu] 3)) (hG : w0.heap[gb]? = some (.cells #[.int .i64 ng] 3)) (nd : Nat) (nq q : Nod) (E : Value)
    (hx : 0 ≤ nq.uid) (hy : 0 ≤ nq.gid) (hv : (givB u g nq.uid nq.gid nu ng = true ∧ q = givN nu ng nq ∧ E = .nilIface) ∨ (givB u g nq.uid nq.gid nu ng = false ∧ q = nq ∧ E = errC 4)) :
    SetSays w0 65 #[.pointer (some ⟨cb, 0, none⟩), .pointer (some ⟨ub, 0, none⟩), .pointer (some ⟨gb, 0, none⟩)] nd nq q E := by
  intro w1 R gg cc ps hb hR hO hnd hq
  have c0 : w1.cell? ⟨cb, 0, none⟩ = some (.int .i64 u) := cell_blk (blk_step hb hC) 0
  have c1 : w1.cell? ⟨cb, 1, none⟩ = some (.int .i64 g) := cell_blk (blk_step hb hC) 1
  have c2 : w1.cell? ⟨ub, 0, none⟩ = some (.int .i64 nu) := cell_blk (blk_step hb hU) 0
  have c3 : w1.cell? ⟨gb, 0, none⟩ = some (.int .i64 ng) := cell_blk (blk_step hb hG) 0
  have HCALL : Hid (Calls Tryz.prog 66 #[.pointer (some ⟨gg, nd * 7, none⟩), .agg #[.int .i64 u, .int .i64 g], .int .i64 nu, .int .i64 ng] w1 fun e w' => e = .returned E ∧ Below R w1 w' ∧ (∀ i, i ≠ gg → i < w1.heap.size → w'.heap[i]? = w1.heap[i]?) ∧ Own w' R (.slice (some ⟨gg, 0, none⟩) ps.length cc) (ps.set nd (q, (ps[nd]).2))) := Lib.hid (by
    subst hq
    rcases hv with ⟨hv, rfl, rfl⟩ | ⟨hv, rfl, rfl⟩
    · exact giveNode_yes u g nu ng h1 h2 R gg cc nd ps w1 hO hnd hx hy hv
    · exact giveNode_no u g nu ng h1 h2 R gg cc nd ps w1 hO hnd hx hy hv)
  clear hb hO hq hv hC hU hG hx hy
  show Calls _ _ #[_, _, _, _] _ _
  go_enter Tryz.func65, Tryz.ntmps65
  go_wp2_with fail
  refine HCALL.out.mono ?_
  rintro e w6 ⟨rfl, hb6, hu6, hO6⟩
  have HB6 := Lib.hid hb6
  have HU6 := Lib.hid hu6
  have HO6 := Lib.hid hO6
  clear hb6 hu6 hO6 c0 c1 c2 c3
  go_wp2
  go_ret
  exact ⟨rfl, HB6.out, HU6.out, HO6.out⟩
set_option maxHeartbeats 1000000 in
theorem isIdOrSame_any (n : Int) (w : World) : Calls Tryz.prog 63 #[.int .i64 n] w fun e w' => e = .returned (.bool (inB (-1) 99 n)) ∧ w = w' := by
  cases h : (n == -1)
  · have h9 : n ≠ -1 := beq_eq_false_iff_ne.1 h
    have HV : Hid (inB (-1) 99 n = inB 0 99 n) := Lib.hid (by rw [Bool.eq_iff_iff]; simp [inB]; omega)
    go_enter Tryz.func63, Tryz.ntmps63
    go_wp2_with (go_at_call 99; refine (isId_any _ _).mono ?_; rintro e w' ⟨rfl, rfl⟩)
    all_goals
      go_ret
      exact ⟨ret_bool (by rw [HV.out]), rfl⟩
  · have h9 : n = -1 := beq_iff_eq.1 h
    subst h9
    go_enter Tryz.func63, Tryz.ntmps63
    go_wp2
    go_ret
    exact ⟨ret_bool (by decide), rfl⟩
theorem al5t (w : World) (a b c d e : Obj) : let W := ((((w.alloc a).alloc b).alloc c).alloc d).alloc e
    W.heap[w.heap.size]? = some a ∧ W.heap[w.heap.size + 1]? = some b ∧ W.heap[w.heap.size + 2]? = some c ∧ W.heap[w.heap.size + 3]? = some d ∧ W.heap[w.heap.size + 4]? = some e := by
  have s : ∀ (w : World) (o : Obj) (i : Nat) (z : Obj), w.heap[i]? = some z → (w.alloc o).heap[i]? = some z := fun w o i z h => (Below.heap_alloc w o i (lt_of_heap h)).trans h
  have n : ∀ (w : World) (o : Obj) (i : Nat), i = w.heap.size → (w.alloc o).heap[i]? = some o := fun w o i h => by rw [h]; exact heap_alloc_new w o
  exact ⟨s _ _ _ _ (s _ _ _ _ (s _ _ _ _ (s _ _ _ _ (n _ _ _ rfl)))), s _ _ _ _ (s _ _ _ _ (s _ _ _ _ (n _ _ _ (by simp)))), s _ _ _ _ (s _ _ _ _ (n _ _ _ (by simp))), s _ _ _ _ (n _ _ _ (by simp)), n _ _ _ (by simp)⟩
theorem bel5t (w : World) (a b c d e : Obj) : Below w.heap.size w (((((w.alloc a).alloc b).alloc c).alloc d).alloc e) := bel_al (bel_al (bel_al (bel_al (bel_al (Below.refl _ w)))))
set_option maxHeartbeats 2000000 in
/-- setAt with SetOwner's closure. -/
theorem setAt_give (f : FsD) (v : Value) (u g : Int) (s : ByteArray) (nu ng : Int) (fol : Bool) (cb ub gb : Nat) (w : World) (hR : FsA w v f) (hs : szF f ≤ 1048576) (hss : s.size ≤ 1048576) (hE : ErrT w) (hC : w.heap[cb]? = some (.cells #[.int .i64 u, .int .i64 g] 36)) (hU : w.heap[ub]? = some (.cells #[.int .i64 nu] 3)) (hG : w.heap[gb]? = some (.cells #[.int .i64 ng] 3)) (hi1 : inB (-1) 99 nu = true) (hi2 : inB (-1) 99 ng = true) :
    Calls Tryz.prog 64 #[v, .agg #[.int .i64 u, .int .i64 g], .string s, .bool fol, .func (.func 65) #[] #[.pointer (some ⟨cb, 0, none⟩), .pointer (some ⟨ub, 0, none⟩), .pointer (some ⟨gb, 0, none⟩)]] w fun e w' => FsAns w (setF (askOw f u g nu ng) f (givW f.nodes u g s.data.toList nu ng fol) (givN nu ng)).nodes (setF (askOw f u g nu ng) f (givW f.nodes u g s.data.toList nu ng fol) (givN nu ng)).room (setC (askOw f u g nu ng) (givW f.nodes u g s.data.toList nu ng fol)) (askOw f u g nu ng) e w' := by
  have HCL := enters_of Tryz.func65 (by kernel_rfl) rfl
  have h1 := (inB_t hi1).1
  have h2 := (inB_t hi2).1
  cases hk : askB4 f u g with
  | false =>
    have hA : (askOw f u g nu ng) = false := by unfold askOw; rw [hk]; rfl
    rw [hA]
    exact setAt_no f v u g s fol _ _ w hR hs hss hE hk
  | true =>
    have hA : (askOw f u g nu ng) = true := by unfold askOw; rw [hk, hi1, hi2]; rfl
    rw [hA]
    have HL := look_of (ask_good hk) hs
    obtain ⟨⟨cd, nd⟩, hfd⟩ : ∃ q, lkFind f.nodes u g s.data.toList fol = q := ⟨_, rfl⟩
    have hlt : nd < f.nodes.length := by have h7 := lkFind_lt HL.1 u g s.data.toList fol; rw [hfd] at h7; exact h7
    obtain ⟨-, ha2, ha3⟩ := node_attr (ask_good hk) hlt
    have hx := (inB_t ha2).1
    have hy := (inB_t ha3).1
    by_cases hc : cd = 0
    · subst hc
      cases hv : givB u g (nodeAt f.nodes nd).uid (nodeAt f.nodes nd).gid nu ng with
      | false =>
        have hr : givW f.nodes u g s.data.toList nu ng fol = (4, 0) := by unfold givW; rw [hfd]; simp [hv]
        rw [hr, setF_bad (by simp)]
        exact setAt_not f v u g s fol _ _ w hR hs hss hE hk nd hfd hlt _ HCL 4 (by decide) (setOwner1_says w cb ub gb u g nu ng h1 h2 hC hU hG nd _ _ _ hx hy (.inr ⟨hv, rfl, rfl⟩))
      | true =>
        have hr : givW f.nodes u g s.data.toList nu ng fol = (0, nd) := by unfold givW; rw [hfd]; simp [hv]
        rw [hr, setF_yes]
        exact setAt_go f v u g s fol _ _ w hR hs hss hE hk nd hfd hlt _ HCL (setOwner1_says w cb ub gb u g nu ng h1 h2 hC hU hG nd _ _ _ hx hy (.inl ⟨hv, rfl, rfl⟩))
    · have hr : givW f.nodes u g s.data.toList nu ng fol = (cd, 0) := by unfold givW; rw [hfd]; simp [hc]
      rw [hr, setF_bad (by simpa using hc)]
      exact setAt_bad f v u g s fol _ _ w hR hs hss hE hk cd nd hfd hc

set_option maxRecDepth 100000 in
set_option maxHeartbeats 2000000 in
theorem setOwner_any (f : FsD) (v : Value) (u g : Int) (s : ByteArray) (nu ng : Int) (fol : Bool) (w : World) (hR : FsA w v f) (hs : szF f ≤ 1048576) (hss : s.size ≤ 1048576) (hE : ErrT w) :
    Calls Tryz.prog 31 #[v, .agg #[.int .i64 u, .int .i64 g], .string s, .int .i64 nu, .int .i64 ng, .bool fol] w fun e w' => FsAns w (setF (askOw f u g nu ng) f (givW f.nodes u g s.data.toList nu ng fol) (givN nu ng)).nodes (setF (askOw f u g nu ng) f (givW f.nodes u g s.data.toList nu ng fol) (givN nu ng)).room (setC (askOw f u g nu ng) (givW f.nodes u g s.data.toList nu ng fol)) (askOw f u g nu ng) e w' := by
  have hmf : ∀ (fn : Fn) (first cap : Array Value) (w : World), (Instr.makeFunc fn first cap).run Tryz.prog w = .ok (.func fn first cap) w := fun _ _ _ _ => rfl
  unfold FsAns
  have HR := Lib.hid hR
  have HS := Lib.hid hs
  have HSS := Lib.hid hss
  have HET := Lib.hid hE
  cases hi1 : inB (-1) 99 nu with
  | false =>
    have HI1 := Lib.hid hi1
    have hA : (askOw f u g nu ng) = false := by unfold askOw; rw [hi1]; simp
    rw [hA]
    show Calls _ _ _ _ fun e w' => ∃ nv ps, e = .returned (.tuple #[.agg #[nv, .int .i64 0], .int .i64 0, .bool false]) ∧ ps.map Prod.fst = [] ∧ Own w' w.heap.size nv ps ∧ Below w.heap.size w w'
    obtain ⟨nv, rfl, hN⟩ := hR
    obtain ⟨o, c, rfl, -, -⟩ := hN
    have HB6 := Lib.hid (bel5t w (.cells #[.slice o f.nodes.length c, .int .i64 f.room] 34) (.cells #[.int .i64 u, .int .i64 g] 36) (.cells #[.int .i64 nu] 3) (.cells #[.int .i64 ng] 3) (.cells #[.slice none 0 0, .int .i64 0] 34))
    obtain ⟨k0, k1, k2, k3, k4⟩ := al5t w (.cells #[.slice o f.nodes.length c, .int .i64 f.room] 34) (.cells #[.int .i64 u, .int .i64 g] 36) (.cells #[.int .i64 nu] 3) (.cells #[.int .i64 ng] 3) (.cells #[.slice none 0 0, .int .i64 0] 34)
    have K1 := Lib.hid k1
    have K2 := Lib.hid k2
    have K3 := Lib.hid k3
    have KZ := Lib.hid k4
    have HSZ : Hid ((((((w.alloc (.cells #[.slice o f.nodes.length c, .int .i64 f.room] 34)).alloc (.cells #[.int .i64 u, .int .i64 g] 36)).alloc (.cells #[.int .i64 nu] 3)).alloc (.cells #[.int .i64 ng] 3)).alloc (.cells #[.slice none 0 0, .int .i64 0] 34)).heap.size = w.heap.size + 5) := Lib.hid (by simp)
    have HR6 := Lib.hid (HR.out.below HB6.out)
    have HE6 := Lib.hid (HET.out.below HB6.out HET.out.1)
    clear hs hss hE k0 k1 k2 k3 k4 hi1 hA
    go_enter Tryz.func31, Tryz.ntmps31
    go_wp2_with fail
    refine (isIdOrSame_any _ _).mono ?_
    rintro e w1 ⟨rfl, rfl⟩
    rw [HI1.out]
    have HB9 := Lib.hid (bel_set2 (G := w.heap.size + 4) (x := .slice none 0 0) (y := .int .i64 0) HB6.out (by omega))
    go_wp2
    refine bodyPost_ret (v := .tuple #[.agg #[.slice none 0 0, .int .i64 0], .int .i64 0, .bool false]) (by simp [results, Tryz.results31, go_sem]) rfl ?_
    first
      | exact ⟨_, [], rfl, rfl, Own.nil _ _, by first | exact HB9.out | exact bel_al (bel_al (bel_al (bel_al (bel_al (Below.refl _ w)))))⟩
      | exact ⟨_, rfl, [], rfl, Own.nil _ _, by first | exact HB9.out | exact bel_al (bel_al (bel_al (bel_al (bel_al (Below.refl _ w)))))⟩
  | true =>
  cases hi2 : inB (-1) 99 ng with
  | false =>
    have HI1 := Lib.hid hi1
    have HI2 := Lib.hid hi2
    have hA : (askOw f u g nu ng) = false := by unfold askOw; rw [hi2]; simp
    rw [hA]
    show Calls _ _ _ _ fun e w' => ∃ nv ps, e = .returned (.tuple #[.agg #[nv, .int .i64 0], .int .i64 0, .bool false]) ∧ ps.map Prod.fst = [] ∧ Own w' w.heap.size nv ps ∧ Below w.heap.size w w'
    obtain ⟨nv, rfl, hN⟩ := hR
    obtain ⟨o, c, rfl, -, -⟩ := hN
    have HB6 := Lib.hid (bel5t w (.cells #[.slice o f.nodes.length c, .int .i64 f.room] 34) (.cells #[.int .i64 u, .int .i64 g] 36) (.cells #[.int .i64 nu] 3) (.cells #[.int .i64 ng] 3) (.cells #[.slice none 0 0, .int .i64 0] 34))
    obtain ⟨k0, k1, k2, k3, k4⟩ := al5t w (.cells #[.slice o f.nodes.length c, .int .i64 f.room] 34) (.cells #[.int .i64 u, .int .i64 g] 36) (.cells #[.int .i64 nu] 3) (.cells #[.int .i64 ng] 3) (.cells #[.slice none 0 0, .int .i64 0] 34)
    have K1 := Lib.hid k1
    have K2 := Lib.hid k2
    have K3 := Lib.hid k3
    have KZ := Lib.hid k4
    have HSZ : Hid ((((((w.alloc (.cells #[.slice o f.nodes.length c, .int .i64 f.room] 34)).alloc (.cells #[.int .i64 u, .int .i64 g] 36)).alloc (.cells #[.int .i64 nu] 3)).alloc (.cells #[.int .i64 ng] 3)).alloc (.cells #[.slice none 0 0, .int .i64 0] 34)).heap.size = w.heap.size + 5) := Lib.hid (by simp)
    have HR6 := Lib.hid (HR.out.below HB6.out)
    have HE6 := Lib.hid (HET.out.below HB6.out HET.out.1)
    clear hs hss hE k0 k1 k2 k3 k4 hi1 hi2 hA
    go_enter Tryz.func31, Tryz.ntmps31
    go_wp2_with fail
    refine (isIdOrSame_any _ _).mono ?_
    rintro e w1 ⟨rfl, rfl⟩
    rw [HI1.out]
    go_wp2_with fail
    refine (isIdOrSame_any _ _).mono ?_
    rintro e w1 ⟨rfl, rfl⟩
    rw [HI2.out]
    have HB9 := Lib.hid (bel_set2 (G := w.heap.size + 4) (x := .slice none 0 0) (y := .int .i64 0) HB6.out (by omega))
    go_wp2
    refine bodyPost_ret (v := .tuple #[.agg #[.slice none 0 0, .int .i64 0], .int .i64 0, .bool false]) (by simp [results, Tryz.results31, go_sem]) rfl ?_
    first
      | exact ⟨_, [], rfl, rfl, Own.nil _ _, by first | exact HB9.out | exact bel_al (bel_al (bel_al (bel_al (bel_al (Below.refl _ w)))))⟩
      | exact ⟨_, rfl, [], rfl, Own.nil _ _, by first | exact HB9.out | exact bel_al (bel_al (bel_al (bel_al (bel_al (Below.refl _ w)))))⟩
  | true =>
    have HI1 := Lib.hid hi1
    have HI2 := Lib.hid hi2
    obtain ⟨F, hF⟩ : ∃ F, (setF (askOw f u g nu ng) f (givW f.nodes u g s.data.toList nu ng fol) (givN nu ng)) = F := ⟨_, rfl⟩
    obtain ⟨CD, hCD⟩ : ∃ C, (setC (askOw f u g nu ng) (givW f.nodes u g s.data.toList nu ng fol)) = C := ⟨_, rfl⟩
    obtain ⟨AK, hAK⟩ : ∃ A, (askOw f u g nu ng) = A := ⟨_, rfl⟩
    have HCALL : Hid (∀ (cb ub gb : Nat) (W : World) (v9 : Value), FsA W v9 f → ErrT W → W.heap[cb]? = some (.cells #[.int .i64 u, .int .i64 g] 36) → W.heap[ub]? = some (.cells #[.int .i64 nu] 3) → W.heap[gb]? = some (.cells #[.int .i64 ng] 3) →
        Calls Tryz.prog 64 #[v9, .agg #[.int .i64 u, .int .i64 g], .string s, .bool fol, .func (.func 65) #[] #[.pointer (some ⟨cb, 0, none⟩), .pointer (some ⟨ub, 0, none⟩), .pointer (some ⟨gb, 0, none⟩)]] W fun e w' => ∃ nv ps, e = .returned (.tuple #[.agg #[nv, .int .i64 F.room], .int .i64 CD, .bool AK]) ∧ ps.map Prod.fst = F.nodes ∧ Own w' W.heap.size nv ps ∧ Below W.heap.size W w') := Lib.hid (fun cb ub gb W v9 h2 h3 h4 h5 h6 => by
      have hq := setAt_give f v9 u g s nu ng fol cb ub gb W h2 HS.out HSS.out h3 h4 h5 h6 hi1 hi2
      rw [hF, hCD, hAK] at hq
      exact hq)
    rw [hF, hCD, hAK]
    obtain ⟨nv, rfl, hN⟩ := hR
    obtain ⟨o, c, rfl, -, -⟩ := hN
    have HB6 := Lib.hid (bel5t w (.cells #[.slice o f.nodes.length c, .int .i64 f.room] 34) (.cells #[.int .i64 u, .int .i64 g] 36) (.cells #[.int .i64 nu] 3) (.cells #[.int .i64 ng] 3) (.cells #[.slice none 0 0, .int .i64 0] 34))
    obtain ⟨k0, k1, k2, k3, k4⟩ := al5t w (.cells #[.slice o f.nodes.length c, .int .i64 f.room] 34) (.cells #[.int .i64 u, .int .i64 g] 36) (.cells #[.int .i64 nu] 3) (.cells #[.int .i64 ng] 3) (.cells #[.slice none 0 0, .int .i64 0] 34)
    have K1 := Lib.hid k1
    have K2 := Lib.hid k2
    have K3 := Lib.hid k3
    have KZ := Lib.hid k4
    have HSZ : Hid ((((((w.alloc (.cells #[.slice o f.nodes.length c, .int .i64 f.room] 34)).alloc (.cells #[.int .i64 u, .int .i64 g] 36)).alloc (.cells #[.int .i64 nu] 3)).alloc (.cells #[.int .i64 ng] 3)).alloc (.cells #[.slice none 0 0, .int .i64 0] 34)).heap.size = w.heap.size + 5) := Lib.hid (by simp)
    have HR6 := Lib.hid (HR.out.below HB6.out)
    have HE6 := Lib.hid (HET.out.below HB6.out HET.out.1)
    clear hs hss hE k0 k1 k2 k3 k4 hF hCD hAK hi1 hi2
    go_enter Tryz.func31, Tryz.ntmps31
    go_wp2_with fail
    refine (isIdOrSame_any _ _).mono ?_
    rintro e w1 ⟨rfl, rfl⟩
    rw [HI1.out]
    go_wp2_with fail
    refine (isIdOrSame_any _ _).mono ?_
    rintro e w1 ⟨rfl, rfl⟩
    rw [HI2.out]
    go_wp2_with fail
    refine (HCALL.out (w.heap.size + 1) (w.heap.size + 2) (w.heap.size + 3) _ _ HR6.out HE6.out K1.out K2.out K3.out).mono ?_
    rintro e w2 ⟨nv2, ps2, rfl, hps2, hO2, hb2⟩
    obtain ⟨oo2, cc2, rfl, -⟩ := owns_form hO2.row
    have HB2 := Lib.hid (bel_step HB6.out hb2)
    have KZ2 := Lib.hid (blk_step hb2 KZ.out)
    have HPS := Lib.hid hps2
    have hsz := HSZ.out
    have HO2 := Lib.hid (hO2.low (R := w.heap.size + 5) (Nat.le_of_eq hsz.symm))
    have z0 := (cell_blk KZ2.out 0).trans rfl
    have z1 := (cell_blk KZ2.out 1).trans rfl
    have zf := frozen_blk KZ2.out
    have hq := two_set KZ2.out (.slice oo2 ps2.length cc2) (.int .i64 F.room)
    have t0 := (cell_blk hq 0).trans rfl
    have t1 := (cell_blk hq 1).trans rfl
    have HA9 : Hid (Own _ w.heap.size _ _) := Lib.hid (((HO2.out.besides (b := w.heap.size + 4) (by omega) 0 (.slice oo2 ps2.length cc2)).besides (b := w.heap.size + 4) (by omega) 1 (.int .i64 F.room)).low (by omega))
    have HB9 := Lib.hid (bel_set2 (G := w.heap.size + 4) (x := .slice oo2 ps2.length cc2) (y := .int .i64 F.room) HB2.out (by omega))
    clear hps2 hO2 hb2 hq
    go_wp2
    refine bodyPost_ret (v := .tuple #[.agg #[.slice oo2 ps2.length cc2, .int .i64 F.room], .int .i64 CD, .bool AK]) (by simp [results, Tryz.results31, go_sem, t0, t1]) rfl ?_
    first
      | exact ⟨_, ps2, rfl, HPS.out, HA9.out, HB9.out⟩
      | exact ⟨_, rfl, ps2, HPS.out, HA9.out, HB9.out⟩
end Go.Proofs.YtpkmkpeabfmbiaaGreatDoor
