/-
  Joined: StatC StatD.
  Conditions: as each states.
-/
import Derived.Test.YtpkmkpeabfmbiaaGreatDoorLib21

/-
  StatOf of the model and of the program.
  Conditions: at most 2^20 values and letters together; a text of at most 2^20 bytes; the variable errors.errorType as the program's text lays it.
-/
namespace Go.Proofs.YtpkmkpeabfmbiaaGreatDoor
open Go.ChangeShapes Go.WideShapes Go.ChangeAt Go.RowKit Go.Joins
set_option linter.unusedVariables false
set_option linter.unusedSimpArgs false

/-- What StatOf tells, number by number. -/
noncomputable def stS (f : FsD) (u g : Int) (l : List UInt8) (fol : Bool) : Nat → Int := if askB4 f u g = true ∧ (lkFind f.nodes u g l fol).1 = 0 then stI f.nodes (lkFind f.nodes u g l fol).2 else fun _ => 0
theorem l4Find_isS {f : FsD} {v : Value} {u g : Int} {s : ByteArray} {fol : Bool} {w : World} {cd : Int} {nd : Nat} (h : lkFind f.nodes u g s.data.toList fol = (cd, nd)) (hR : FsA w v f) (hF : LookFs f) (hLL : LinkLen f.nodes) (hs : s.size ≤ 1073741824) :
    Calls Tryz.prog 36 #[v, .agg #[.int .i64 u, .int .i64 g], .string s, .bool fol] w fun e w' => e = .returned (.tuple #[.int .i64 (nd : Int), .int .i64 cd]) ∧ Below w.heap.size w w' := by
  have := l4Find_any f v u g s fol w hR hF hLL hs
  rw [h] at this
  exact this
theorem l4Asked_isS {f : FsD} {v : Value} {u g : Int} {w : World} {b : Bool} (h : askB4 f u g = b) (hR : FsA w v f) (hs : szF f ≤ 1048576) : Calls Tryz.prog 35 #[v, .agg #[.int .i64 u, .int .i64 g]] w fun e w' => e = .returned (.bool b) ∧ Below w.heap.size w w' := by
  rw [← h]; exact l4Asked_any f v u g w hR hs
theorem statOfNode_is {f : FsD} {v : Value} {nd : Nat} {w : World} {F : Nat → Int} (h : stI f.nodes nd = F) (hR : FsA w v f) (hs : szF f ≤ 1048576) (hlt : nd < f.nodes.length) (hg : goodF f = true) : Calls Tryz.prog 50 #[v, .int .i64 (nd : Int)] w fun e w' => e = .returned (.agg #[.int .i64 (F 0), .int .i64 (F 1), .int .i64 (F 2), .int .i64 (F 3), .int .i64 (F 4), .int .i64 (F 5), .int .i64 (F 6), .int .i64 (F 7)]) ∧ Below w.heap.size w w' := by
  rw [← h]; exact statOfNode_any f v nd w hR hs hlt hg
theorem l6Stat_is {f : FsD} {v : Value} {nd : Nat} {w : World} {F : Nat → Int} (h : stI f.nodes nd = F) (hR : FsA w v f) (hs : szF f ≤ 1048576) (hlt : nd < f.nodes.length) : Calls Tryz.prog 49 #[v, .int .i64 (nd : Int)] w fun e w' => e = .returned (.agg #[.int .i64 (F 0), .int .i64 (F 1), .int .i64 (F 2), .int .i64 (F 3), .int .i64 (F 4), .int .i64 (F 5), .int .i64 (F 6), .int .i64 (F 7)]) ∧ Below w.heap.size w w' := by
  rw [← h]; exact l6Stat_any f v nd w hR hs hlt
set_option maxRecDepth 100000 in
set_option maxHeartbeats 8000000 in
theorem specStatOf_any (f : FsD) (v : Value) (u g : Int) (s : ByteArray) (w : World) (hR : FsA w v f) (hs : szF f ≤ 1048576) (hss : s.size ≤ 1048576) (fol : Bool) : Calls Tryz.prog 22 #[v, .agg #[.int .i64 u, .int .i64 g], .string s, .bool fol] w fun e w' => e = .returned (.tuple #[eightV (stS f u g s.data.toList fol), .int .i64 (findC f u g s.data.toList fol), .bool (askB4 f u g)]) ∧ Below w.heap.size w w' := by
  have HR := Lib.hid hR
  obtain ⟨nv, rfl, hN⟩ := hR
  obtain ⟨o, c, rfl, hm, hH⟩ := hN
  unfold maxLen at hm
  have HS := Lib.hid hs
  have hl : f.nodes.length ≤ 1048576 := (lists_small hs).1
  have HB0 : Hid (Below w.heap.size w (((w.alloc (.cells #[.slice o f.nodes.length c, .int .i64 f.room] 34)).alloc (.cells #[.int .i64 u, .int .i64 g] 36)).alloc (.cells #[.int .i64 0, .int .i64 0, .int .i64 0, .int .i64 0, .int .i64 0, .int .i64 0, .int .i64 0, .int .i64 0] 46))) := Lib.hid ((((Below.refl _ _).alloc (Nat.le_refl _) _).alloc (by simp) _).alloc (by simp; omega) _)
  have KA0 := Lib.hid (sal3_0 w (.cells #[.slice o f.nodes.length c, .int .i64 f.room] 34) (.cells #[.int .i64 u, .int .i64 g] 36) (.cells #[.int .i64 0, .int .i64 0, .int .i64 0, .int .i64 0, .int .i64 0, .int .i64 0, .int .i64 0, .int .i64 0] 46))
  have KB0 := Lib.hid (sal3_1 w (.cells #[.slice o f.nodes.length c, .int .i64 f.room] 34) (.cells #[.int .i64 u, .int .i64 g] 36) (.cells #[.int .i64 0, .int .i64 0, .int .i64 0, .int .i64 0, .int .i64 0, .int .i64 0, .int .i64 0, .int .i64 0] 46))
  have KZ0 := Lib.hid (sal3_2 w (.cells #[.slice o f.nodes.length c, .int .i64 f.room] 34) (.cells #[.int .i64 u, .int .i64 g] 36) (.cells #[.int .i64 0, .int .i64 0, .int .i64 0, .int .i64 0, .int .i64 0, .int .i64 0, .int .i64 0, .int .i64 0] 46))
  clear hH
  clear hs
  by_cases hk : askB4 f u g = true
  · have HK := Lib.hid hk
    have HKA := Lib.hid hk
    have HL := Lib.hid (look_of (ask_good hk) HS.out)
    obtain ⟨⟨cd, nd⟩, hfd⟩ : ∃ q, lkFind f.nodes u g s.data.toList fol = q := ⟨_, rfl⟩
    have hlt : nd < f.nodes.length := by have h7 := lkFind_lt HL.out.1 u g s.data.toList fol; rw [hfd] at h7; exact h7
    have HFD := Lib.hid hfd
    by_cases hc : cd = 0
    · obtain ⟨F, hF⟩ : ∃ F, stI f.nodes nd = F := ⟨_, rfl⟩
      have HF := Lib.hid hF
      have HV : Hid (stS f u g s.data.toList fol = F ∧ findC f u g s.data.toList fol = 0) := Lib.hid (by unfold stS findC; rw [if_pos hk, hfd]; simp [hk, hc, hF])
      subst hc
      clear hk hfd hF
      go_enter Tryz.func22, Tryz.ntmps22
      go_wp2_with fail
      refine (l4Asked_isS HK.out (HR.out.below HB0.out) HS.out).mono ?_
      rintro e w1 ⟨rfl, hb1⟩
      have HB1 := Lib.hid (HB0.out.trans (hb1.mono HB0.out.size))
      have KA1 := Lib.hid ((hb1.block _ (lt_of_heap KA0.out)).trans KA0.out)
      have KB1 := Lib.hid ((hb1.block _ (lt_of_heap KB0.out)).trans KB0.out)
      have KZ1 := Lib.hid ((hb1.block _ (lt_of_heap KZ0.out)).trans KZ0.out)
      have x1a : w1.cell? ⟨w.heap.size, 0, none⟩ = some (.slice o f.nodes.length c) := cell_blk KA1.out 0
      have x1b : w1.cell? ⟨w.heap.size, 1, none⟩ = some (.int .i64 f.room) := cell_blk KA1.out 1
      have y1a : w1.cell? ⟨w.heap.size + 1, 0, none⟩ = some (.int .i64 u) := cell_blk KB1.out 0
      have y1b : w1.cell? ⟨w.heap.size + 1, 1, none⟩ = some (.int .i64 g) := cell_blk KB1.out 1
      clear hb1
      go_wp2_with fail
      refine (l4Find_isS HFD.out (HR.out.below HB1.out) HL.out.1 HL.out.2 (by omega)).mono ?_
      rintro e w2 ⟨rfl, hb2⟩
      have HB2 := Lib.hid (HB1.out.trans (hb2.mono HB1.out.size))
      have KA2 := Lib.hid ((hb2.block _ (lt_of_heap KA1.out)).trans KA1.out)
      have KB2 := Lib.hid ((hb2.block _ (lt_of_heap KB1.out)).trans KB1.out)
      have KZ2 := Lib.hid ((hb2.block _ (lt_of_heap KZ1.out)).trans KZ1.out)
      have x2a : w2.cell? ⟨w.heap.size, 0, none⟩ = some (.slice o f.nodes.length c) := cell_blk KA2.out 0
      have x2b : w2.cell? ⟨w.heap.size, 1, none⟩ = some (.int .i64 f.room) := cell_blk KA2.out 1
      have y2a : w2.cell? ⟨w.heap.size + 1, 0, none⟩ = some (.int .i64 u) := cell_blk KB2.out 0
      have y2b : w2.cell? ⟨w.heap.size + 1, 1, none⟩ = some (.int .i64 g) := cell_blk KB2.out 1
      clear hb2
      go_wp2_with fail
      refine (l6Stat_is HF.out (HR.out.below HB2.out) HS.out hlt).mono ?_
      rintro e w3 ⟨rfl, hb3⟩
      have HB3 := Lib.hid (HB2.out.trans (hb3.mono HB2.out.size))
      have KA3 := Lib.hid ((hb3.block _ (lt_of_heap KA2.out)).trans KA2.out)
      have KB3 := Lib.hid ((hb3.block _ (lt_of_heap KB2.out)).trans KB2.out)
      have KZ3 := Lib.hid ((hb3.block _ (lt_of_heap KZ2.out)).trans KZ2.out)
      have x3a : w3.cell? ⟨w.heap.size, 0, none⟩ = some (.slice o f.nodes.length c) := cell_blk KA3.out 0
      have x3b : w3.cell? ⟨w.heap.size, 1, none⟩ = some (.int .i64 f.room) := cell_blk KA3.out 1
      have y3a : w3.cell? ⟨w.heap.size + 1, 0, none⟩ = some (.int .i64 u) := cell_blk KB3.out 0
      have y3b : w3.cell? ⟨w.heap.size + 1, 1, none⟩ = some (.int .i64 g) := cell_blk KB3.out 1
      clear hb3
      have z0 : w3.cell? ⟨w.heap.size + 2, 0, none⟩ = some (.int .i64 0) := cell_blk KZ3.out 0
      have z1 : w3.cell? ⟨w.heap.size + 2, 1, none⟩ = some (.int .i64 0) := cell_blk KZ3.out 1
      have z2 : w3.cell? ⟨w.heap.size + 2, 2, none⟩ = some (.int .i64 0) := cell_blk KZ3.out 2
      have z3 : w3.cell? ⟨w.heap.size + 2, 3, none⟩ = some (.int .i64 0) := cell_blk KZ3.out 3
      have z4 : w3.cell? ⟨w.heap.size + 2, 4, none⟩ = some (.int .i64 0) := cell_blk KZ3.out 4
      have z5 : w3.cell? ⟨w.heap.size + 2, 5, none⟩ = some (.int .i64 0) := cell_blk KZ3.out 5
      have z6 : w3.cell? ⟨w.heap.size + 2, 6, none⟩ = some (.int .i64 0) := cell_blk KZ3.out 6
      have z7 : w3.cell? ⟨w.heap.size + 2, 7, none⟩ = some (.int .i64 0) := cell_blk KZ3.out 7
      have zf := frozen_blk KZ3.out
      go_wp2
      have hy := eight_set KZ3.out (.int .i64 (F 0)) (.int .i64 (F 1)) (.int .i64 (F 2)) (.int .i64 (F 3)) (.int .i64 (F 4)) (.int .i64 (F 5)) (.int .i64 (F 6)) (.int .i64 (F 7))
      have hbl := eight_below HB3.out (Nat.le_add_right w.heap.size 2) (.int .i64 (F 0)) (.int .i64 (F 1)) (.int .i64 (F 2)) (.int .i64 (F 3)) (.int .i64 (F 4)) (.int .i64 (F 5)) (.int .i64 (F 6)) (.int .i64 (F 7))
      obtain ⟨W9, hW9⟩ : ∃ W9, ((((((((w3.setCell ⟨w.heap.size + 2, 0, none⟩ (.int .i64 (F 0))).setCell ⟨w.heap.size + 2, 1, none⟩ (.int .i64 (F 1))).setCell ⟨w.heap.size + 2, 2, none⟩ (.int .i64 (F 2))).setCell ⟨w.heap.size + 2, 3, none⟩ (.int .i64 (F 3))).setCell ⟨w.heap.size + 2, 4, none⟩ (.int .i64 (F 4))).setCell ⟨w.heap.size + 2, 5, none⟩ (.int .i64 (F 5))).setCell ⟨w.heap.size + 2, 6, none⟩ (.int .i64 (F 6))).setCell ⟨w.heap.size + 2, 7, none⟩ (.int .i64 (F 7))) = W9 := ⟨_, rfl⟩
      rw [hW9] at hy hbl ⊢
      clear hW9
      have t0 : W9.cell? ⟨w.heap.size + 2, 0, none⟩ = some (.int .i64 (F 0)) := cell_blk hy 0
      have t1 : W9.cell? ⟨w.heap.size + 2, 1, none⟩ = some (.int .i64 (F 1)) := cell_blk hy 1
      have t2 : W9.cell? ⟨w.heap.size + 2, 2, none⟩ = some (.int .i64 (F 2)) := cell_blk hy 2
      have t3 : W9.cell? ⟨w.heap.size + 2, 3, none⟩ = some (.int .i64 (F 3)) := cell_blk hy 3
      have t4 : W9.cell? ⟨w.heap.size + 2, 4, none⟩ = some (.int .i64 (F 4)) := cell_blk hy 4
      have t5 : W9.cell? ⟨w.heap.size + 2, 5, none⟩ = some (.int .i64 (F 5)) := cell_blk hy 5
      have t6 : W9.cell? ⟨w.heap.size + 2, 6, none⟩ = some (.int .i64 (F 6)) := cell_blk hy 6
      have t7 : W9.cell? ⟨w.heap.size + 2, 7, none⟩ = some (.int .i64 (F 7)) := cell_blk hy 7
      refine bodyPost_ret (v := .tuple #[.agg #[.int .i64 (F 0), .int .i64 (F 1), .int .i64 (F 2), .int .i64 (F 3), .int .i64 (F 4), .int .i64 (F 5), .int .i64 (F 6), .int .i64 (F 7)], .int .i64 0, .bool true]) (by simp [results, Tryz.results22, go_sem, t0, t1, t2, t3, t4, t5, t6, t7]) rfl ?_
      exact ⟨by rw [HV.out.1, HV.out.2, HKA.out]; rfl, hbl⟩
    · have HV : Hid (stS f u g s.data.toList fol = (fun _ => 0) ∧ findC f u g s.data.toList fol = cd) := Lib.hid (by unfold stS findC; rw [if_pos hk, hfd]; simp [hk, hc])
      clear hk hfd
      go_enter Tryz.func22, Tryz.ntmps22
      go_wp2_with fail
      refine (l4Asked_isS HK.out (HR.out.below HB0.out) HS.out).mono ?_
      rintro e w1 ⟨rfl, hb1⟩
      have HB1 := Lib.hid (HB0.out.trans (hb1.mono HB0.out.size))
      have KA1 := Lib.hid ((hb1.block _ (lt_of_heap KA0.out)).trans KA0.out)
      have KB1 := Lib.hid ((hb1.block _ (lt_of_heap KB0.out)).trans KB0.out)
      have KZ1 := Lib.hid ((hb1.block _ (lt_of_heap KZ0.out)).trans KZ0.out)
      have x1a : w1.cell? ⟨w.heap.size, 0, none⟩ = some (.slice o f.nodes.length c) := cell_blk KA1.out 0
      have x1b : w1.cell? ⟨w.heap.size, 1, none⟩ = some (.int .i64 f.room) := cell_blk KA1.out 1
      have y1a : w1.cell? ⟨w.heap.size + 1, 0, none⟩ = some (.int .i64 u) := cell_blk KB1.out 0
      have y1b : w1.cell? ⟨w.heap.size + 1, 1, none⟩ = some (.int .i64 g) := cell_blk KB1.out 1
      clear hb1
      go_wp2_with fail
      refine (l4Find_isS HFD.out (HR.out.below HB1.out) HL.out.1 HL.out.2 (by omega)).mono ?_
      rintro e w2 ⟨rfl, hb2⟩
      have HB2 := Lib.hid (HB1.out.trans (hb2.mono HB1.out.size))
      have KA2 := Lib.hid ((hb2.block _ (lt_of_heap KA1.out)).trans KA1.out)
      have KB2 := Lib.hid ((hb2.block _ (lt_of_heap KB1.out)).trans KB1.out)
      have KZ2 := Lib.hid ((hb2.block _ (lt_of_heap KZ1.out)).trans KZ1.out)
      have x2a : w2.cell? ⟨w.heap.size, 0, none⟩ = some (.slice o f.nodes.length c) := cell_blk KA2.out 0
      have x2b : w2.cell? ⟨w.heap.size, 1, none⟩ = some (.int .i64 f.room) := cell_blk KA2.out 1
      have y2a : w2.cell? ⟨w.heap.size + 1, 0, none⟩ = some (.int .i64 u) := cell_blk KB2.out 0
      have y2b : w2.cell? ⟨w.heap.size + 1, 1, none⟩ = some (.int .i64 g) := cell_blk KB2.out 1
      clear hb2
      have z0 : w2.cell? ⟨w.heap.size + 2, 0, none⟩ = some (.int .i64 0) := cell_blk KZ2.out 0
      have z1 : w2.cell? ⟨w.heap.size + 2, 1, none⟩ = some (.int .i64 0) := cell_blk KZ2.out 1
      have z2 : w2.cell? ⟨w.heap.size + 2, 2, none⟩ = some (.int .i64 0) := cell_blk KZ2.out 2
      have z3 : w2.cell? ⟨w.heap.size + 2, 3, none⟩ = some (.int .i64 0) := cell_blk KZ2.out 3
      have z4 : w2.cell? ⟨w.heap.size + 2, 4, none⟩ = some (.int .i64 0) := cell_blk KZ2.out 4
      have z5 : w2.cell? ⟨w.heap.size + 2, 5, none⟩ = some (.int .i64 0) := cell_blk KZ2.out 5
      have z6 : w2.cell? ⟨w.heap.size + 2, 6, none⟩ = some (.int .i64 0) := cell_blk KZ2.out 6
      have z7 : w2.cell? ⟨w.heap.size + 2, 7, none⟩ = some (.int .i64 0) := cell_blk KZ2.out 7
      have zf := frozen_blk KZ2.out
      go_wp2
      have hy := eight_set KZ2.out (.int .i64 0) (.int .i64 0) (.int .i64 0) (.int .i64 0) (.int .i64 0) (.int .i64 0) (.int .i64 0) (.int .i64 0)
      have hbl := eight_below HB2.out (Nat.le_add_right w.heap.size 2) (.int .i64 0) (.int .i64 0) (.int .i64 0) (.int .i64 0) (.int .i64 0) (.int .i64 0) (.int .i64 0) (.int .i64 0)
      obtain ⟨W9, hW9⟩ : ∃ W9, ((((((((w2.setCell ⟨w.heap.size + 2, 0, none⟩ (.int .i64 0)).setCell ⟨w.heap.size + 2, 1, none⟩ (.int .i64 0)).setCell ⟨w.heap.size + 2, 2, none⟩ (.int .i64 0)).setCell ⟨w.heap.size + 2, 3, none⟩ (.int .i64 0)).setCell ⟨w.heap.size + 2, 4, none⟩ (.int .i64 0)).setCell ⟨w.heap.size + 2, 5, none⟩ (.int .i64 0)).setCell ⟨w.heap.size + 2, 6, none⟩ (.int .i64 0)).setCell ⟨w.heap.size + 2, 7, none⟩ (.int .i64 0)) = W9 := ⟨_, rfl⟩
      rw [hW9] at hy hbl ⊢
      clear hW9
      have t0 : W9.cell? ⟨w.heap.size + 2, 0, none⟩ = some (.int .i64 0) := cell_blk hy 0
      have t1 : W9.cell? ⟨w.heap.size + 2, 1, none⟩ = some (.int .i64 0) := cell_blk hy 1
      have t2 : W9.cell? ⟨w.heap.size + 2, 2, none⟩ = some (.int .i64 0) := cell_blk hy 2
      have t3 : W9.cell? ⟨w.heap.size + 2, 3, none⟩ = some (.int .i64 0) := cell_blk hy 3
      have t4 : W9.cell? ⟨w.heap.size + 2, 4, none⟩ = some (.int .i64 0) := cell_blk hy 4
      have t5 : W9.cell? ⟨w.heap.size + 2, 5, none⟩ = some (.int .i64 0) := cell_blk hy 5
      have t6 : W9.cell? ⟨w.heap.size + 2, 6, none⟩ = some (.int .i64 0) := cell_blk hy 6
      have t7 : W9.cell? ⟨w.heap.size + 2, 7, none⟩ = some (.int .i64 0) := cell_blk hy 7
      refine bodyPost_ret (v := .tuple #[.agg #[.int .i64 0, .int .i64 0, .int .i64 0, .int .i64 0, .int .i64 0, .int .i64 0, .int .i64 0, .int .i64 0], .int .i64 cd, .bool true]) (by simp [results, Tryz.results22, go_sem, t0, t1, t2, t3, t4, t5, t6, t7]) rfl ?_
      exact ⟨by rw [HV.out.1, HV.out.2, HKA.out]; rfl, hbl⟩
  · have HK : Hid (askB4 f u g = false) := Lib.hid (by simpa using hk)
    have HV : Hid (stS f u g s.data.toList fol = (fun _ => 0) ∧ findC f u g s.data.toList fol = 0) := Lib.hid (by unfold stS findC; rw [HK.out]; simp)
    clear hk
    go_enter Tryz.func22, Tryz.ntmps22
    go_wp2_with fail
    refine (l4Asked_isS HK.out (HR.out.below HB0.out) HS.out).mono ?_
    rintro e w1 ⟨rfl, hb1⟩
    have HB1 := Lib.hid (HB0.out.trans (hb1.mono HB0.out.size))
    have KA1 := Lib.hid ((hb1.block _ (lt_of_heap KA0.out)).trans KA0.out)
    have KB1 := Lib.hid ((hb1.block _ (lt_of_heap KB0.out)).trans KB0.out)
    have KZ1 := Lib.hid ((hb1.block _ (lt_of_heap KZ0.out)).trans KZ0.out)
    have x1a : w1.cell? ⟨w.heap.size, 0, none⟩ = some (.slice o f.nodes.length c) := cell_blk KA1.out 0
    have x1b : w1.cell? ⟨w.heap.size, 1, none⟩ = some (.int .i64 f.room) := cell_blk KA1.out 1
    have y1a : w1.cell? ⟨w.heap.size + 1, 0, none⟩ = some (.int .i64 u) := cell_blk KB1.out 0
    have y1b : w1.cell? ⟨w.heap.size + 1, 1, none⟩ = some (.int .i64 g) := cell_blk KB1.out 1
    clear hb1
    have z0 : w1.cell? ⟨w.heap.size + 2, 0, none⟩ = some (.int .i64 0) := cell_blk KZ1.out 0
    have z1 : w1.cell? ⟨w.heap.size + 2, 1, none⟩ = some (.int .i64 0) := cell_blk KZ1.out 1
    have z2 : w1.cell? ⟨w.heap.size + 2, 2, none⟩ = some (.int .i64 0) := cell_blk KZ1.out 2
    have z3 : w1.cell? ⟨w.heap.size + 2, 3, none⟩ = some (.int .i64 0) := cell_blk KZ1.out 3
    have z4 : w1.cell? ⟨w.heap.size + 2, 4, none⟩ = some (.int .i64 0) := cell_blk KZ1.out 4
    have z5 : w1.cell? ⟨w.heap.size + 2, 5, none⟩ = some (.int .i64 0) := cell_blk KZ1.out 5
    have z6 : w1.cell? ⟨w.heap.size + 2, 6, none⟩ = some (.int .i64 0) := cell_blk KZ1.out 6
    have z7 : w1.cell? ⟨w.heap.size + 2, 7, none⟩ = some (.int .i64 0) := cell_blk KZ1.out 7
    have zf := frozen_blk KZ1.out
    go_wp2
    have hy := eight_set KZ1.out (.int .i64 0) (.int .i64 0) (.int .i64 0) (.int .i64 0) (.int .i64 0) (.int .i64 0) (.int .i64 0) (.int .i64 0)
    have hbl := eight_below HB1.out (Nat.le_add_right w.heap.size 2) (.int .i64 0) (.int .i64 0) (.int .i64 0) (.int .i64 0) (.int .i64 0) (.int .i64 0) (.int .i64 0) (.int .i64 0)
    obtain ⟨W9, hW9⟩ : ∃ W9, ((((((((w1.setCell ⟨w.heap.size + 2, 0, none⟩ (.int .i64 0)).setCell ⟨w.heap.size + 2, 1, none⟩ (.int .i64 0)).setCell ⟨w.heap.size + 2, 2, none⟩ (.int .i64 0)).setCell ⟨w.heap.size + 2, 3, none⟩ (.int .i64 0)).setCell ⟨w.heap.size + 2, 4, none⟩ (.int .i64 0)).setCell ⟨w.heap.size + 2, 5, none⟩ (.int .i64 0)).setCell ⟨w.heap.size + 2, 6, none⟩ (.int .i64 0)).setCell ⟨w.heap.size + 2, 7, none⟩ (.int .i64 0)) = W9 := ⟨_, rfl⟩
    rw [hW9] at hy hbl ⊢
    clear hW9
    have t0 : W9.cell? ⟨w.heap.size + 2, 0, none⟩ = some (.int .i64 0) := cell_blk hy 0
    have t1 : W9.cell? ⟨w.heap.size + 2, 1, none⟩ = some (.int .i64 0) := cell_blk hy 1
    have t2 : W9.cell? ⟨w.heap.size + 2, 2, none⟩ = some (.int .i64 0) := cell_blk hy 2
    have t3 : W9.cell? ⟨w.heap.size + 2, 3, none⟩ = some (.int .i64 0) := cell_blk hy 3
    have t4 : W9.cell? ⟨w.heap.size + 2, 4, none⟩ = some (.int .i64 0) := cell_blk hy 4
    have t5 : W9.cell? ⟨w.heap.size + 2, 5, none⟩ = some (.int .i64 0) := cell_blk hy 5
    have t6 : W9.cell? ⟨w.heap.size + 2, 6, none⟩ = some (.int .i64 0) := cell_blk hy 6
    have t7 : W9.cell? ⟨w.heap.size + 2, 7, none⟩ = some (.int .i64 0) := cell_blk hy 7
    refine bodyPost_ret (v := .tuple #[.agg #[.int .i64 0, .int .i64 0, .int .i64 0, .int .i64 0, .int .i64 0, .int .i64 0, .int .i64 0, .int .i64 0], .int .i64 0, .bool false]) (by simp [results, Tryz.results22, go_sem, t0, t1, t2, t3, t4, t5, t6, t7]) rfl ?_
    exact ⟨by rw [HV.out.1, HV.out.2, HK.out]; rfl, hbl⟩
set_option maxRecDepth 100000 in
set_option maxHeartbeats 8000000 in
theorem statOf_any (f : FsD) (v : Value) (u g : Int) (s : ByteArray) (w : World) (hR : FsA w v f) (hs : szF f ≤ 1048576) (hss : s.size ≤ 1048576) (fol : Bool) (hE : ErrT w) : Calls Tryz.prog 23 #[v, .agg #[.int .i64 u, .int .i64 g], .string s, .bool fol] w fun e w' => e = .returned (.tuple #[eightV (stS f u g s.data.toList fol), .int .i64 (findC f u g s.data.toList fol), .bool (askB4 f u g)]) ∧ Below w.heap.size w w' := by
  have HR := Lib.hid hR
  obtain ⟨nv, rfl, hN⟩ := hR
  obtain ⟨o, c, rfl, hm, hH⟩ := hN
  unfold maxLen at hm
  have HS := Lib.hid hs
  have hl : f.nodes.length ≤ 1048576 := (lists_small hs).1
  have HB0 : Hid (Below w.heap.size w (((w.alloc (.cells #[.slice o f.nodes.length c, .int .i64 f.room] 34)).alloc (.cells #[.int .i64 u, .int .i64 g] 36)).alloc (.cells #[.int .i64 0, .int .i64 0, .int .i64 0, .int .i64 0, .int .i64 0, .int .i64 0, .int .i64 0, .int .i64 0] 46))) := Lib.hid ((((Below.refl _ _).alloc (Nat.le_refl _) _).alloc (by simp) _).alloc (by simp; omega) _)
  have KA0 := Lib.hid (sal3_0 w (.cells #[.slice o f.nodes.length c, .int .i64 f.room] 34) (.cells #[.int .i64 u, .int .i64 g] 36) (.cells #[.int .i64 0, .int .i64 0, .int .i64 0, .int .i64 0, .int .i64 0, .int .i64 0, .int .i64 0, .int .i64 0] 46))
  have KB0 := Lib.hid (sal3_1 w (.cells #[.slice o f.nodes.length c, .int .i64 f.room] 34) (.cells #[.int .i64 u, .int .i64 g] 36) (.cells #[.int .i64 0, .int .i64 0, .int .i64 0, .int .i64 0, .int .i64 0, .int .i64 0, .int .i64 0, .int .i64 0] 46))
  have KZ0 := Lib.hid (sal3_2 w (.cells #[.slice o f.nodes.length c, .int .i64 f.room] 34) (.cells #[.int .i64 u, .int .i64 g] 36) (.cells #[.int .i64 0, .int .i64 0, .int .i64 0, .int .i64 0, .int .i64 0, .int .i64 0, .int .i64 0, .int .i64 0] 46))
  clear hH
  have HET := Lib.hid hE
  clear hE
  clear hs
  by_cases hk : askB4 f u g = true
  · have HK := Lib.hid hk
    have HKA := Lib.hid hk
    have HL := Lib.hid (look_of (ask_good hk) HS.out)
    obtain ⟨⟨cd, nd⟩, hfd⟩ : ∃ q, lkFind f.nodes u g s.data.toList fol = q := ⟨_, rfl⟩
    have hlt : nd < f.nodes.length := by have h7 := lkFind_lt HL.out.1 u g s.data.toList fol; rw [hfd] at h7; exact h7
    have HFD := Lib.hid hfd
    by_cases hc : cd = 0
    · obtain ⟨F, hF⟩ : ∃ F, stI f.nodes nd = F := ⟨_, rfl⟩
      have HF := Lib.hid hF
      have HV : Hid (stS f u g s.data.toList fol = F ∧ findC f u g s.data.toList fol = 0) := Lib.hid (by unfold stS findC; rw [if_pos hk, hfd]; simp [hk, hc, hF])
      subst hc
      clear hk hfd hF
      go_enter Tryz.func23, Tryz.ntmps23
      go_wp2_with fail
      refine (canLook_is HK.out (HR.out.below HB0.out) HS.out).mono ?_
      rintro e w1 ⟨rfl, hb1⟩
      have HB1 := Lib.hid (HB0.out.trans (hb1.mono HB0.out.size))
      have KA1 := Lib.hid ((hb1.block _ (lt_of_heap KA0.out)).trans KA0.out)
      have KB1 := Lib.hid ((hb1.block _ (lt_of_heap KB0.out)).trans KB0.out)
      have KZ1 := Lib.hid ((hb1.block _ (lt_of_heap KZ0.out)).trans KZ0.out)
      have x1a : w1.cell? ⟨w.heap.size, 0, none⟩ = some (.slice o f.nodes.length c) := cell_blk KA1.out 0
      have x1b : w1.cell? ⟨w.heap.size, 1, none⟩ = some (.int .i64 f.room) := cell_blk KA1.out 1
      have y1a : w1.cell? ⟨w.heap.size + 1, 0, none⟩ = some (.int .i64 u) := cell_blk KB1.out 0
      have y1b : w1.cell? ⟨w.heap.size + 1, 1, none⟩ = some (.int .i64 g) := cell_blk KB1.out 1
      clear hb1
      go_wp2_with fail
      refine (nodeAt_is HFD.out (HR.out.below HB1.out) HS.out HKA.out hss).mono ?_
      rintro e w2 ⟨rfl, hb2⟩
      have HB2 := Lib.hid (HB1.out.trans (hb2.mono HB1.out.size))
      have KA2 := Lib.hid ((hb2.block _ (lt_of_heap KA1.out)).trans KA1.out)
      have KB2 := Lib.hid ((hb2.block _ (lt_of_heap KB1.out)).trans KB1.out)
      have KZ2 := Lib.hid ((hb2.block _ (lt_of_heap KZ1.out)).trans KZ1.out)
      have x2a : w2.cell? ⟨w.heap.size, 0, none⟩ = some (.slice o f.nodes.length c) := cell_blk KA2.out 0
      have x2b : w2.cell? ⟨w.heap.size, 1, none⟩ = some (.int .i64 f.room) := cell_blk KA2.out 1
      have y2a : w2.cell? ⟨w.heap.size + 1, 0, none⟩ = some (.int .i64 u) := cell_blk KB2.out 0
      have y2b : w2.cell? ⟨w.heap.size + 1, 1, none⟩ = some (.int .i64 g) := cell_blk KB2.out 1
      clear hb2
      rw [errV_ok]
      go_wp2_with fail
      refine (statOfNode_is HF.out (HR.out.below HB2.out) HS.out hlt (ask_good HKA.out)).mono ?_
      rintro e w3 ⟨rfl, hb3⟩
      have HB3 := Lib.hid (HB2.out.trans (hb3.mono HB2.out.size))
      have KA3 := Lib.hid ((hb3.block _ (lt_of_heap KA2.out)).trans KA2.out)
      have KB3 := Lib.hid ((hb3.block _ (lt_of_heap KB2.out)).trans KB2.out)
      have KZ3 := Lib.hid ((hb3.block _ (lt_of_heap KZ2.out)).trans KZ2.out)
      have x3a : w3.cell? ⟨w.heap.size, 0, none⟩ = some (.slice o f.nodes.length c) := cell_blk KA3.out 0
      have x3b : w3.cell? ⟨w.heap.size, 1, none⟩ = some (.int .i64 f.room) := cell_blk KA3.out 1
      have y3a : w3.cell? ⟨w.heap.size + 1, 0, none⟩ = some (.int .i64 u) := cell_blk KB3.out 0
      have y3b : w3.cell? ⟨w.heap.size + 1, 1, none⟩ = some (.int .i64 g) := cell_blk KB3.out 1
      clear hb3
      have z0 : w3.cell? ⟨w.heap.size + 2, 0, none⟩ = some (.int .i64 0) := cell_blk KZ3.out 0
      have z1 : w3.cell? ⟨w.heap.size + 2, 1, none⟩ = some (.int .i64 0) := cell_blk KZ3.out 1
      have z2 : w3.cell? ⟨w.heap.size + 2, 2, none⟩ = some (.int .i64 0) := cell_blk KZ3.out 2
      have z3 : w3.cell? ⟨w.heap.size + 2, 3, none⟩ = some (.int .i64 0) := cell_blk KZ3.out 3
      have z4 : w3.cell? ⟨w.heap.size + 2, 4, none⟩ = some (.int .i64 0) := cell_blk KZ3.out 4
      have z5 : w3.cell? ⟨w.heap.size + 2, 5, none⟩ = some (.int .i64 0) := cell_blk KZ3.out 5
      have z6 : w3.cell? ⟨w.heap.size + 2, 6, none⟩ = some (.int .i64 0) := cell_blk KZ3.out 6
      have z7 : w3.cell? ⟨w.heap.size + 2, 7, none⟩ = some (.int .i64 0) := cell_blk KZ3.out 7
      have zf := frozen_blk KZ3.out
      go_wp2
      have hy := eight_set KZ3.out (.int .i64 (F 0)) (.int .i64 (F 1)) (.int .i64 (F 2)) (.int .i64 (F 3)) (.int .i64 (F 4)) (.int .i64 (F 5)) (.int .i64 (F 6)) (.int .i64 (F 7))
      have hbl := eight_below HB3.out (Nat.le_add_right w.heap.size 2) (.int .i64 (F 0)) (.int .i64 (F 1)) (.int .i64 (F 2)) (.int .i64 (F 3)) (.int .i64 (F 4)) (.int .i64 (F 5)) (.int .i64 (F 6)) (.int .i64 (F 7))
      obtain ⟨W9, hW9⟩ : ∃ W9, ((((((((w3.setCell ⟨w.heap.size + 2, 0, none⟩ (.int .i64 (F 0))).setCell ⟨w.heap.size + 2, 1, none⟩ (.int .i64 (F 1))).setCell ⟨w.heap.size + 2, 2, none⟩ (.int .i64 (F 2))).setCell ⟨w.heap.size + 2, 3, none⟩ (.int .i64 (F 3))).setCell ⟨w.heap.size + 2, 4, none⟩ (.int .i64 (F 4))).setCell ⟨w.heap.size + 2, 5, none⟩ (.int .i64 (F 5))).setCell ⟨w.heap.size + 2, 6, none⟩ (.int .i64 (F 6))).setCell ⟨w.heap.size + 2, 7, none⟩ (.int .i64 (F 7))) = W9 := ⟨_, rfl⟩
      rw [hW9] at hy hbl ⊢
      clear hW9
      have t0 : W9.cell? ⟨w.heap.size + 2, 0, none⟩ = some (.int .i64 (F 0)) := cell_blk hy 0
      have t1 : W9.cell? ⟨w.heap.size + 2, 1, none⟩ = some (.int .i64 (F 1)) := cell_blk hy 1
      have t2 : W9.cell? ⟨w.heap.size + 2, 2, none⟩ = some (.int .i64 (F 2)) := cell_blk hy 2
      have t3 : W9.cell? ⟨w.heap.size + 2, 3, none⟩ = some (.int .i64 (F 3)) := cell_blk hy 3
      have t4 : W9.cell? ⟨w.heap.size + 2, 4, none⟩ = some (.int .i64 (F 4)) := cell_blk hy 4
      have t5 : W9.cell? ⟨w.heap.size + 2, 5, none⟩ = some (.int .i64 (F 5)) := cell_blk hy 5
      have t6 : W9.cell? ⟨w.heap.size + 2, 6, none⟩ = some (.int .i64 (F 6)) := cell_blk hy 6
      have t7 : W9.cell? ⟨w.heap.size + 2, 7, none⟩ = some (.int .i64 (F 7)) := cell_blk hy 7
      refine bodyPost_ret (v := .tuple #[.agg #[.int .i64 (F 0), .int .i64 (F 1), .int .i64 (F 2), .int .i64 (F 3), .int .i64 (F 4), .int .i64 (F 5), .int .i64 (F 6), .int .i64 (F 7)], .int .i64 0, .bool true]) (by simp [results, Tryz.results23, go_sem, t0, t1, t2, t3, t4, t5, t6, t7]) rfl ?_
      exact ⟨by rw [HV.out.1, HV.out.2, HKA.out]; rfl, hbl⟩
    · have HV : Hid (stS f u g s.data.toList fol = (fun _ => 0) ∧ findC f u g s.data.toList fol = cd) := Lib.hid (by unfold stS findC; rw [if_pos hk, hfd]; simp [hk, hc])
      have HE := Lib.hid (errV_not s hc)
      clear hk hfd hc
      go_enter Tryz.func23, Tryz.ntmps23
      go_wp2_with fail
      refine (canLook_is HK.out (HR.out.below HB0.out) HS.out).mono ?_
      rintro e w1 ⟨rfl, hb1⟩
      have HB1 := Lib.hid (HB0.out.trans (hb1.mono HB0.out.size))
      have KA1 := Lib.hid ((hb1.block _ (lt_of_heap KA0.out)).trans KA0.out)
      have KB1 := Lib.hid ((hb1.block _ (lt_of_heap KB0.out)).trans KB0.out)
      have KZ1 := Lib.hid ((hb1.block _ (lt_of_heap KZ0.out)).trans KZ0.out)
      have x1a : w1.cell? ⟨w.heap.size, 0, none⟩ = some (.slice o f.nodes.length c) := cell_blk KA1.out 0
      have x1b : w1.cell? ⟨w.heap.size, 1, none⟩ = some (.int .i64 f.room) := cell_blk KA1.out 1
      have y1a : w1.cell? ⟨w.heap.size + 1, 0, none⟩ = some (.int .i64 u) := cell_blk KB1.out 0
      have y1b : w1.cell? ⟨w.heap.size + 1, 1, none⟩ = some (.int .i64 g) := cell_blk KB1.out 1
      clear hb1
      go_wp2_with fail
      refine (nodeAt_is HFD.out (HR.out.below HB1.out) HS.out HKA.out hss).mono ?_
      rintro e w2 ⟨rfl, hb2⟩
      have HB2 := Lib.hid (HB1.out.trans (hb2.mono HB1.out.size))
      have KA2 := Lib.hid ((hb2.block _ (lt_of_heap KA1.out)).trans KA1.out)
      have KB2 := Lib.hid ((hb2.block _ (lt_of_heap KB1.out)).trans KB1.out)
      have KZ2 := Lib.hid ((hb2.block _ (lt_of_heap KZ1.out)).trans KZ1.out)
      have x2a : w2.cell? ⟨w.heap.size, 0, none⟩ = some (.slice o f.nodes.length c) := cell_blk KA2.out 0
      have x2b : w2.cell? ⟨w.heap.size, 1, none⟩ = some (.int .i64 f.room) := cell_blk KA2.out 1
      have y2a : w2.cell? ⟨w.heap.size + 1, 0, none⟩ = some (.int .i64 u) := cell_blk KB2.out 0
      have y2b : w2.cell? ⟨w.heap.size + 1, 1, none⟩ = some (.int .i64 g) := cell_blk KB2.out 1
      clear hb2
      rw [HE.out]
      go_wp2_with fail
      rw [← HE.out]
      refine (codeOf_any s cd _ (HET.out.below HB2.out HET.out.1)).mono ?_
      rintro e w3 ⟨rfl, hb3⟩
      have HB3 := Lib.hid (HB2.out.trans (hb3.mono HB2.out.size))
      have KA3 := Lib.hid ((hb3.block _ (lt_of_heap KA2.out)).trans KA2.out)
      have KB3 := Lib.hid ((hb3.block _ (lt_of_heap KB2.out)).trans KB2.out)
      have KZ3 := Lib.hid ((hb3.block _ (lt_of_heap KZ2.out)).trans KZ2.out)
      have x3a : w3.cell? ⟨w.heap.size, 0, none⟩ = some (.slice o f.nodes.length c) := cell_blk KA3.out 0
      have x3b : w3.cell? ⟨w.heap.size, 1, none⟩ = some (.int .i64 f.room) := cell_blk KA3.out 1
      have y3a : w3.cell? ⟨w.heap.size + 1, 0, none⟩ = some (.int .i64 u) := cell_blk KB3.out 0
      have y3b : w3.cell? ⟨w.heap.size + 1, 1, none⟩ = some (.int .i64 g) := cell_blk KB3.out 1
      clear hb3
      have z0 : w3.cell? ⟨w.heap.size + 2, 0, none⟩ = some (.int .i64 0) := cell_blk KZ3.out 0
      have z1 : w3.cell? ⟨w.heap.size + 2, 1, none⟩ = some (.int .i64 0) := cell_blk KZ3.out 1
      have z2 : w3.cell? ⟨w.heap.size + 2, 2, none⟩ = some (.int .i64 0) := cell_blk KZ3.out 2
      have z3 : w3.cell? ⟨w.heap.size + 2, 3, none⟩ = some (.int .i64 0) := cell_blk KZ3.out 3
      have z4 : w3.cell? ⟨w.heap.size + 2, 4, none⟩ = some (.int .i64 0) := cell_blk KZ3.out 4
      have z5 : w3.cell? ⟨w.heap.size + 2, 5, none⟩ = some (.int .i64 0) := cell_blk KZ3.out 5
      have z6 : w3.cell? ⟨w.heap.size + 2, 6, none⟩ = some (.int .i64 0) := cell_blk KZ3.out 6
      have z7 : w3.cell? ⟨w.heap.size + 2, 7, none⟩ = some (.int .i64 0) := cell_blk KZ3.out 7
      have zf := frozen_blk KZ3.out
      go_wp2
      have hy := eight_set KZ3.out (.int .i64 0) (.int .i64 0) (.int .i64 0) (.int .i64 0) (.int .i64 0) (.int .i64 0) (.int .i64 0) (.int .i64 0)
      have hbl := eight_below HB3.out (Nat.le_add_right w.heap.size 2) (.int .i64 0) (.int .i64 0) (.int .i64 0) (.int .i64 0) (.int .i64 0) (.int .i64 0) (.int .i64 0) (.int .i64 0)
      obtain ⟨W9, hW9⟩ : ∃ W9, ((((((((w3.setCell ⟨w.heap.size + 2, 0, none⟩ (.int .i64 0)).setCell ⟨w.heap.size + 2, 1, none⟩ (.int .i64 0)).setCell ⟨w.heap.size + 2, 2, none⟩ (.int .i64 0)).setCell ⟨w.heap.size + 2, 3, none⟩ (.int .i64 0)).setCell ⟨w.heap.size + 2, 4, none⟩ (.int .i64 0)).setCell ⟨w.heap.size + 2, 5, none⟩ (.int .i64 0)).setCell ⟨w.heap.size + 2, 6, none⟩ (.int .i64 0)).setCell ⟨w.heap.size + 2, 7, none⟩ (.int .i64 0)) = W9 := ⟨_, rfl⟩
      rw [hW9] at hy hbl ⊢
      clear hW9
      have t0 : W9.cell? ⟨w.heap.size + 2, 0, none⟩ = some (.int .i64 0) := cell_blk hy 0
      have t1 : W9.cell? ⟨w.heap.size + 2, 1, none⟩ = some (.int .i64 0) := cell_blk hy 1
      have t2 : W9.cell? ⟨w.heap.size + 2, 2, none⟩ = some (.int .i64 0) := cell_blk hy 2
      have t3 : W9.cell? ⟨w.heap.size + 2, 3, none⟩ = some (.int .i64 0) := cell_blk hy 3
      have t4 : W9.cell? ⟨w.heap.size + 2, 4, none⟩ = some (.int .i64 0) := cell_blk hy 4
      have t5 : W9.cell? ⟨w.heap.size + 2, 5, none⟩ = some (.int .i64 0) := cell_blk hy 5
      have t6 : W9.cell? ⟨w.heap.size + 2, 6, none⟩ = some (.int .i64 0) := cell_blk hy 6
      have t7 : W9.cell? ⟨w.heap.size + 2, 7, none⟩ = some (.int .i64 0) := cell_blk hy 7
      refine bodyPost_ret (v := .tuple #[.agg #[.int .i64 0, .int .i64 0, .int .i64 0, .int .i64 0, .int .i64 0, .int .i64 0, .int .i64 0, .int .i64 0], .int .i64 cd, .bool true]) (by simp [results, Tryz.results23, go_sem, t0, t1, t2, t3, t4, t5, t6, t7]) rfl ?_
      exact ⟨by rw [HV.out.1, HV.out.2, HKA.out]; rfl, hbl⟩
  · have HK : Hid (askB4 f u g = false) := Lib.hid (by simpa using hk)
    have HV : Hid (stS f u g s.data.toList fol = (fun _ => 0) ∧ findC f u g s.data.toList fol = 0) := Lib.hid (by unfold stS findC; rw [HK.out]; simp)
    clear hk
    go_enter Tryz.func23, Tryz.ntmps23
    go_wp2_with fail
    refine (canLook_is HK.out (HR.out.below HB0.out) HS.out).mono ?_
    rintro e w1 ⟨rfl, hb1⟩
    have HB1 := Lib.hid (HB0.out.trans (hb1.mono HB0.out.size))
    have KA1 := Lib.hid ((hb1.block _ (lt_of_heap KA0.out)).trans KA0.out)
    have KB1 := Lib.hid ((hb1.block _ (lt_of_heap KB0.out)).trans KB0.out)
    have KZ1 := Lib.hid ((hb1.block _ (lt_of_heap KZ0.out)).trans KZ0.out)
    have x1a : w1.cell? ⟨w.heap.size, 0, none⟩ = some (.slice o f.nodes.length c) := cell_blk KA1.out 0
    have x1b : w1.cell? ⟨w.heap.size, 1, none⟩ = some (.int .i64 f.room) := cell_blk KA1.out 1
    have y1a : w1.cell? ⟨w.heap.size + 1, 0, none⟩ = some (.int .i64 u) := cell_blk KB1.out 0
    have y1b : w1.cell? ⟨w.heap.size + 1, 1, none⟩ = some (.int .i64 g) := cell_blk KB1.out 1
    clear hb1
    have z0 : w1.cell? ⟨w.heap.size + 2, 0, none⟩ = some (.int .i64 0) := cell_blk KZ1.out 0
    have z1 : w1.cell? ⟨w.heap.size + 2, 1, none⟩ = some (.int .i64 0) := cell_blk KZ1.out 1
    have z2 : w1.cell? ⟨w.heap.size + 2, 2, none⟩ = some (.int .i64 0) := cell_blk KZ1.out 2
    have z3 : w1.cell? ⟨w.heap.size + 2, 3, none⟩ = some (.int .i64 0) := cell_blk KZ1.out 3
    have z4 : w1.cell? ⟨w.heap.size + 2, 4, none⟩ = some (.int .i64 0) := cell_blk KZ1.out 4
    have z5 : w1.cell? ⟨w.heap.size + 2, 5, none⟩ = some (.int .i64 0) := cell_blk KZ1.out 5
    have z6 : w1.cell? ⟨w.heap.size + 2, 6, none⟩ = some (.int .i64 0) := cell_blk KZ1.out 6
    have z7 : w1.cell? ⟨w.heap.size + 2, 7, none⟩ = some (.int .i64 0) := cell_blk KZ1.out 7
    have zf := frozen_blk KZ1.out
    go_wp2
    have hy := eight_set KZ1.out (.int .i64 0) (.int .i64 0) (.int .i64 0) (.int .i64 0) (.int .i64 0) (.int .i64 0) (.int .i64 0) (.int .i64 0)
    have hbl := eight_below HB1.out (Nat.le_add_right w.heap.size 2) (.int .i64 0) (.int .i64 0) (.int .i64 0) (.int .i64 0) (.int .i64 0) (.int .i64 0) (.int .i64 0) (.int .i64 0)
    obtain ⟨W9, hW9⟩ : ∃ W9, ((((((((w1.setCell ⟨w.heap.size + 2, 0, none⟩ (.int .i64 0)).setCell ⟨w.heap.size + 2, 1, none⟩ (.int .i64 0)).setCell ⟨w.heap.size + 2, 2, none⟩ (.int .i64 0)).setCell ⟨w.heap.size + 2, 3, none⟩ (.int .i64 0)).setCell ⟨w.heap.size + 2, 4, none⟩ (.int .i64 0)).setCell ⟨w.heap.size + 2, 5, none⟩ (.int .i64 0)).setCell ⟨w.heap.size + 2, 6, none⟩ (.int .i64 0)).setCell ⟨w.heap.size + 2, 7, none⟩ (.int .i64 0)) = W9 := ⟨_, rfl⟩
    rw [hW9] at hy hbl ⊢
    clear hW9
    have t0 : W9.cell? ⟨w.heap.size + 2, 0, none⟩ = some (.int .i64 0) := cell_blk hy 0
    have t1 : W9.cell? ⟨w.heap.size + 2, 1, none⟩ = some (.int .i64 0) := cell_blk hy 1
    have t2 : W9.cell? ⟨w.heap.size + 2, 2, none⟩ = some (.int .i64 0) := cell_blk hy 2
    have t3 : W9.cell? ⟨w.heap.size + 2, 3, none⟩ = some (.int .i64 0) := cell_blk hy 3
    have t4 : W9.cell? ⟨w.heap.size + 2, 4, none⟩ = some (.int .i64 0) := cell_blk hy 4
    have t5 : W9.cell? ⟨w.heap.size + 2, 5, none⟩ = some (.int .i64 0) := cell_blk hy 5
    have t6 : W9.cell? ⟨w.heap.size + 2, 6, none⟩ = some (.int .i64 0) := cell_blk hy 6
    have t7 : W9.cell? ⟨w.heap.size + 2, 7, none⟩ = some (.int .i64 0) := cell_blk hy 7
    refine bodyPost_ret (v := .tuple #[.agg #[.int .i64 0, .int .i64 0, .int .i64 0, .int .i64 0, .int .i64 0, .int .i64 0, .int .i64 0, .int .i64 0], .int .i64 0, .bool false]) (by simp [results, Tryz.results23, go_sem, t0, t1, t2, t3, t4, t5, t6, t7]) rfl ?_
    exact ⟨by rw [HV.out.1, HV.out.2, HK.out]; rfl, hbl⟩
end Go.Proofs.YtpkmkpeabfmbiaaGreatDoor


/-
  The laws' eqStat on what is the same.
  Conditions: none.
-/
namespace Go.Proofs.YtpkmkpeabfmbiaaGreatDoor
open Go.ChangeShapes Go.WideShapes Go.ChangeAt Go.RowKit Go.Joins
set_option linter.unusedVariables false
set_option linter.unusedSimpArgs false

set_option maxHeartbeats 2000000 in
theorem eqStat_same (F : Nat → Int) (w : World) : Calls Tryz.prog 24 #[eightV F, eightV F] w fun e w' => e = .returned (.bool true) ∧ Below w.heap.size w w' := by
  obtain ⟨a0, h0⟩ : ∃ a, F 0 = a := ⟨_, rfl⟩
  obtain ⟨a1, h1⟩ : ∃ a, F 1 = a := ⟨_, rfl⟩
  obtain ⟨a2, h2⟩ : ∃ a, F 2 = a := ⟨_, rfl⟩
  obtain ⟨a3, h3⟩ : ∃ a, F 3 = a := ⟨_, rfl⟩
  obtain ⟨a4, h4⟩ : ∃ a, F 4 = a := ⟨_, rfl⟩
  obtain ⟨a5, h5⟩ : ∃ a, F 5 = a := ⟨_, rfl⟩
  obtain ⟨a6, h6⟩ : ∃ a, F 6 = a := ⟨_, rfl⟩
  obtain ⟨a7, h7⟩ : ∃ a, F 7 = a := ⟨_, rfl⟩
  unfold eightV
  rw [h0, h1, h2, h3, h4, h5, h6, h7]
  clear h0 h1 h2 h3 h4 h5 h6 h7
  have HB : Hid (∀ A B, Below w.heap.size w ((w.alloc A).alloc B)) := Lib.hid (fun A B => ((Below.refl _ _).alloc (Nat.le_refl _) _).alloc (by simp) _)
  go_enter Tryz.func24, Tryz.ntmps24
  go_wp2
  go_ret
  exact ⟨rfl, HB.out _ _⟩
end Go.Proofs.YtpkmkpeabfmbiaaGreatDoor
