/-
  Joined: AddS TabH.
  Conditions: as each states.
-/
import Derived.Deep.DeepHandedRow
import Derived.LaidLaws
import Derived.LaidHandle
import Derived.Test.YtjomkjnpflebaaaGreatDoorCards
import Derived.Test.YtjomkjnpflebaaaGreatDoorTie
import Derived.Test.YtjomkjnpflebaaaGreatDoorLib3
import Derived.Test.YtjomkjnpflebaaaGreatDoorLib19
import Derived.Test.YtjomkjnpflebaaaGreatDoorLib20
import Derived.Test.YtjomkjnpflebaaaGreatDoorLib21
import Derived.Test.YtjomkjnpflebaaaGreatDoorLib23

/-
  The program's addName on a draft, and AddName.
  Conditions: at most 2^20 values and letters together; texts of at most 2^20 bytes; the variable errors.errorType as the program's text lays it.
-/
namespace Go.Proofs.YtjomkjnpflebaaaGreatDoor
open Go.ChangeShapes Go.WideShapes Go.ChangeAt Go.RowKit Go.Joins
set_option linter.unusedVariables false
set_option linter.unusedSimpArgs false

theorem errC_is {c : Int} (h : c ≠ 0) : errC c = codeV c := by unfold errC; rw [if_neg h]
theorem says_code {c : Int} (h : c ≠ 0) : CodeSays (codeV c) c := by rw [← errC_is h]; exact says_C c
theorem dirC_three {f : FsD} {u g : Int} {up : Nat} (hkd : (nodeAt f.nodes up).kind = 2) : dirC (nodeAt f.nodes up) u g 3 = if mayB u g (nodeAt f.nodes up).mode (nodeAt f.nodes up).uid (nodeAt f.nodes up).gid 3 = false then 4 else 0 := by
  unfold dirC; rw [if_neg (by omega)]


set_option maxRecDepth 100000 in
set_option maxHeartbeats 8000000 in
theorem addName_A (f : FsD) (u g t : Int) (s p : ByteArray) (cd : Int) (nd : Nat) (hfd : lkFind f.nodes u g s.data.toList false = (cd, nd)) (hc : cd ≠ 0) (hs : szF f ≤ 1048576) (hk : askB4 f u g = true) (hss : s.size ≤ 1048576) (hsp : p.size ≤ 1048576) (d R : Nat) (nv : Value) (ps : List (Nod × Value)) (w : World) (hD : Drf w d R nv ps f u g t) :
    Calls Tryz.prog 44 #[.pointer (some ⟨d, 0, none⟩), .string s, .string p] w fun e w' => e = .returned (errV s cd) ∧ Below w.heap.size w w' := by
  obtain ⟨oo, cc, rfl, -⟩ := owns_form hD.own.row
  have HD := Lib.hid hD
  have HS := Lib.hid hs
  have HK := Lib.hid hk
  have HSS := Lib.hid hss
  have HSP := Lib.hid hsp
  have HFD := Lib.hid hfd
  have hpl8 : ps.length ≤ 1048576 := by rw [hD.len]; exact (lists_small hs).1
  have HE := Lib.hid (errV_not s hc)
  have HFA : Hid (FsA w (.agg #[.slice oo ps.length cc, .int .i64 f.room]) f) := Lib.hid HD.out.fsA
  have HK0 : Hid (Below w.heap.size w w) := Lib.hid (Below.refl _ _)
  have KS : Hid (∀ W, Below w.heap.size w W → (fun w' => w'.cell? ⟨d, 0, none⟩ = some (.slice oo ps.length cc) ∧ w'.cell? ⟨d, 1, none⟩ = some (.int .i64 f.room) ∧ w'.cell? ⟨d, 2, none⟩ = some (.int .i64 u) ∧ w'.cell? ⟨d, 3, none⟩ = some (.int .i64 g)) W) := Lib.hid (fun W h => ⟨(cell_blk (blk_step h HD.out.box) 0).trans rfl, (cell_blk (blk_step h HD.out.box) 1).trans rfl, (cell_blk (blk_step h HD.out.box) 2).trans rfl, (cell_blk (blk_step h HD.out.box) 3).trans rfl⟩)
  clear hD hs hk hss hsp hfd hc
  go_enter Tryz.func44, Tryz.ntmps44
  go_wp2
  go_region_held3 (fun w' => w'.cell? ⟨d, 0, none⟩ = some (.slice oo ps.length cc) ∧ w'.cell? ⟨d, 1, none⟩ = some (.int .i64 f.room) ∧ w'.cell? ⟨d, 2, none⟩ = some (.int .i64 u) ∧ w'.cell? ⟨d, 3, none⟩ = some (.int .i64 g)) (first | exact KS.out _ (by (first | (with_reducible exact HK0.out) | (with_reducible exact bel_dr HK0.out) | (with_reducible exact HKa.out) | (with_reducible exact bel_dr HKa.out))))
    (first | (go_at_call 77; (with_reducible refine (nodeAt_is HFD.out (HFA.out.below (by (first | (with_reducible exact HK0.out) | (with_reducible exact bel_dr HK0.out)))) HS.out HK.out HSS.out).mono ?_); rintro e wa ⟨rfl, hba⟩; have HKa := Lib.hid (bel_both (w := w) (by (first | (with_reducible exact HK0.out) | (with_reducible exact bel_dr HK0.out))) hba).2; clear hba))
  rw [HE.out]
  go_wp2
  go_ret
  exact ⟨by rw [HE.out]; rfl, HKa.out⟩


set_option maxRecDepth 100000 in
set_option maxHeartbeats 8000000 in
theorem addName_B (f : FsD) (u g t : Int) (s p : ByteArray) (nd : Nat) (hfd : lkFind f.nodes u g s.data.toList false = (0, nd)) (hkk : (nodeAt f.nodes nd).kind = 2) (hs : szF f ≤ 1048576) (hk : askB4 f u g = true) (hss : s.size ≤ 1048576) (hsp : p.size ≤ 1048576) (d R : Nat) (nv : Value) (ps : List (Nod × Value)) (w : World) (hD : Drf w d R nv ps f u g t) :
    Calls Tryz.prog 44 #[.pointer (some ⟨d, 0, none⟩), .string s, .string p] w fun e w' => e = .returned (codeV 7) ∧ Below w.heap.size w w' := by
  obtain ⟨oo, cc, rfl, -⟩ := owns_form hD.own.row
  have HD := Lib.hid hD
  have HS := Lib.hid hs
  have HK := Lib.hid hk
  have HSS := Lib.hid hss
  have HSP := Lib.hid hsp
  have HFD := Lib.hid hfd
  have hpl8 : ps.length ≤ 1048576 := by rw [hD.len]; exact (lists_small hs).1
  have hnl : nd < ps.length := by rw [HD.out.len]; have h7 := lkFind_lt (look_of (ask_good hk) hs).1 u g s.data.toList false; rw [hfd] at h7; exact h7
  obtain ⟨G, cap, e0, hRG, hGl, hnc, hm, hc0, hfr⟩ := HD.out.own.at hnl
  simp only [Value.slice.injEq, true_and] at e0
  obtain ⟨rfl, rfl⟩ := e0
  have hk0 : w.cell? ⟨G, nd * 7, none⟩ = some (.int .i64 (nodeAt f.nodes nd).kind) := by rw [← at_map HD.out.map hnl]; exact hc0.c0
  obtain ⟨kd, hkd0⟩ : ∃ kd, kd = (nodeAt f.nodes nd).kind := ⟨_, rfl⟩
  rw [← hkd0] at hk0 hkk
  have HFA : Hid (FsA w (.agg #[.slice (some ⟨G, 0, none⟩) ps.length cc, .int .i64 f.room]) f) := Lib.hid HD.out.fsA
  have HK0 : Hid (Below w.heap.size w w) := Lib.hid (Below.refl _ _)
  have KS : Hid (∀ W, Below w.heap.size w W → (fun w' => w'.cell? ⟨d, 0, none⟩ = some (.slice (some ⟨G, 0, none⟩) ps.length cc) ∧ w'.cell? ⟨d, 1, none⟩ = some (.int .i64 f.room) ∧ w'.cell? ⟨d, 2, none⟩ = some (.int .i64 u) ∧ w'.cell? ⟨d, 3, none⟩ = some (.int .i64 g)) W) := Lib.hid (fun W h => ⟨(cell_blk (blk_step h HD.out.box) 0).trans rfl, (cell_blk (blk_step h HD.out.box) 1).trans rfl, (cell_blk (blk_step h HD.out.box) 2).trans rfl, (cell_blk (blk_step h HD.out.box) 3).trans rfl⟩)
  clear hD hs hk hss hsp hfd hc0 hfr hkd0
  go_enter Tryz.func44, Tryz.ntmps44
  go_wp2
  go_region_held3 (fun w' => w'.cell? ⟨d, 0, none⟩ = some (.slice (some ⟨G, 0, none⟩) ps.length cc) ∧ w'.cell? ⟨d, 1, none⟩ = some (.int .i64 f.room) ∧ w'.cell? ⟨d, 2, none⟩ = some (.int .i64 u) ∧ w'.cell? ⟨d, 3, none⟩ = some (.int .i64 g)) (first | exact KS.out _ (by (first | (with_reducible exact HK0.out) | (with_reducible exact bel_dr HK0.out) | (with_reducible exact HKa.out) | (with_reducible exact bel_dr HKa.out))))
    (first | (go_at_call 77; (with_reducible refine (nodeAt_is HFD.out (HFA.out.below (by (first | (with_reducible exact HK0.out) | (with_reducible exact bel_dr HK0.out)))) HS.out HK.out HSS.out).mono ?_); rintro e wa ⟨rfl, hba⟩; have HKa := Lib.hid (bel_both (w := w) (by (first | (with_reducible exact HK0.out) | (with_reducible exact bel_dr HK0.out))) hba).2; clear hba))
  rw [errV_nil]
  have d0 : wa.cell? ⟨d, 0, none⟩ = some (.slice (some ⟨G, 0, none⟩) ps.length cc) := (cell_blk (blk_step HKa.out HD.out.box) 0).trans rfl
  have k0 : wa.cell? ⟨G, nd * 7, none⟩ = some (.int .i64 kd) := (HKa.out.cell (p := ⟨G, nd * 7, none⟩) hGl).trans hk0
  clear hk0
  go_wp2
  go_ret
  exact ⟨rfl, HKa.out⟩


set_option maxRecDepth 100000 in
set_option maxHeartbeats 8000000 in
theorem addName_C (f : FsD) (u g t : Int) (s p : ByteArray) (nd : Nat) (hfd : lkFind f.nodes u g s.data.toList false = (0, nd)) (hkk : (nodeAt f.nodes nd).kind ≠ 2) (c2 : Int) (up : Nat) (nm : List UInt8) (hfp : fp0 f.nodes u g p.data.toList = (c2, up, nm)) (hc2 : c2 ≠ 0) (hs : szF f ≤ 1048576) (hk : askB4 f u g = true) (hss : s.size ≤ 1048576) (hsp : p.size ≤ 1048576) (d R : Nat) (nv : Value) (ps : List (Nod × Value)) (w : World) (hD : Drf w d R nv ps f u g t) :
    Calls Tryz.prog 44 #[.pointer (some ⟨d, 0, none⟩), .string s, .string p] w fun e w' => ∃ q, e = .returned (errV q c2) ∧ Below w.heap.size w w' := by
  obtain ⟨oo, cc, rfl, -⟩ := owns_form hD.own.row
  have HD := Lib.hid hD
  have HS := Lib.hid hs
  have HK := Lib.hid hk
  have HSS := Lib.hid hss
  have HSP := Lib.hid hsp
  have HFD := Lib.hid hfd
  have hpl8 : ps.length ≤ 1048576 := by rw [hD.len]; exact (lists_small hs).1
  have hnl : nd < ps.length := by rw [HD.out.len]; have h7 := lkFind_lt (look_of (ask_good hk) hs).1 u g s.data.toList false; rw [hfd] at h7; exact h7
  obtain ⟨G, cap, e0, hRG, hGl, hnc, hm, hc0, hfr⟩ := HD.out.own.at hnl
  simp only [Value.slice.injEq, true_and] at e0
  obtain ⟨rfl, rfl⟩ := e0
  have hk0 : w.cell? ⟨G, nd * 7, none⟩ = some (.int .i64 (nodeAt f.nodes nd).kind) := by rw [← at_map HD.out.map hnl]; exact hc0.c0
  obtain ⟨kd, hkd0⟩ : ∃ kd, kd = (nodeAt f.nodes nd).kind := ⟨_, rfl⟩
  rw [← hkd0] at hk0 hkk
  have HFR := Lib.hid (fun W (h : Drf W d R (.slice (some ⟨G, 0, none⟩) ps.length cc) ps f u g t) => freeSpot_bad f u g t p c2 up nm hfp hc2 hs hk hsp d R _ ps W h)
  have HC2 := Lib.hid hc2
  have HFA : Hid (FsA w (.agg #[.slice (some ⟨G, 0, none⟩) ps.length cc, .int .i64 f.room]) f) := Lib.hid HD.out.fsA
  have HK0 : Hid (Below w.heap.size w w) := Lib.hid (Below.refl _ _)
  have KS : Hid (∀ W, Below w.heap.size w W → (fun w' => w'.cell? ⟨d, 0, none⟩ = some (.slice (some ⟨G, 0, none⟩) ps.length cc) ∧ w'.cell? ⟨d, 1, none⟩ = some (.int .i64 f.room) ∧ w'.cell? ⟨d, 2, none⟩ = some (.int .i64 u) ∧ w'.cell? ⟨d, 3, none⟩ = some (.int .i64 g)) W) := Lib.hid (fun W h => ⟨(cell_blk (blk_step h HD.out.box) 0).trans rfl, (cell_blk (blk_step h HD.out.box) 1).trans rfl, (cell_blk (blk_step h HD.out.box) 2).trans rfl, (cell_blk (blk_step h HD.out.box) 3).trans rfl⟩)
  clear hD hs hk hss hsp hfd hc0 hfr hkd0 hfp hc2
  go_enter Tryz.func44, Tryz.ntmps44
  go_wp2
  go_region_held3 (fun w' => w'.cell? ⟨d, 0, none⟩ = some (.slice (some ⟨G, 0, none⟩) ps.length cc) ∧ w'.cell? ⟨d, 1, none⟩ = some (.int .i64 f.room) ∧ w'.cell? ⟨d, 2, none⟩ = some (.int .i64 u) ∧ w'.cell? ⟨d, 3, none⟩ = some (.int .i64 g)) (first | exact KS.out _ (by (first | (with_reducible exact HK0.out) | (with_reducible exact bel_dr HK0.out) | (with_reducible exact HKa.out) | (with_reducible exact bel_dr HKa.out))))
    (first | (go_at_call 77; (with_reducible refine (nodeAt_is HFD.out (HFA.out.below (by (first | (with_reducible exact HK0.out) | (with_reducible exact bel_dr HK0.out)))) HS.out HK.out HSS.out).mono ?_); rintro e wa ⟨rfl, hba⟩; have HKa := Lib.hid (bel_both (w := w) (by (first | (with_reducible exact HK0.out) | (with_reducible exact bel_dr HK0.out))) hba).2; clear hba))
  rw [errV_nil]
  have d0 : wa.cell? ⟨d, 0, none⟩ = some (.slice (some ⟨G, 0, none⟩) ps.length cc) := (cell_blk (blk_step HKa.out HD.out.box) 0).trans rfl
  have k0 : wa.cell? ⟨G, nd * 7, none⟩ = some (.int .i64 kd) := (HKa.out.cell (p := ⟨G, nd * 7, none⟩) hGl).trans hk0
  clear hk0
  have hkb : (kd == 2) = false := by simpa using hkk
  go_wp2_with (go_at_call 78; refine (HFR.out _ (HD.out.below HKa.out)).mono ?_)
  rintro e w2 ⟨q, rfl, hb2⟩
  have HE := Lib.hid (errV_not q HC2.out)
  rw [HE.out]
  have HB2 := Lib.hid (HKa.out.trans (hb2.mono HKa.out.size))
  clear hb2 d0 k0
  have HB3 := Lib.hid (HB2.out.alloc HB2.out.size (.cells #[.int .i64 0, .string ⟨#[]⟩] 96))
  go_wp2
  go_ret
  exact ⟨q, by rw [HE.out]; rfl, HB3.out⟩


set_option maxRecDepth 100000 in
set_option maxHeartbeats 8000000 in
theorem addName_D (f : FsD) (u g t : Int) (s p : ByteArray) (nd : Nat) (hfd : lkFind f.nodes u g s.data.toList false = (0, nd)) (hkk : (nodeAt f.nodes nd).kind ≠ 2) (up : Nat) (nm : List UInt8) (hfp : fp0 f.nodes u g p.data.toList = (0, up, nm)) (hup : up < f.nodes.length) (hri : Rise (nodeAt f.nodes up).list) (hie : isE (nodeAt f.nodes up).list nm = true) (hs : szF f ≤ 1048576) (hk : askB4 f u g = true) (hss : s.size ≤ 1048576) (hsp : p.size ≤ 1048576) (d R : Nat) (nv : Value) (ps : List (Nod × Value)) (w : World) (hD : Drf w d R nv ps f u g t) :
    Calls Tryz.prog 44 #[.pointer (some ⟨d, 0, none⟩), .string s, .string p] w fun e w' => e = .returned (codeV 6) ∧ Below w.heap.size w w' := by
  obtain ⟨oo, cc, rfl, -⟩ := owns_form hD.own.row
  have HD := Lib.hid hD
  have HS := Lib.hid hs
  have HK := Lib.hid hk
  have HSS := Lib.hid hss
  have HSP := Lib.hid hsp
  have HFD := Lib.hid hfd
  have hpl8 : ps.length ≤ 1048576 := by rw [hD.len]; exact (lists_small hs).1
  have hnl : nd < ps.length := by rw [HD.out.len]; have h7 := lkFind_lt (look_of (ask_good hk) hs).1 u g s.data.toList false; rw [hfd] at h7; exact h7
  obtain ⟨G, cap, e0, hRG, hGl, hnc, hm, hc0, hfr⟩ := HD.out.own.at hnl
  simp only [Value.slice.injEq, true_and] at e0
  obtain ⟨rfl, rfl⟩ := e0
  have hk0 : w.cell? ⟨G, nd * 7, none⟩ = some (.int .i64 (nodeAt f.nodes nd).kind) := by rw [← at_map HD.out.map hnl]; exact hc0.c0
  obtain ⟨kd, hkd0⟩ : ∃ kd, kd = (nodeAt f.nodes nd).kind := ⟨_, rfl⟩
  rw [← hkd0] at hk0 hkk
  have HFR := Lib.hid (fun W (h : Drf W d R (.slice (some ⟨G, 0, none⟩) ps.length cc) ps f u g t) => freeSpot_there f u g t p up nm hfp hup hie hri hs hk hsp d R _ ps W h)
  have HFA : Hid (FsA w (.agg #[.slice (some ⟨G, 0, none⟩) ps.length cc, .int .i64 f.room]) f) := Lib.hid HD.out.fsA
  have HK0 : Hid (Below w.heap.size w w) := Lib.hid (Below.refl _ _)
  have KS : Hid (∀ W, Below w.heap.size w W → (fun w' => w'.cell? ⟨d, 0, none⟩ = some (.slice (some ⟨G, 0, none⟩) ps.length cc) ∧ w'.cell? ⟨d, 1, none⟩ = some (.int .i64 f.room) ∧ w'.cell? ⟨d, 2, none⟩ = some (.int .i64 u) ∧ w'.cell? ⟨d, 3, none⟩ = some (.int .i64 g)) W) := Lib.hid (fun W h => ⟨(cell_blk (blk_step h HD.out.box) 0).trans rfl, (cell_blk (blk_step h HD.out.box) 1).trans rfl, (cell_blk (blk_step h HD.out.box) 2).trans rfl, (cell_blk (blk_step h HD.out.box) 3).trans rfl⟩)
  clear hD hs hk hss hsp hfd hc0 hfr hkd0 hfp hie hri
  go_enter Tryz.func44, Tryz.ntmps44
  go_wp2
  go_region_held3 (fun w' => w'.cell? ⟨d, 0, none⟩ = some (.slice (some ⟨G, 0, none⟩) ps.length cc) ∧ w'.cell? ⟨d, 1, none⟩ = some (.int .i64 f.room) ∧ w'.cell? ⟨d, 2, none⟩ = some (.int .i64 u) ∧ w'.cell? ⟨d, 3, none⟩ = some (.int .i64 g)) (first | exact KS.out _ (by (first | (with_reducible exact HK0.out) | (with_reducible exact bel_dr HK0.out) | (with_reducible exact HKa.out) | (with_reducible exact bel_dr HKa.out))))
    (first | (go_at_call 77; (with_reducible refine (nodeAt_is HFD.out (HFA.out.below (by (first | (with_reducible exact HK0.out) | (with_reducible exact bel_dr HK0.out)))) HS.out HK.out HSS.out).mono ?_); rintro e wa ⟨rfl, hba⟩; have HKa := Lib.hid (bel_both (w := w) (by (first | (with_reducible exact HK0.out) | (with_reducible exact bel_dr HK0.out))) hba).2; clear hba))
  rw [errV_nil]
  have d0 : wa.cell? ⟨d, 0, none⟩ = some (.slice (some ⟨G, 0, none⟩) ps.length cc) := (cell_blk (blk_step HKa.out HD.out.box) 0).trans rfl
  have k0 : wa.cell? ⟨G, nd * 7, none⟩ = some (.int .i64 kd) := (HKa.out.cell (p := ⟨G, nd * 7, none⟩) hGl).trans hk0
  clear hk0
  have hkb : (kd == 2) = false := by simpa using hkk
  go_wp2_with (go_at_call 78; refine (HFR.out _ (HD.out.below HKa.out)).mono ?_)
  rintro e w2 ⟨rfl, hb2⟩
  have HB2 := Lib.hid (HKa.out.trans (hb2.mono HKa.out.size))
  clear hb2 d0 k0
  have HB3 := Lib.hid (HB2.out.alloc HB2.out.size (.cells #[.int .i64 0, .string ⟨#[]⟩] 96))
  unfold codeV
  go_wp2
  go_ret
  exact ⟨rfl, HB3.out⟩


set_option maxRecDepth 100000 in
set_option maxHeartbeats 8000000 in
theorem addName_E (f : FsD) (u g t : Int) (s p : ByteArray) (nd : Nat) (hfd : lkFind f.nodes u g s.data.toList false = (0, nd)) (hkk : (nodeAt f.nodes nd).kind ≠ 2) (up : Nat) (nm : List UInt8) (hfp : fp0 f.nodes u g p.data.toList = (0, up, nm)) (hup : up < f.nodes.length) (hri : Rise (nodeAt f.nodes up).list) (hie : isE (nodeAt f.nodes up).list nm = false) (hdc : errC (dirC (nodeAt f.nodes up) u g 3) = codeV 4) (hs : szF f ≤ 1048576) (hk : askB4 f u g = true) (hss : s.size ≤ 1048576) (hsp : p.size ≤ 1048576) (d R : Nat) (nv : Value) (ps : List (Nod × Value)) (w : World) (hD : Drf w d R nv ps f u g t) :
    Calls Tryz.prog 44 #[.pointer (some ⟨d, 0, none⟩), .string s, .string p] w fun e w' => e = .returned (codeV 4) ∧ Below w.heap.size w w' := by
  obtain ⟨oo, cc, rfl, -⟩ := owns_form hD.own.row
  have HD := Lib.hid hD
  have HS := Lib.hid hs
  have HK := Lib.hid hk
  have HSS := Lib.hid hss
  have HSP := Lib.hid hsp
  have HFD := Lib.hid hfd
  have hpl8 : ps.length ≤ 1048576 := by rw [hD.len]; exact (lists_small hs).1
  have hnl : nd < ps.length := by rw [HD.out.len]; have h7 := lkFind_lt (look_of (ask_good hk) hs).1 u g s.data.toList false; rw [hfd] at h7; exact h7
  obtain ⟨G, cap, e0, hRG, hGl, hnc, hm, hc0, hfr⟩ := HD.out.own.at hnl
  simp only [Value.slice.injEq, true_and] at e0
  obtain ⟨rfl, rfl⟩ := e0
  have hk0 : w.cell? ⟨G, nd * 7, none⟩ = some (.int .i64 (nodeAt f.nodes nd).kind) := by rw [← at_map HD.out.map hnl]; exact hc0.c0
  obtain ⟨kd, hkd0⟩ : ∃ kd, kd = (nodeAt f.nodes nd).kind := ⟨_, rfl⟩
  rw [← hkd0] at hk0 hkk
  have HFR := Lib.hid (fun W (h : Drf W d R (.slice (some ⟨G, 0, none⟩) ps.length cc) ps f u g t) => freeSpot_ask f u g t p up nm _ hfp hup hie hri hdc hs hk hsp d R _ ps W h)
  obtain ⟨xn, hxn⟩ : ∃ xn, xn = bs nm := ⟨_, rfl⟩
  rw [← hxn] at HFR
  have HFA : Hid (FsA w (.agg #[.slice (some ⟨G, 0, none⟩) ps.length cc, .int .i64 f.room]) f) := Lib.hid HD.out.fsA
  have HK0 : Hid (Below w.heap.size w w) := Lib.hid (Below.refl _ _)
  have KS : Hid (∀ W, Below w.heap.size w W → (fun w' => w'.cell? ⟨d, 0, none⟩ = some (.slice (some ⟨G, 0, none⟩) ps.length cc) ∧ w'.cell? ⟨d, 1, none⟩ = some (.int .i64 f.room) ∧ w'.cell? ⟨d, 2, none⟩ = some (.int .i64 u) ∧ w'.cell? ⟨d, 3, none⟩ = some (.int .i64 g)) W) := Lib.hid (fun W h => ⟨(cell_blk (blk_step h HD.out.box) 0).trans rfl, (cell_blk (blk_step h HD.out.box) 1).trans rfl, (cell_blk (blk_step h HD.out.box) 2).trans rfl, (cell_blk (blk_step h HD.out.box) 3).trans rfl⟩)
  clear hD hs hk hss hsp hfd hc0 hfr hkd0 hfp hie hri hdc hxn
  go_enter Tryz.func44, Tryz.ntmps44
  go_wp2
  go_region_held3 (fun w' => w'.cell? ⟨d, 0, none⟩ = some (.slice (some ⟨G, 0, none⟩) ps.length cc) ∧ w'.cell? ⟨d, 1, none⟩ = some (.int .i64 f.room) ∧ w'.cell? ⟨d, 2, none⟩ = some (.int .i64 u) ∧ w'.cell? ⟨d, 3, none⟩ = some (.int .i64 g)) (first | exact KS.out _ (by (first | (with_reducible exact HK0.out) | (with_reducible exact bel_dr HK0.out) | (with_reducible exact HKa.out) | (with_reducible exact bel_dr HKa.out))))
    (first | (go_at_call 77; (with_reducible refine (nodeAt_is HFD.out (HFA.out.below (by (first | (with_reducible exact HK0.out) | (with_reducible exact bel_dr HK0.out)))) HS.out HK.out HSS.out).mono ?_); rintro e wa ⟨rfl, hba⟩; have HKa := Lib.hid (bel_both (w := w) (by (first | (with_reducible exact HK0.out) | (with_reducible exact bel_dr HK0.out))) hba).2; clear hba))
  rw [errV_nil]
  have d0 : wa.cell? ⟨d, 0, none⟩ = some (.slice (some ⟨G, 0, none⟩) ps.length cc) := (cell_blk (blk_step HKa.out HD.out.box) 0).trans rfl
  have k0 : wa.cell? ⟨G, nd * 7, none⟩ = some (.int .i64 kd) := (HKa.out.cell (p := ⟨G, nd * 7, none⟩) hGl).trans hk0
  clear hk0
  have hkb : (kd == 2) = false := by simpa using hkk
  go_wp2_with (go_at_call 78; refine (HFR.out _ (HD.out.below HKa.out)).mono ?_)
  rintro e w2 ⟨rfl, hb2⟩
  have HB2 := Lib.hid (HKa.out.trans (hb2.mono HKa.out.size))
  clear hb2 d0 k0
  have HB3 := Lib.hid (HB2.out.alloc HB2.out.size (.cells #[.int .i64 up, .string xn] 96))
  unfold codeV
  go_wp2
  go_ret
  exact ⟨rfl, HB3.out⟩


set_option maxRecDepth 100000 in
set_option maxHeartbeats 8000000 in
theorem addName_F (f : FsD) (u g t : Int) (s p : ByteArray) (nd : Nat) (hfd : lkFind f.nodes u g s.data.toList false = (0, nd)) (hkk : (nodeAt f.nodes nd).kind ≠ 2) (up : Nat) (nm : List UInt8) (hfp : fp0 f.nodes u g p.data.toList = (0, up, nm)) (hup : up < f.nodes.length) (hri : Rise (nodeAt f.nodes up).list) (hie : isE (nodeAt f.nodes up).list nm = false) (hdc : errC (dirC (nodeAt f.nodes up) u g 3) = .nilIface) (hs : szF f ≤ 1048576) (hk : askB4 f u g = true) (hss : s.size ≤ 1048576) (hsp : p.size ≤ 1048576) (d R : Nat) (nv : Value) (ps : List (Nod × Value)) (w : World) (hR : R ≤ w.heap.size) (hRd : R ≤ d) (hD : Drf w d R nv ps f u g t) :
    Calls Tryz.prog 44 #[.pointer (some ⟨d, 0, none⟩), .string s, .string p] w fun e w' => e = .returned .nilIface ∧ Below R w w' ∧ ∃ ps2, w'.heap[d]? = some (.cells #[nv, .int .i64 f.room, .int .i64 u, .int .i64 g, .int .i64 t] 89) ∧ ps2.map Prod.fst = (putFs f up nm nd t).nodes ∧ Own w' R nv ps2 := by
  obtain ⟨oo, cc, rfl, -⟩ := owns_form hD.own.row
  have HD := Lib.hid hD
  have HS := Lib.hid hs
  have HK := Lib.hid hk
  have HSS := Lib.hid hss
  have HSP := Lib.hid hsp
  have HFD := Lib.hid hfd
  have hpl8 : ps.length ≤ 1048576 := by rw [hD.len]; exact (lists_small hs).1
  have hnl : nd < ps.length := by rw [HD.out.len]; have h7 := lkFind_lt (look_of (ask_good hk) hs).1 u g s.data.toList false; rw [hfd] at h7; exact h7
  obtain ⟨G, cap, e0, hRG, hGl, hnc, hm, hc0, hfr⟩ := HD.out.own.at hnl
  simp only [Value.slice.injEq, true_and] at e0
  obtain ⟨rfl, rfl⟩ := e0
  have hk0 : w.cell? ⟨G, nd * 7, none⟩ = some (.int .i64 (nodeAt f.nodes nd).kind) := by rw [← at_map HD.out.map hnl]; exact hc0.c0
  obtain ⟨kd, hkd0⟩ : ∃ kd, kd = (nodeAt f.nodes nd).kind := ⟨_, rfl⟩
  rw [← hkd0] at hk0 hkk
  have HFR := Lib.hid (fun W (h : Drf W d R (.slice (some ⟨G, 0, none⟩) ps.length cc) ps f u g t) => freeSpot_ask f u g t p up nm _ hfp hup hie hri hdc hs hk hsp d R _ ps W h)
  have HPN := Lib.hid (fun W (hw : R ≤ W.heap.size) (h : Drf W d R (.slice (some ⟨G, 0, none⟩) ps.length cc) ps f u g t) => putName_any f u g t up nm nd hup hri (by have := (lists_small hs).1; omega) ((lists_small hs).2 (nodeAt f.nodes up) (by rw [show nodeAt f.nodes up = f.nodes[up] from getD_at hup]; exact List.getElem_mem hup)).1 d R _ ps W hw hRd h)
  obtain ⟨xn, hxn⟩ : ∃ xn, xn = bs nm := ⟨_, rfl⟩
  rw [← hxn] at HFR HPN
  have HFA : Hid (FsA w (.agg #[.slice (some ⟨G, 0, none⟩) ps.length cc, .int .i64 f.room]) f) := Lib.hid HD.out.fsA
  have HK0 : Hid (Below w.heap.size w w) := Lib.hid (Below.refl _ _)
  have KS : Hid (∀ W, Below w.heap.size w W → (fun w' => w'.cell? ⟨d, 0, none⟩ = some (.slice (some ⟨G, 0, none⟩) ps.length cc) ∧ w'.cell? ⟨d, 1, none⟩ = some (.int .i64 f.room) ∧ w'.cell? ⟨d, 2, none⟩ = some (.int .i64 u) ∧ w'.cell? ⟨d, 3, none⟩ = some (.int .i64 g)) W) := Lib.hid (fun W h => ⟨(cell_blk (blk_step h HD.out.box) 0).trans rfl, (cell_blk (blk_step h HD.out.box) 1).trans rfl, (cell_blk (blk_step h HD.out.box) 2).trans rfl, (cell_blk (blk_step h HD.out.box) 3).trans rfl⟩)
  clear hD hs hk hss hsp hfd hc0 hfr hkd0 hfp hie hri hdc hxn
  go_enter Tryz.func44, Tryz.ntmps44
  go_wp2
  go_region_held3 (fun w' => w'.cell? ⟨d, 0, none⟩ = some (.slice (some ⟨G, 0, none⟩) ps.length cc) ∧ w'.cell? ⟨d, 1, none⟩ = some (.int .i64 f.room) ∧ w'.cell? ⟨d, 2, none⟩ = some (.int .i64 u) ∧ w'.cell? ⟨d, 3, none⟩ = some (.int .i64 g)) (first | exact KS.out _ (by (first | (with_reducible exact HK0.out) | (with_reducible exact bel_dr HK0.out) | (with_reducible exact HKa.out) | (with_reducible exact bel_dr HKa.out))))
    (first | (go_at_call 77; (with_reducible refine (nodeAt_is HFD.out (HFA.out.below (by (first | (with_reducible exact HK0.out) | (with_reducible exact bel_dr HK0.out)))) HS.out HK.out HSS.out).mono ?_); rintro e wa ⟨rfl, hba⟩; have HKa := Lib.hid (bel_both (w := w) (by (first | (with_reducible exact HK0.out) | (with_reducible exact bel_dr HK0.out))) hba).2; clear hba))
  rw [errV_nil]
  have d0 : wa.cell? ⟨d, 0, none⟩ = some (.slice (some ⟨G, 0, none⟩) ps.length cc) := (cell_blk (blk_step HKa.out HD.out.box) 0).trans rfl
  have k0 : wa.cell? ⟨G, nd * 7, none⟩ = some (.int .i64 kd) := (HKa.out.cell (p := ⟨G, nd * 7, none⟩) hGl).trans hk0
  clear hk0
  have hkb : (kd == 2) = false := by simpa using hkk
  go_wp2_with (go_at_call 78; refine (HFR.out _ (HD.out.below HKa.out)).mono ?_)
  rintro e w2 ⟨rfl, hb2⟩
  have HB2 := Lib.hid (HKa.out.trans (hb2.mono HKa.out.size))
  clear hb2 d0 k0
  have HB3 := Lib.hid (HB2.out.alloc HB2.out.size (.cells #[.int .i64 up, .string xn] 96))
  go_wp2_with (go_at_call 79; refine (HPN.out _ (Nat.le_trans hR HB3.out.size) (HD.out.below HB3.out)).mono ?_)
  rintro e w4 ⟨rfl, hb4, ps4, hd4, hm4, ho4⟩
  have HB4 := Lib.hid ((HB3.out.mono hR).trans hb4)
  have HX4 := Lib.hid hd4
  have HM4 := Lib.hid hm4
  have HO4 := Lib.hid ho4
  clear hb4 hd4 hm4 ho4
  go_wp2
  go_ret
  first
    | exact ⟨rfl, HB4.out, _, HX4.out, HM4.out, HO4.out⟩
    | exact ⟨rfl, HB4.out, HX4.out, _, HM4.out, HO4.out⟩


theorem app1_2a (a b c : Value) : #[a] ++ #[b, c] = #[a, b, c] := rfl
theorem al5a (w : World) (a b c d e : Obj) : let W := ((((w.alloc a).alloc b).alloc c).alloc d).alloc e
    W.heap[w.heap.size]? = some a ∧ W.heap[w.heap.size + 1]? = some b ∧ W.heap[w.heap.size + 2]? = some c ∧ W.heap[w.heap.size + 3]? = some d ∧ W.heap[w.heap.size + 4]? = some e := by
  have s : ∀ (w : World) (o : Obj) (i : Nat) (z : Obj), w.heap[i]? = some z → (w.alloc o).heap[i]? = some z := fun w o i z h => (Below.heap_alloc w o i (lt_of_heap h)).trans h
  have n : ∀ (w : World) (o : Obj) (i : Nat), i = w.heap.size → (w.alloc o).heap[i]? = some o := fun w o i h => by rw [h]; exact heap_alloc_new w o
  exact ⟨s _ _ _ _ (s _ _ _ _ (s _ _ _ _ (s _ _ _ _ (n _ _ _ rfl)))), s _ _ _ _ (s _ _ _ _ (s _ _ _ _ (n _ _ _ (by simp)))), s _ _ _ _ (s _ _ _ _ (n _ _ _ (by simp))), s _ _ _ _ (n _ _ _ (by simp)), n _ _ _ (by simp)⟩
theorem bel5a (w : World) (a b c d e : Obj) : Below w.heap.size w (((((w.alloc a).alloc b).alloc c).alloc d).alloc e) := bel_al (bel_al (bel_al (bel_al (bel_al (Below.refl _ w)))))


set_option maxHeartbeats 2000000 in
theorem addName1_of (s x : ByteArray) (pb xb d : Nat) (w1 : World) (hP : w1.heap[pb]? = some (.cells #[.string s] 9)) (hX : w1.heap[xb]? = some (.cells #[.string x] 9)) (Q : Ending → World → Prop)
    (h : Calls Tryz.prog 44 #[.pointer (some ⟨d, 0, none⟩), .string s, .string x] w1 fun e w' => ∃ E, e = .returned E ∧ Q (.returned E) w') :
    Calls Tryz.prog 43 #[.pointer (some ⟨d, 0, none⟩), .pointer (some ⟨pb, 0, none⟩), .pointer (some ⟨xb, 0, none⟩)] w1 Q := by
  have p0 : w1.cell? ⟨pb, 0, none⟩ = some (.string s) := cell_blk hP 0
  have y0 : w1.cell? ⟨xb, 0, none⟩ = some (.string x) := cell_blk hX 0
  have HH := Lib.hid h
  clear hP hX h
  go_enter Tryz.func43, Tryz.ntmps43
  go_wp2_with fail
  refine HH.out.mono ?_
  rintro e w2 ⟨E, rfl, hq⟩
  have HQ := Lib.hid hq
  clear hq p0 y0
  go_wp2
  exact HQ.out


def FsAnsA (w : World) (F : FsD) (cd : Int) (ak : Bool) (e : Ending) (w' : World) : Prop := ∃ nv ps, e = .returned (.tuple #[.agg #[nv, .int .i64 F.room], .int .i64 cd, .bool ak]) ∧ ps.map Prod.fst = F.nodes ∧ Own w' w.heap.size nv ps ∧ Below w.heap.size w w'
set_option maxRecDepth 100000 in
set_option maxHeartbeats 2000000 in
theorem tryOn_add (f : FsD) (v : Value) (u g t : Int) (s x : ByteArray) (pb xb : Nat) (w : World) (hR : FsA w v f) (hs : szF f ≤ 1048576) (hss : s.size ≤ 1048576) (hsx : x.size ≤ 1048576) (hE : ErrT w) (hP : w.heap[pb]? = some (.cells #[.string s] 9)) (hX : w.heap[xb]? = some (.cells #[.string x] 9)) :
    Calls Tryz.prog 42 #[v, .agg #[.int .i64 u, .int .i64 g], .int .i64 t, .func (.func 43) #[] #[.pointer (some ⟨pb, 0, none⟩), .pointer (some ⟨xb, 0, none⟩)]] w fun e w' => FsAnsA w (makF (askT f u g t) (addC f u g s.data.toList x.data.toList) (addG f u g s.data.toList x.data.toList t) f) (makC (askT f u g t) (addC f u g s.data.toList x.data.toList)) (askT f u g t) e w' := by
  have hfit : NodsFit f.nodes := by obtain ⟨nv, rfl, hN⟩ := hR; exact hN.fit
  have hent := enters_of Tryz.func43 (by kernel_rfl) rfl
  cases hA : askT f u g t with
  | false =>
    refine (tryOn_no f v u g t 43 _ w hR hs hA).mono ?_
    rintro e w' ⟨rfl, hb⟩
    exact ⟨_, [], rfl, rfl, Own.nil _ _, hb⟩
  | true =>
    obtain ⟨hk, ht⟩ : askB4 f u g = true ∧ inB 0 1000000 t = true := by unfold askT at hA; simpa using hA
    have hg := ask_good hk
    have hL := (look_of hg hs).1
    -- the change tells a fault
    have told : ∀ cd : Int, cd ≠ 0 → addC f u g s.data.toList x.data.toList = cd → (∀ (w1 : World) (d R : Nat) (nv : Value) (ps : List (Nod × Value)), Drf w1 d R nv ps f u g t → Calls Tryz.prog 44 #[.pointer (some ⟨d, 0, none⟩), .string s, .string x] w1 fun e w' => ∃ E, e = .returned E ∧ CodeSays E cd ∧ Below w1.heap.size w1 w') →
        Calls Tryz.prog 42 #[v, .agg #[.int .i64 u, .int .i64 g], .int .i64 t, .func (.func 43) #[] #[.pointer (some ⟨pb, 0, none⟩), .pointer (some ⟨xb, 0, none⟩)]] w fun e w' => FsAnsA w (makF true (addC f u g s.data.toList x.data.toList) (addG f u g s.data.toList x.data.toList t) f) (makC true (addC f u g s.data.toList x.data.toList)) true e w' := fun cd hc hcd hh => by
      rw [hcd, makF_bad hc]
      exact tryOn_told f cd hc v u g t 43 _ w hR hs hE hk ht hent (fun w1 d R nv ps h1 h2 h3 h4 h5 h6 => by
        rw [app1_2a]
        exact addName1_of s x pb xb d w1 (blk_step h3 hP) (blk_step h3 hX) _ ((hh w1 d R nv ps ⟨h4, h5, h6, hfit⟩).mono fun e w' ⟨E, a1, a2, a3⟩ => ⟨E, a1, E, rfl, a2, a3.mono (Nat.le_trans h2 (Nat.le_of_lt (lt_of_heap h4))), nv, ps, blk_step a3 h4, h6.below a3⟩))
    obtain ⟨⟨c1, nd⟩, hfd⟩ : ∃ q, lkFind f.nodes u g s.data.toList false = q := ⟨_, rfl⟩
    by_cases h1 : c1 = 0
    case neg =>
      exact told c1 h1 (by unfold addC; rw [hfd]; simp [h1]) (fun w1 d R nv ps hD => (addName_A f u g t s x c1 nd hfd h1 hs hk hss hsx d R nv ps w1 hD).mono fun e w' ⟨a1, a2⟩ => ⟨_, a1, says_V s c1, a2⟩)
    subst h1
    by_cases h2 : (nodeAt f.nodes nd).kind = 2
    · exact told 7 (by decide) (by unfold addC; rw [hfd]; simp [h2]) (fun w1 d R nv ps hD => (addName_B f u g t s x nd hfd h2 hs hk hss hsx d R nv ps w1 hD).mono fun e w' ⟨a1, a2⟩ => ⟨_, a1, says_code (by decide), a2⟩)
    have e0 : addC f u g s.data.toList x.data.toList = spotC f u g x.data.toList := by unfold addC; rw [hfd]; simp [h2]
    obtain ⟨⟨c2, up, nm⟩, hfp⟩ : ∃ q, fp0 f.nodes u g x.data.toList = q := ⟨_, rfl⟩
    by_cases h3 : c2 = 0
    case neg =>
      exact told c2 h3 (by rw [e0, spotC_bad hfp h3]) (fun w1 d R nv ps hD => (addName_C f u g t s x nd hfd h2 c2 up nm hfp h3 hs hk hss hsx d R nv ps w1 hD).mono fun e w' ⟨q, a1, a2⟩ => ⟨_, a1, says_V q c2, a2⟩)
    subst h3
    obtain ⟨hnm, hup, hkd⟩ := fp0_facts hL hfp
    have hri := rise_node (good_nods hg) up
    cases hi : isE (nodeAt f.nodes up).list nm with
    | true =>
      exact told 6 (by decide) (by rw [e0, spotC_there hfp hi]) (fun w1 d R nv ps hD => (addName_D f u g t s x nd hfd h2 up nm hfp hup hri hi hs hk hss hsx d R nv ps w1 hD).mono fun e w' ⟨a1, a2⟩ => ⟨_, a1, says_code (by decide), a2⟩)
    | false =>
      cases hm : mayB u g (nodeAt f.nodes up).mode (nodeAt f.nodes up).uid (nodeAt f.nodes up).gid 3 with
      | false =>
        have hdc : errC (dirC (nodeAt f.nodes up) u g 3) = codeV 4 := by rw [dirC_three hkd, hm]; rfl
        exact told 4 (by decide) (by rw [e0, spotC_may hfp hi hm]) (fun w1 d R nv ps hD => (addName_E f u g t s x nd hfd h2 up nm hfp hup hri hi hdc hs hk hss hsx d R nv ps w1 hD).mono fun e w' ⟨a1, a2⟩ => ⟨_, a1, says_code (by decide), a2⟩)
      | true =>
        have hdc : errC (dirC (nodeAt f.nodes up) u g 3) = .nilIface := by rw [dirC_three hkd, hm]; rfl
        have e9 : addG f u g s.data.toList x.data.toList t = putFs f up nm nd t := by unfold addG; rw [hfd, hfp]
        rw [e0, spotC_ok hfp hi hm, makF_yes, e9]
        exact tryOn_ok f (putFs f up nm nd t) v u g t 43 _ w hR hs hE hk ht hent (fun w1 d R nv ps h1 h2 h3 h4 h5 h6 => by
          rw [app1_2a]
          exact addName1_of s x pb xb d w1 (blk_step h3 hP) (blk_step h3 hX) _ ((addName_F f u g t s x nd hfd (by assumption) up nm hfp hup hri hi hdc hs hk hss hsx d R nv ps w1 (Nat.le_trans h2 (Nat.le_of_lt (lt_of_heap h4))) h2 ⟨h4, h5, h6, hfit⟩).mono fun e w' ⟨a1, a2, ps9, a3, a4, a5⟩ => ⟨_, a1, rfl, a2, nv, ps9, a3, a4, a5⟩))


set_option maxRecDepth 100000 in
set_option maxHeartbeats 2000000 in
theorem addName_any (f : FsD) (v : Value) (u g : Int) (s x : ByteArray) (t : Int) (w : World) (hR : FsA w v f) (hs : szF f ≤ 1048576) (hss : s.size ≤ 1048576) (hsx : x.size ≤ 1048576) (hE : ErrT w) :
    Calls Tryz.prog 23 #[v, .agg #[.int .i64 u, .int .i64 g], .string s, .string x, .int .i64 t] w fun e w' => FsAnsA w (makF (askT f u g t) (addC f u g s.data.toList x.data.toList) (addG f u g s.data.toList x.data.toList t) f) (makC (askT f u g t) (addC f u g s.data.toList x.data.toList)) (askT f u g t) e w' := by
  have hmf : ∀ (fn : Fn) (first cap : Array Value) (w : World), (Instr.makeFunc fn first cap).run Tryz.prog w = .ok (.func fn first cap) w := fun _ _ _ _ => rfl
  unfold FsAnsA
  have HR := Lib.hid hR
  have HS := Lib.hid hs
  have HSS := Lib.hid hss
  have HSX := Lib.hid hsx
  have HET := Lib.hid hE
  obtain ⟨F, hF⟩ : ∃ F, (makF (askT f u g t) (addC f u g s.data.toList x.data.toList) (addG f u g s.data.toList x.data.toList t) f) = F := ⟨_, rfl⟩
  obtain ⟨CD, hCD⟩ : ∃ C, (makC (askT f u g t) (addC f u g s.data.toList x.data.toList)) = C := ⟨_, rfl⟩
  obtain ⟨AK, hAK⟩ : ∃ A, (askT f u g t) = A := ⟨_, rfl⟩
  have HCALL : Hid (∀ (pb xb : Nat) (W : World) (v9 : Value), FsA W v9 f → ErrT W → W.heap[pb]? = some (.cells #[.string s] 9) → W.heap[xb]? = some (.cells #[.string x] 9) →
      Calls Tryz.prog 42 #[v9, .agg #[.int .i64 u, .int .i64 g], .int .i64 t, .func (.func 43) #[] #[.pointer (some ⟨pb, 0, none⟩), .pointer (some ⟨xb, 0, none⟩)]] W fun e w' => ∃ nv ps, e = .returned (.tuple #[.agg #[nv, .int .i64 F.room], .int .i64 CD, .bool AK]) ∧ ps.map Prod.fst = F.nodes ∧ Own w' W.heap.size nv ps ∧ Below W.heap.size W w') := Lib.hid (fun pb xb W v9 h2 h3 h4 h5 => by
    have hq := tryOn_add f v9 u g t s x pb xb W h2 HS.out HSS.out HSX.out h3 h4 h5
    unfold FsAnsA at hq
    rw [hF, hCD, hAK] at hq
    exact hq)
  rw [hF, hCD, hAK]
  obtain ⟨nv, rfl, hN⟩ := hR
  obtain ⟨o, c, rfl, -, -⟩ := hN
  have HB6 := Lib.hid (bel5a w (.cells #[.slice o f.nodes.length c, .int .i64 f.room] 30) (.cells #[.int .i64 u, .int .i64 g] 34) (.cells #[.string s] 9) (.cells #[.string x] 9) (.cells #[.slice none 0 0, .int .i64 0] 30))
  obtain ⟨k0, k1, k2, k3, k4⟩ := al5a w (.cells #[.slice o f.nodes.length c, .int .i64 f.room] 30) (.cells #[.int .i64 u, .int .i64 g] 34) (.cells #[.string s] 9) (.cells #[.string x] 9) (.cells #[.slice none 0 0, .int .i64 0] 30)
  have K2 := Lib.hid k2
  have K3 := Lib.hid k3
  have KZ := Lib.hid k4
  have HSZ : Hid ((((((w.alloc (.cells #[.slice o f.nodes.length c, .int .i64 f.room] 30)).alloc (.cells #[.int .i64 u, .int .i64 g] 34)).alloc (.cells #[.string s] 9)).alloc (.cells #[.string x] 9)).alloc (.cells #[.slice none 0 0, .int .i64 0] 30)).heap.size = w.heap.size + 5) := Lib.hid (by simp)
  have HR6 := Lib.hid (HR.out.below HB6.out)
  have HE6 := Lib.hid (HET.out.below HB6.out HET.out.1)
  clear hs hss hsx hE k0 k1 k2 k3 k4 hF hCD hAK
  go_enter Tryz.func23, Tryz.ntmps23
  go_wp2_with fail
  refine (HCALL.out (w.heap.size + 2) (w.heap.size + 3) _ _ HR6.out HE6.out K2.out K3.out).mono ?_
  rintro e w2 ⟨nv2, ps2, rfl, hps2, hO2, hb2⟩
  obtain ⟨oo2, cc2, rfl, -⟩ := owns_form hO2.row
  have HB2 := Lib.hid (bel_step HB6.out hb2)
  have KZ2 := Lib.hid (blk_step hb2 KZ.out)
  have HPS := Lib.hid hps2
  have hsz := HSZ.out
  have HO2 := Lib.hid (hO2.low (R := w.heap.size + 5) (Nat.le_of_eq hsz.symm))
  have z0 := (cell_blk KZ2.out 0).trans rfl
  have z1 := (cell_blk KZ2.out 1).trans rfl
  have zf := frozen_blk KZ2.out
  have hq := two_set KZ2.out (.slice oo2 ps2.length cc2) (.int .i64 F.room)
  have t0 := (cell_blk hq 0).trans rfl
  have t1 := (cell_blk hq 1).trans rfl
  have HA9 : Hid (Own _ w.heap.size _ _) := Lib.hid (((HO2.out.besides (b := w.heap.size + 4) (by omega) 0 (.slice oo2 ps2.length cc2)).besides (b := w.heap.size + 4) (by omega) 1 (.int .i64 F.room)).low (by omega))
  have HB9 := Lib.hid (bel_set2 (G := w.heap.size + 4) (x := .slice oo2 ps2.length cc2) (y := .int .i64 F.room) HB2.out (by omega))
  clear hps2 hO2 hb2 hq
  go_wp2
  refine bodyPost_ret (v := .tuple #[.agg #[.slice oo2 ps2.length cc2, .int .i64 F.room], .int .i64 CD, .bool AK]) (by simp [results, Tryz.results23, go_sem, t0, t1]) rfl ?_
  first
    | exact ⟨_, ps2, rfl, HPS.out, HA9.out, HB9.out⟩
    | exact ⟨_, rfl, ps2, HPS.out, HA9.out, HB9.out⟩
end Go.Proofs.YtjomkjnpflebaaaGreatDoor


/-
  What the listed variable errors.errorType gives a walk: its cell; and a world for a witness that holds it.
  Conditions: as each states.
-/
namespace Go.Proofs.YtjomkjnpflebaaaGreatDoor
open Go.ChangeShapes Go.WideShapes Go.ChangeAt Go.RowKit Go.Joins

theorem own : ownKnob Tryz.prog.godebug = none := by kernel_rfl
theorem laidOut : laidOutB Tryz.prog = true := by kernel_rfl
theorem gErr : Tryz.prog.globalNamed "errors.errorType" = some 0 := by kernel_rfl
theorem rtErr : (Tryz.prog.cutTypes.find? (·.1 == "internal/reflectlite.rtype")).map (·.2) = some 203 := by kernel_rfl
theorem oneErr : ((List.range Tryz.prog.types.size).filter fun t => Tryz.prog.rowNamed t [101, 114, 114, 111, 114]) = [63] := by kernel_rfl
theorem hdErr : typeHandle Tryz.prog 63 = .pointer (some ⟨2, 63, none⟩) := by kernel_rfl
theorem errT_of {W : World} (h : laidMetH Tryz.prog [("errors.errorType", Rows.laid_errors_errorType)] W) : ErrT W := by
  have h' : laidMet Tryz.prog [] W ∧ handlesMet Tryz.prog [("errors.errorType", Rows.laid_errors_errorType)] W := h
  obtain ⟨name, u, ty, e1, e2, e3, e4, e5⟩ := h'.2 _ (List.mem_singleton.2 rfl)
  have en : name = [101, 114, 114, 111, 114] := (Option.some.inj e1).symm
  subst en
  obtain rfl := Option.some.inj (rtErr.symm.trans e2)
  have hm : ty ∈ (List.range Tryz.prog.types.size).filter fun t => Tryz.prog.rowNamed t [101, 114, 114, 111, 114] := List.mem_filter.2 ⟨List.mem_range.2 e3, e4⟩
  rw [oneErr] at hm
  obtain rfl := List.mem_singleton.1 hm
  rw [hdErr] at e5
  have hc : W.cell? ⟨0, 0, none⟩ = some (.iface 203 (.agg #[.pointer (some ⟨2, 63, none⟩)])) := by simpa using World.var?_cell gErr e5 0
  refine ⟨?_, hc⟩
  rcases Nat.lt_or_ge 0 W.heap.size with hz | hz
  · exact hz
  · have hn : W.heap[0]? = none := Array.getElem?_eq_none hz
    simp [World.cell?, hn] at hc

/-- A world for a witness: the settled one, the variable's cell laid. -/
noncomputable def laidWorld (os : Os) : World :=
  { World.holding Tryz.prog os ⟨#[], #[], []⟩ with heap := (World.holding Tryz.prog os ⟨#[], #[], []⟩).heap.modify 0 fun
      | .cells _ t frozen => .cells #[.iface 203 (.agg #[.pointer (some ⟨2, 63, none⟩)])] t frozen
      | o => o }
end Go.Proofs.YtjomkjnpflebaaaGreatDoor
