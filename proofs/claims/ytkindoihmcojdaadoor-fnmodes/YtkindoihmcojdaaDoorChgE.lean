/-
  The contract of spec.ChangeMode, for every mode and every text.
  Conditions: the text has fewer than 4294967281 bytes.
-/
import Derived.Test.YtkindoihmcojdaaDoorChgD
import Derived.Laws.IdiomStrings
namespace Go.Proofs.YtkindoihmcojdaaDoor
open Go.ChangeShapes Go.WideShapes Go.ChangeAt Go.RowKit Go.Joins
set_option linter.unusedVariables false

theorem not_sign {x : UInt8} (h : sgnL.contains x = false) : ((x.toNat : Int) != 43) = true ∧ ((x.toNat : Int) != 45) = true ∧ ((x.toNat : Int) != 61) = true := by
  simp [sgnL] at h
  refine ⟨?_, ?_, ?_⟩
  all_goals
    rw [bne_iff_ne]
    intro e
  · exact h.1 (UInt8.toNat_inj.1 (by simp; omega))
  · exact h.2.1 (UInt8.toNat_inj.1 (by simp; omega))
  · exact h.2.2 (UInt8.toNat_inj.1 (by simp; omega))
theorem is_sign {x : UInt8} (h : sgnL.contains x = true) : x.toNat = 43 ∨ x.toNat = 45 ∨ x.toNat = 61 := by
  simp [sgnL] at h
  rcases h with rfl | rfl | rfl <;> simp
theorem neT {a b : Int} (h : a = b) : (a != b) = false := by simp [h]
theorem neF {a b : Int} (h : a ≠ b) : (a != b) = true := by simp [h]

/-- K is the place of the first sign of s, or its length. -/
def SignAt (s : ByteArray) (K : Nat) : Prop := K ≤ s.size ∧ (∀ (j : Nat) (h : j < s.size), j < K → sgnL.contains (s[j]'h) = false) ∧ (∀ h : K < s.size, sgnL.contains (s[K]'h) = true)
theorem signAt (s : ByteArray) : SignAt s (kOf s.data.toList) := by
  have hl := Lib.size_eq s
  refine ⟨by have := kOf_le s.data.toList; omega, fun j h hj => kOf_no _ j _ hj (Lib.data_getElem? s j h), fun h => kOf_yes _ _ (Lib.data_getElem? s _ h)⟩

/-- The end of the model's ChangeMode behind its loop. -/
noncomputable def specEnd (m : Int) (s : ByteArray) (K : Nat) : Option Int :=
  if inB 0 511 m = true ∧ 1 ≤ K ∧ K < s.size then
    match lettersOf whoB (s.extract 0 K).data.toList, lettersOf whatB (s.extract (K + 1) s.size).data.toList with
    | some a, some b => some (signed m (s.data.toList.getD K 0) a (bits BinOp.and IntKind.i64 a b))
    | _, _ => none
  else none
theorem spec_bad {m : Int} {s : ByteArray} {K : Nat} (h : ¬ (inB 0 511 m = true ∧ 1 ≤ K ∧ K < s.size)) : specEnd m s K = none := by unfold specEnd; rw [if_neg h]

theorem spec_who {m : Int} {s : ByteArray} {K : Nat} (h : lettersOf whoB (s.extract 0 K).data.toList = none) : specEnd m s K = none := by
  unfold specEnd
  split
  · rw [h]
  · rfl
theorem spec_what {m : Int} {s : ByteArray} {K : Nat} (h : lettersOf whatB (s.extract (K + 1) s.size).data.toList = none) : specEnd m s K = none := by
  unfold specEnd
  split
  · rw [h]
    cases lettersOf whoB (s.extract 0 K).data.toList <;> rfl
  · rfl
theorem spec_some {m : Int} {s : ByteArray} {K : Nat} {x : UInt8} {a b : Int} (h : inB 0 511 m = true ∧ 1 ≤ K ∧ K < s.size) (hx : s.data.toList.getD K 0 = x) (ha : lettersOf whoB (s.extract 0 K).data.toList = some a) (hb : lettersOf whatB (s.extract (K + 1) s.size).data.toList = some b) :
    lettersEnd (specEnd m s K) = .returned (.tuple #[.int .i64 (signed m x a (bits BinOp.and IntKind.i64 a b)), .bool true]) := by
  unfold specEnd
  rw [if_pos h, ha, hb]
  simp only []
  rw [hx]
  rfl
theorem ret_pair {k : IntKind} {a b : Int} {c : Bool} (h : a = b) : Ending.returned (.tuple #[.int k a, .bool c]) = .returned (.tuple #[.int k b, .bool c]) := by rw [h]
theorem minus_neg : decide (orMinus none < 0) = true := rfl
theorem some_pos (a : Int) (h : 0 ≤ a) : decide (orMinus (some a) < 0) = false := decide_eq_false (by show ¬ a < 0; omega)
theorem who_cells {w : World} {t : TypeId} : ∀ k, k < 4 → (w.alloc (.cells #[.int .i64 448, .int .i64 56, .int .i64 7, .int .i64 511] t)).cell? ⟨w.heap.size, k, none⟩ = some (.int .i64 (whoV k)) := by
  intro k hk
  rw [World.cell?_alloc_mark]
  rcases (show k = 0 ∨ k = 1 ∨ k = 2 ∨ k = 3 by omega) with rfl | rfl | rfl | rfl <;> rfl
theorem what_cells {w : World} {t : TypeId} : ∀ k, k < 3 → (w.alloc (.cells #[.int .i64 292, .int .i64 146, .int .i64 73] t)).cell? ⟨w.heap.size, k, none⟩ = some (.int .i64 (whatV k)) := by
  intro k hk
  rw [World.cell?_alloc_mark]
  rcases (show k = 0 ∨ k = 1 ∨ k = 2 by omega) with rfl | rfl | rfl <;> rfl

set_option maxRecDepth 100000 in
set_option maxHeartbeats 4000000 in
theorem specChange_at (m : Int) (s : ByteArray) (K : Nat) (w : World) (hs : s.size < 4294967281) (hK : SignAt s K) :
    Calls Tryd.prog 20 #[.int .i64 m, .string s] w fun e w' => e = lettersEnd (specEnd m s K) ∧ Below w.heap.size w w' := by
  obtain ⟨hk, hn, hy⟩ := hK
  have HN := Lib.hid hn
  have HY := Lib.hid hy
  clear hn hy
  go_enter Tryd.func20, Tryd.ntmps20
  go_wp2
  go_loop [6] (fun q => ∃ p : Nat, p ≤ K ∧ q = .int .i64 p) (fun q => K - (intOf q).toNat)
  case atStart => exact ⟨0, by omega, rfl⟩
  case round =>
    obtain ⟨p, hp, rfl⟩ := hrel
    by_cases hpk : p < K
    · have hps : p < s.size := by omega
      obtain ⟨x, hx⟩ : ∃ x : UInt8, s[p]'hps = x := ⟨_, rfl⟩
      obtain ⟨n1, n2, n3⟩ := not_sign (x := x) (by rw [← hx]; exact HN.out p hps hpk)
      go_wp2
      go_round
      case rel => exact ⟨p + 1, by omega, by go_num⟩
      case measure => simp [intOf]; omega
    · obtain rfl : p = K := by omega
      by_cases hend : p < s.size
      · obtain ⟨x, hx⟩ : ∃ x : UInt8, s[p]'hend = x := ⟨_, rfl⟩
        have hsg := is_sign (x := x) (by rw [← hx]; exact HY.out hend)
        have hpe := eqF (show (p : Int) ≠ (s.size : Int) by omega)
        have hxl := Lib.hid (show s.data.toList.getD p 0 = x by rw [List.getD_eq_getElem?_getD, Lib.data_getElem? s p hend, hx]; rfl)
        have hl0 := ext_size s 0 p hs
        have hl1 := ext_size s (p + 1) s.size hs
        rcases hsg with hg | hg | hg
        · have n1 := neT (show (x.toNat : Int) = 43 by omega)
          have q1 := eqT (show (x.toNat : Int) = 43 by omega)
          have HG := Lib.hid hg
          clear hg
          by_cases hm : inB 0 511 m = true
          · by_cases h0 : p = 0
            · have e0 := eqT (show (p : Int) = 0 by omega)
              have HH := Lib.hid h0
              clear h0
              go_wp2_with (go_at_call 25; refine (l1Mode_any _ _).mono ?_; rintro e w' ⟨rfl, rfl⟩)
              go_ret2
              exact ⟨by rw [spec_bad (by have := HH.out; omega)]; rfl, by go_grown⟩
            · have e0 := eqF (show (p : Int) ≠ 0 by omega)
              have h1p : 1 ≤ p := by omega
              have HC := Lib.hid (And.intro hm (And.intro h1p hend))
              cases ha : lettersOf whoB (s.extract 0 p).data.toList with
              | none =>
                have HA := Lib.hid ha
                clear ha
                go_wp2_with (go_at_call 25; refine (l1Mode_any _ _).mono ?_; rintro e w' ⟨rfl, rfl⟩)
                refine (specWho_any _ _ _ hl0 who_cells).mono ?_
                rintro e w1 ⟨rfl, hb1⟩
                rw [HA.out]
                go_wp2_with fail
                refine (specWhat_any _ _ _ hl1 what_cells).mono ?_
                rintro e w2 ⟨rfl, hb2⟩
                have hneg := minus_neg
                go_wp2
                go_ret2
                refine ⟨by rw [spec_who HA.out]; rfl, ?_⟩
                exact (((Below.refl _ _).alloc (Nat.le_refl _) _).trans (hb1.mono (by simp))).trans (Below.trans ((Below.refl _ _).alloc (by have := hb1.size; simp at this; omega) _) (hb2.mono (by have := hb1.size; simp at this; simp; omega)))
              | some a =>
                have ra := letters_range whoB_range ha
                have HA := Lib.hid ha
                clear ha
                cases hb : lettersOf whatB (s.extract (p + 1) s.size).data.toList with
                | none =>
                  have HB := Lib.hid hb
                  clear hb
                  go_wp2_with (go_at_call 25; refine (l1Mode_any _ _).mono ?_; rintro e w' ⟨rfl, rfl⟩)
                  refine (specWho_any _ _ _ hl0 who_cells).mono ?_
                  rintro e w1 ⟨rfl, hb1⟩
                  rw [HA.out]
                  go_wp2_with fail
                  refine (specWhat_any _ _ _ hl1 what_cells).mono ?_
                  rintro e w2 ⟨rfl, hb2⟩
                  rw [HB.out]
                  have hneg := minus_neg
                  have hpos := some_pos a ra.1
                  go_wp2
                  go_ret2
                  refine ⟨by rw [spec_what HB.out]; rfl, ?_⟩
                  exact (((Below.refl _ _).alloc (Nat.le_refl _) _).trans (hb1.mono (by simp))).trans (Below.trans ((Below.refl _ _).alloc (by have := hb1.size; simp at this; omega) _) (hb2.mono (by have := hb1.size; simp at this; simp; omega)))
                | some b =>
                  have rb := letters_range whatB_range hb
                  have HB := Lib.hid hb
                  clear hb
                  go_wp2_with (go_at_call 25; refine (l1Mode_any _ _).mono ?_; rintro e w' ⟨rfl, rfl⟩)
                  refine (specWho_any _ _ _ hl0 who_cells).mono ?_
                  rintro e w1 ⟨rfl, hb1⟩
                  rw [HA.out]
                  go_wp2_with fail
                  refine (specWhat_any _ _ _ hl1 what_cells).mono ?_
                  rintro e w2 ⟨rfl, hb2⟩
                  rw [HB.out]
                  have hpa := some_pos a ra.1
                  have hpb := some_pos b rb.1
                  go_wp2
                  go_ret2
                  refine ⟨?_, ?_⟩
                  · rw [spec_some HC.out hxl.out HA.out HB.out]
                    exact ret_pair (by simp [signed, HG.out, orMinus])
                  · exact (((Below.refl _ _).alloc (Nat.le_refl _) _).trans (hb1.mono (by simp))).trans (Below.trans ((Below.refl _ _).alloc (by have := hb1.size; simp at this; omega) _) (hb2.mono (by have := hb1.size; simp at this; simp; omega)))
          · have hm' : inB 0 511 m = false := by simpa using hm
            go_wp2_with (go_at_call 25; refine (l1Mode_any _ _).mono ?_; rintro e w' ⟨rfl, rfl⟩)
            go_ret2
            exact ⟨by rw [spec_bad (fun h => hm h.1)]; rfl, by go_grown⟩
        · have n1 := neF (show (x.toNat : Int) ≠ 43 by omega)
          have n2 := neT (show (x.toNat : Int) = 45 by omega)
          have q1 := eqF (show (x.toNat : Int) ≠ 43 by omega)
          have q2 := eqT (show (x.toNat : Int) = 45 by omega)
          have HG := Lib.hid hg
          clear hg
          by_cases hm : inB 0 511 m = true
          · by_cases h0 : p = 0
            · have e0 := eqT (show (p : Int) = 0 by omega)
              have HH := Lib.hid h0
              clear h0
              go_wp2_with (go_at_call 25; refine (l1Mode_any _ _).mono ?_; rintro e w' ⟨rfl, rfl⟩)
              go_ret2
              exact ⟨by rw [spec_bad (by have := HH.out; omega)]; rfl, by go_grown⟩
            · have e0 := eqF (show (p : Int) ≠ 0 by omega)
              have h1p : 1 ≤ p := by omega
              have HC := Lib.hid (And.intro hm (And.intro h1p hend))
              cases ha : lettersOf whoB (s.extract 0 p).data.toList with
              | none =>
                have HA := Lib.hid ha
                clear ha
                go_wp2_with (go_at_call 25; refine (l1Mode_any _ _).mono ?_; rintro e w' ⟨rfl, rfl⟩)
                refine (specWho_any _ _ _ hl0 who_cells).mono ?_
                rintro e w1 ⟨rfl, hb1⟩
                rw [HA.out]
                go_wp2_with fail
                refine (specWhat_any _ _ _ hl1 what_cells).mono ?_
                rintro e w2 ⟨rfl, hb2⟩
                have hneg := minus_neg
                go_wp2
                go_ret2
                refine ⟨by rw [spec_who HA.out]; rfl, ?_⟩
                exact (((Below.refl _ _).alloc (Nat.le_refl _) _).trans (hb1.mono (by simp))).trans (Below.trans ((Below.refl _ _).alloc (by have := hb1.size; simp at this; omega) _) (hb2.mono (by have := hb1.size; simp at this; simp; omega)))
              | some a =>
                have ra := letters_range whoB_range ha
                have HA := Lib.hid ha
                clear ha
                cases hb : lettersOf whatB (s.extract (p + 1) s.size).data.toList with
                | none =>
                  have HB := Lib.hid hb
                  clear hb
                  go_wp2_with (go_at_call 25; refine (l1Mode_any _ _).mono ?_; rintro e w' ⟨rfl, rfl⟩)
                  refine (specWho_any _ _ _ hl0 who_cells).mono ?_
                  rintro e w1 ⟨rfl, hb1⟩
                  rw [HA.out]
                  go_wp2_with fail
                  refine (specWhat_any _ _ _ hl1 what_cells).mono ?_
                  rintro e w2 ⟨rfl, hb2⟩
                  rw [HB.out]
                  have hneg := minus_neg
                  have hpos := some_pos a ra.1
                  go_wp2
                  go_ret2
                  refine ⟨by rw [spec_what HB.out]; rfl, ?_⟩
                  exact (((Below.refl _ _).alloc (Nat.le_refl _) _).trans (hb1.mono (by simp))).trans (Below.trans ((Below.refl _ _).alloc (by have := hb1.size; simp at this; omega) _) (hb2.mono (by have := hb1.size; simp at this; simp; omega)))
                | some b =>
                  have rb := letters_range whatB_range hb
                  have HB := Lib.hid hb
                  clear hb
                  go_wp2_with (go_at_call 25; refine (l1Mode_any _ _).mono ?_; rintro e w' ⟨rfl, rfl⟩)
                  refine (specWho_any _ _ _ hl0 who_cells).mono ?_
                  rintro e w1 ⟨rfl, hb1⟩
                  rw [HA.out]
                  go_wp2_with fail
                  refine (specWhat_any _ _ _ hl1 what_cells).mono ?_
                  rintro e w2 ⟨rfl, hb2⟩
                  rw [HB.out]
                  have hpa := some_pos a ra.1
                  have hpb := some_pos b rb.1
                  go_wp2
                  go_ret2
                  refine ⟨?_, ?_⟩
                  · rw [spec_some HC.out hxl.out HA.out HB.out]
                    exact ret_pair (by simp [signed, HG.out, orMinus])
                  · exact (((Below.refl _ _).alloc (Nat.le_refl _) _).trans (hb1.mono (by simp))).trans (Below.trans ((Below.refl _ _).alloc (by have := hb1.size; simp at this; omega) _) (hb2.mono (by have := hb1.size; simp at this; simp; omega)))
          · have hm' : inB 0 511 m = false := by simpa using hm
            go_wp2_with (go_at_call 25; refine (l1Mode_any _ _).mono ?_; rintro e w' ⟨rfl, rfl⟩)
            go_ret2
            exact ⟨by rw [spec_bad (fun h => hm h.1)]; rfl, by go_grown⟩
        · have n1 := neF (show (x.toNat : Int) ≠ 43 by omega)
          have n2 := neF (show (x.toNat : Int) ≠ 45 by omega)
          have n3 := neT (show (x.toNat : Int) = 61 by omega)
          have q1 := eqF (show (x.toNat : Int) ≠ 43 by omega)
          have q2 := eqF (show (x.toNat : Int) ≠ 45 by omega)
          have HG := Lib.hid hg
          clear hg
          by_cases hm : inB 0 511 m = true
          · by_cases h0 : p = 0
            · have e0 := eqT (show (p : Int) = 0 by omega)
              have HH := Lib.hid h0
              clear h0
              go_wp2_with (go_at_call 25; refine (l1Mode_any _ _).mono ?_; rintro e w' ⟨rfl, rfl⟩)
              go_ret2
              exact ⟨by rw [spec_bad (by have := HH.out; omega)]; rfl, by go_grown⟩
            · have e0 := eqF (show (p : Int) ≠ 0 by omega)
              have h1p : 1 ≤ p := by omega
              have HC := Lib.hid (And.intro hm (And.intro h1p hend))
              cases ha : lettersOf whoB (s.extract 0 p).data.toList with
              | none =>
                have HA := Lib.hid ha
                clear ha
                go_wp2_with (go_at_call 25; refine (l1Mode_any _ _).mono ?_; rintro e w' ⟨rfl, rfl⟩)
                refine (specWho_any _ _ _ hl0 who_cells).mono ?_
                rintro e w1 ⟨rfl, hb1⟩
                rw [HA.out]
                go_wp2_with fail
                refine (specWhat_any _ _ _ hl1 what_cells).mono ?_
                rintro e w2 ⟨rfl, hb2⟩
                have hneg := minus_neg
                go_wp2
                go_ret2
                refine ⟨by rw [spec_who HA.out]; rfl, ?_⟩
                exact (((Below.refl _ _).alloc (Nat.le_refl _) _).trans (hb1.mono (by simp))).trans (Below.trans ((Below.refl _ _).alloc (by have := hb1.size; simp at this; omega) _) (hb2.mono (by have := hb1.size; simp at this; simp; omega)))
              | some a =>
                have ra := letters_range whoB_range ha
                have HA := Lib.hid ha
                clear ha
                cases hb : lettersOf whatB (s.extract (p + 1) s.size).data.toList with
                | none =>
                  have HB := Lib.hid hb
                  clear hb
                  go_wp2_with (go_at_call 25; refine (l1Mode_any _ _).mono ?_; rintro e w' ⟨rfl, rfl⟩)
                  refine (specWho_any _ _ _ hl0 who_cells).mono ?_
                  rintro e w1 ⟨rfl, hb1⟩
                  rw [HA.out]
                  go_wp2_with fail
                  refine (specWhat_any _ _ _ hl1 what_cells).mono ?_
                  rintro e w2 ⟨rfl, hb2⟩
                  rw [HB.out]
                  have hneg := minus_neg
                  have hpos := some_pos a ra.1
                  go_wp2
                  go_ret2
                  refine ⟨by rw [spec_what HB.out]; rfl, ?_⟩
                  exact (((Below.refl _ _).alloc (Nat.le_refl _) _).trans (hb1.mono (by simp))).trans (Below.trans ((Below.refl _ _).alloc (by have := hb1.size; simp at this; omega) _) (hb2.mono (by have := hb1.size; simp at this; simp; omega)))
                | some b =>
                  have rb := letters_range whatB_range hb
                  have HB := Lib.hid hb
                  clear hb
                  go_wp2_with (go_at_call 25; refine (l1Mode_any _ _).mono ?_; rintro e w' ⟨rfl, rfl⟩)
                  refine (specWho_any _ _ _ hl0 who_cells).mono ?_
                  rintro e w1 ⟨rfl, hb1⟩
                  rw [HA.out]
                  go_wp2_with fail
                  refine (specWhat_any _ _ _ hl1 what_cells).mono ?_
                  rintro e w2 ⟨rfl, hb2⟩
                  rw [HB.out]
                  have hpa := some_pos a ra.1
                  have hpb := some_pos b rb.1
                  go_wp2
                  go_ret2
                  refine ⟨?_, ?_⟩
                  · rw [spec_some HC.out hxl.out HA.out HB.out]
                    exact ret_pair (by simp [signed, HG.out, orMinus])
                  · exact (((Below.refl _ _).alloc (Nat.le_refl _) _).trans (hb1.mono (by simp))).trans (Below.trans ((Below.refl _ _).alloc (by have := hb1.size; simp at this; omega) _) (hb2.mono (by have := hb1.size; simp at this; simp; omega)))
          · have hm' : inB 0 511 m = false := by simpa using hm
            go_wp2_with (go_at_call 25; refine (l1Mode_any _ _).mono ?_; rintro e w' ⟨rfl, rfl⟩)
            go_ret2
            exact ⟨by rw [spec_bad (fun h => hm h.1)]; rfl, by go_grown⟩
      · obtain rfl : p = s.size := by omega
        have hq := eqT (rfl : (s.size : Int) = (s.size : Int))
        by_cases hm : inB 0 511 m = true
        · by_cases h0 : s.size = 0
          · have e0 := eqT (show (s.size : Int) = 0 by omega)
            have HH := Lib.hid h0
            clear h0
            go_wp2_with (go_at_call 25; refine (l1Mode_any _ _).mono ?_; rintro e w' ⟨rfl, rfl⟩)
            go_ret2
            exact ⟨by rw [spec_bad (by omega)]; rfl, by go_grown⟩
          · have e0 := eqF (show (s.size : Int) ≠ 0 by omega)
            go_wp2_with (go_at_call 25; refine (l1Mode_any _ _).mono ?_; rintro e w' ⟨rfl, rfl⟩)
            go_ret2
            exact ⟨by rw [spec_bad (by omega)]; rfl, by go_grown⟩
        · have hm' : inB 0 511 m = false := by simpa using hm
          go_wp2_with (go_at_call 25; refine (l1Mode_any _ _).mono ?_; rintro e w' ⟨rfl, rfl⟩)
          go_ret2
          exact ⟨by rw [spec_bad (by omega)]; rfl, by go_grown⟩
end Go.Proofs.YtkindoihmcojdaaDoor
