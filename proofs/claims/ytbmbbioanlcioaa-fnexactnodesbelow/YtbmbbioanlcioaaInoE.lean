
/-
  Contracts of the program's comesFromRoot, isWellPlaced, areWellPlaced.
  Conditions: at most 2^20 values and letters together; every entry leads to a node.
-/
import Derived.Test.YtbmbbioanlcioaaInoD
namespace Go.Proofs.Ytbmbbioanlcioaa
open Go.ChangeShapes Go.WideShapes Go.ChangeAt Go.RowKit Go.Joins
set_option linter.unusedVariables false
set_option linter.unusedSimpArgs false

set_option maxHeartbeats 2000000 in
theorem comesFromRoot_any (n : Nat) (P : Int → Pl) (B : Nat) (v : Value) (i : Int) (w : World) (hR : PlsA w B v n P) (hn : n ≤ 1048576) (hin : ∀ k, 0 ≤ upN P k i ∧ upN P k i < n) : Calls Try.prog 110 #[v, .int .i64 i] w fun e w' => e = .returned (.bool (upN P n i == 0)) ∧ w = w' := by
  obtain ⟨G, c, rfl, h1, h2, -, hr⟩ := hR
  have HR := Lib.hid hr
  have HI := Lib.hid hin
  clear hr hin
  unfold maxLen at h2
  go_enter Try.func110, Try.ntmps110
  go_wp2
  go_loop [1, 7] (fun t x => ∃ k : Nat, k ≤ n ∧ x = .int .i64 k ∧ t = .int .i64 (upN P k i)) (fun _ x => n - (intOf x).toNat)
  case atStart => exact ⟨0, Nat.zero_le _, rfl, rfl⟩
  case round =>
    obtain ⟨k, hk, rfl, rfl⟩ := hrel
    by_cases hlt : k < n
    · obtain ⟨u0, u1⟩ := HI.out k
      have HNX : Hid (upN P (k + 1) i = ((P (upN P k i)).dir : Int)) := Lib.hid rfl
      obtain ⟨m, hm⟩ : ∃ m : Nat, upN P k i = m := ⟨(upN P k i).toNat, by omega⟩
      rw [hm] at u0 u1 HNX ⊢
      have hm2 : m < n := by omega
      have b1 := HR.out.cell (j := m * 3 + 1) (by omega)
      rw [plF1] at b1
      clear hm
      go_wp2
      go_round
      case rel => exact ⟨k + 1, hlt, by go_num, by rw [HNX.out]⟩
      case measure => simp [intOf]; omega
    · obtain rfl : k = n := by omega
      go_wp2
      go_ret
      exact ⟨rfl, rfl⟩

def wellV (kind : Int) (node : Nat) (n : Nat) (P : Int → Pl) : Bool :=
  if node = 0 ∨ kind = 0 then (P node).links == 0
  else if kind = 2 then (P node).links == 1 && upN P n node == 0
  else decide (1 ≤ (P node).links)
theorem comes_is {n : Nat} {P : Int → Pl} {B : Nat} {v : Value} {i : Int} {w : World} {b : Bool} (h : (upN P n i == 0) = b) (hR : PlsA w B v n P) (hn : n ≤ 1048576) (hin : ∀ k, 0 ≤ upN P k i ∧ upN P k i < n) : Calls Try.prog 110 #[v, .int .i64 i] w fun e w' => e = .returned (.bool b) ∧ w = w' :=
  (comesFromRoot_any n P B v i w hR hn hin).mono fun e w' ⟨h1, h2⟩ => ⟨by rw [h1, h], h2⟩

set_option maxHeartbeats 2000000 in
theorem isWellPlaced_any (kind : Int) (m n : Nat) (P : Int → Pl) (B : Nat) (v : Value) (w : World) (hR : PlsA w B v n P) (hn : n ≤ 1048576) (hm : m < n) (hlk : (P m).links ≤ 1048576) (hin : ∀ k, 0 ≤ upN P k (m : Int) ∧ upN P k (m : Int) < n) : Calls Try.prog 93 #[.int .i64 kind, .int .i64 (m : Int), v] w fun e w' => e = .returned (.bool (wellV kind m n P)) ∧ w = w' := by
  have HP := Lib.hid hR
  obtain ⟨G, c, rfl, h1, h2, -, hr⟩ := hR
  have HI := Lib.hid hin
  have b0 := hr.cell (j := m * 3) (by omega)
  rw [plF0] at b0
  unfold maxLen at h2
  have HW : Hid (wellV kind m n P = if m = 0 ∨ kind = 0 then (P m).links == 0 else if kind = 2 then (P m).links == 1 && upN P n m == 0 else decide (1 ≤ (P m).links)) := Lib.hid rfl
  obtain ⟨N, hN⟩ : ∃ N, N = (P m).links := ⟨_, rfl⟩
  rw [← hN] at b0 hlk HW
  clear hr hin hN
  by_cases ha : m = 0
  · subst ha
    rw [if_pos (.inl rfl)] at HW
    go_enter Try.func93, Try.ntmps93
    go_wp2
    all_goals
      go_ret
      exact ⟨ret_bool (by rw [HW.out, Bool.eq_iff_iff]; simp), rfl⟩
  have hm0 : ¬ ((m : Int) = 0) := by omega
  by_cases hb : kind = 0
  · subst hb
    rw [if_pos (.inr rfl)] at HW
    go_enter Try.func93, Try.ntmps93
    go_wp2
    all_goals
      go_ret
      exact ⟨ret_bool (by rw [HW.out, Bool.eq_iff_iff]; simp), rfl⟩
  rw [if_neg (by rintro (h | h) <;> contradiction)] at HW
  by_cases hc : kind = 2
  · subst hc
    rw [if_pos rfl] at HW
    by_cases hd : N = 1
    · subst hd
      obtain ⟨bb, hbb⟩ : ∃ bb, (upN P n (m : Int) == 0) = bb := ⟨_, rfl⟩
      have HBB := Lib.hid hbb
      rw [hbb] at HW
      clear hbb
      go_enter Try.func93, Try.ntmps93
      go_wp2_with (go_at_call 110; refine (comes_is HBB.out HP.out hn HI.out).mono ?_; rintro e w' ⟨rfl, rfl⟩)
      all_goals
        go_ret
        exact ⟨ret_bool (by rw [HW.out]; simp), rfl⟩
    · have hd1 : ((N : Int) == 1) = false := by rw [beq_eq_false_iff_ne]; omega
      go_enter Try.func93, Try.ntmps93
      go_wp2
      all_goals
        go_ret
        exact ⟨ret_bool (by rw [HW.out]; simp [hd]), rfl⟩
  · rw [if_neg hc] at HW
    have kb : (kind == 0) = false := beq_eq_false_iff_ne.2 hb
    have kc : (kind == 2) = false := beq_eq_false_iff_ne.2 hc
    go_enter Try.func93, Try.ntmps93
    go_wp2
    all_goals
      go_ret
      refine ⟨ret_bool ?_, rfl⟩
      rw [HW.out, Bool.eq_iff_iff]
      simp
      try omega
theorem well_is {kind : Int} {m n : Nat} {P : Int → Pl} {B : Nat} {v : Value} {w : World} {b : Bool} (h : wellV kind m n P = b) (hR : PlsA w B v n P) (hn : n ≤ 1048576) (hm : m < n) (hlk : (P m).links ≤ 1048576) (hin : ∀ k, 0 ≤ upN P k (m : Int) ∧ upN P k (m : Int) < n) : Calls Try.prog 93 #[.int .i64 kind, .int .i64 (m : Int), v] w fun e w' => e = .returned (.bool b) ∧ w = w' :=
  (isWellPlaced_any kind m n P B v w hR hn hm hlk hin).mono fun e w' ⟨h1, h2⟩ => ⟨by rw [h1, h], h2⟩

/-- All nodes are where they may be. -/
def WellP (ns : List Nod) : Prop := kindAt ns 0 = 2 ∧ ∀ k, k < ns.length → wellB ns (placesF ns) k = true
open Classical in
noncomputable def wellF (ns : List Nod) : Bool := decide (WellP ns)
theorem wellF_no {ns : List Nod} (h : ¬ WellP ns) : false = wellF ns := by unfold wellF; simp [h]
theorem wellF_yes {ns : List Nod} (h : WellP ns) : true = wellF ns := by unfold wellF; simp [h]

set_option maxHeartbeats 2000000 in
theorem areWellPlaced_any (ns : List Nod) (v : Value) (w : World) (hR : NodsA w v ns) (hs : szNs ns ≤ 1048576) (hl : ns.length ≤ 1048576) (hpos : 0 < ns.length) (hld : Lead ns) : Calls Try.prog 66 #[v] w fun e w' => e = .returned (.bool (wellF ns)) ∧ Below w.heap.size w w' := by
  have HR := Lib.hid hR
  obtain ⟨o, c, rfl, hm, hH⟩ := hR
  have HH := Lib.hid hH
  clear hH
  unfold maxLen at hm
  obtain ⟨g, off, lv0, rfl, hg, hcc, -, -⟩ := HH.out 0 hpos
  have d0 := hcc.c0
  rw [Nat.zero_mul, Nat.add_zero] at d0
  obtain ⟨kd, hkd⟩ : ∃ kd, kd = ns[0].kind := ⟨_, rfl⟩
  rw [← hkd] at d0
  have HKD : Hid (kindAt ns 0 = kd) := Lib.hid (by rw [hkd]; simp [kindAt, List.getD, hpos])
  clear hcc hkd
  by_cases c4 : kd = 2
  · subst c4
    have HI : Hid (∀ m : Nat, m < ns.length → ∀ k, 0 ≤ upN (placesF ns) k (m : Int) ∧ upN (placesF ns) k (m : Int) < ns.length) := Lib.hid (fun m hm k => upN_in hpos (by omega) (by omega) k)
    have HLK : Hid (∀ i, (placesF ns i).links ≤ 1048576) := Lib.hid (fun i => by have := links_le i ns; rw [pl_links]; omega)
    go_enter Try.func66, Try.ntmps66
    go_wp2_with fail
    refine (placesIn_any ns _ _ HR.out hs hl hld).mono ?_
    rintro e w1 ⟨u, rfl, hp, hb1⟩
    have HP := Lib.hid hp
    have HB1 := Lib.hid hb1
    obtain ⟨G, cp, rfl, -, -, -, -⟩ := hp
    clear hb1 d0
    go_wp2
    go_loop [14] (fun i => ∃ k : Nat, k ≤ ns.length ∧ i = .int .i64 k ∧ ∀ j, j < k → wellB ns (placesF ns) j = true) (fun i => ns.length - (intOf i).toNat)
    case atStart => exact ⟨0, Nat.zero_le _, rfl, fun j h => absurd h (Nat.not_lt_zero _)⟩
    case round =>
      obtain ⟨k, hk, rfl, hJ⟩ := hrel
      have HJ := Lib.hid hJ
      clear hJ
      by_cases hlt : k < ns.length
      · obtain ⟨g3, f3, lv, e3, hg3, hcc, -, -⟩ := HH.out k hlt
        obtain ⟨rfl, rfl⟩ : g = g3 ∧ off = f3 := by simpa using e3
        have d0 := (hcc.below HB1.out hg3).c0
        obtain ⟨kq, hkq⟩ : ∃ kq, kq = ns[k].kind := ⟨_, rfl⟩
        rw [← hkq] at d0
        have HW : Hid (wellB ns (placesF ns) k = wellV kq k ns.length (placesF ns)) := Lib.hid (by
          have : kindAt ns (k : Int) = kq := by rw [hkq]; simp [kindAt, List.getD, hlt]
          unfold wellB wellV
          rw [this])
        clear hcc hkq e3
        by_cases hw : wellV kq k ns.length (placesF ns) = true
        · have HWV := Lib.hid hw
          have HJ2 : Hid (∀ j, j < k + 1 → wellB ns (placesF ns) j = true) := Lib.hid (by
            intro j h
            rcases Nat.lt_succ_iff_lt_or_eq.1 h with h1 | rfl
            · exact HJ.out j h1
            · rw [HW.out, hw])
          go_wp2_with (go_at_call 93; refine (well_is HWV.out HP.out hl hlt (HLK.out _) (HI.out _ hlt)).mono ?_; rintro e w' ⟨rfl, rfl⟩)
          go_round
          case rel => exact ⟨k + 1, hlt, by go_num, HJ2.out⟩
          case measure => simp [intOf]; omega
        · have HWV : Hid (wellV kq k ns.length (placesF ns) = false) := Lib.hid (by simpa using hw)
          have HF : Hid (¬ WellP ns) := Lib.hid (fun h => hw (by rw [← HW.out]; exact h.2 k hlt))
          go_wp2_with (go_at_call 93; refine (well_is HWV.out HP.out hl hlt (HLK.out _) (HI.out _ hlt)).mono ?_; rintro e w' ⟨rfl, rfl⟩)
          go_ret
          exact ⟨ret_bool (wellF_no HF.out), HB1.out⟩
      · go_wp2
        go_ret
        exact ⟨ret_bool (wellF_yes ⟨HKD.out, fun k h => HJ.out k (by omega)⟩), HB1.out⟩
  · have HF : Hid (¬ WellP ns) := Lib.hid (fun h => c4 (by rw [← HKD.out]; exact h.1))
    have c4b : (kd == 2) = false := beq_eq_false_iff_ne.2 c4
    have c4d : (kd != 2) = true := by simpa using c4
    go_enter Try.func66, Try.ntmps66
    go_wp2
    go_ret
    exact ⟨ret_bool (wellF_no HF.out), Below.refl _ _⟩
end Go.Proofs.Ytbmbbioanlcioaa
