/-
  Joined: NewA MarkG MarkH MarkI AnsM FileA SetM DrfA InsB.
  Conditions: as each states.
-/
import Derived.BigQuiet
import Derived.Deep.QuietTactic
import Derived.Lib.QuietBelow
import Derived.Laws.OwnMore
import Derived.Test.YtknhacblialboaaGreatDoorLib2
import Derived.Test.YtknhacblialboaaGreatDoorLib3
import Derived.Test.YtknhacblialboaaGreatDoorLib10
import Derived.Test.YtknhacblialboaaGreatDoorLib11
import Derived.Test.YtknhacblialboaaGreatDoorLib12
import Derived.Test.YtknhacblialboaaGreatDoorLib15
import Derived.Test.YtknhacblialboaaGreatDoorLib17
namespace Go.Proofs.YtknhacblialboaaGreatDoor
open Go.ChangeShapes Go.WideShapes Go.ChangeAt Go.RowKit Go.Joins
set_option linter.unusedVariables false
set_option linter.unusedSimpArgs false
set_option maxHeartbeats 16000000
theorem markEntryS_nil (k : Int) (w : World) : Calls Tryz.prog 74 #[.slice none 0 0, .int .i64 k] w fun e w' => e = .returned (.int .i64 k) ∧ w = w' := by
 go_enter Tryz.func74, Tryz.ntmps74
 go_wp2
 go_rounds 1
 go_ret
 exact ⟨rfl, rfl⟩
theorem heldEntryS_nil (k : Int) (w : World) : Calls Tryz.prog 75 #[.slice none 0 0, .int .i64 k] w fun e w' => e = .returned (.int .i64 k) ∧ w = w' := by
 go_enter Tryz.func75, Tryz.ntmps75
 go_wp2
 go_rounds 1
 go_ret
 exact ⟨rfl, rfl⟩
theorem markNodeS_nil (k : Int) (w : World) : Calls Tryz.prog 41 #[.slice none 0 0, .int .i64 k] w fun e w' => e = .returned (.int .i64 k) ∧ w = w' := by
 go_enter Tryz.func41, Tryz.ntmps41
 go_wp2
 go_rounds 1
 go_ret
 exact ⟨rfl, rfl⟩
theorem heldNodeS_nil (k : Int) (w : World) : Calls Tryz.prog 42 #[.slice none 0 0, .int .i64 k] w fun e w' => e = .returned (.int .i64 k) ∧ w = w' := by
 go_enter Tryz.func42, Tryz.ntmps42
 go_wp2
 go_rounds 1
 go_ret
 exact ⟨rfl, rfl⟩
def OnlyB (w w' : World) (G : Nat) : Prop := w.heap.size ≤ w'.heap.size ∧ ∀ b, b < w.heap.size → b ≠ G → w'.heap[b]? = w.heap[b]?
theorem OnlyB.refl (w : World) (G : Nat) : OnlyB w w G := ⟨Nat.le_refl _, fun _ _ _ => rfl⟩
theorem OnlyB.trans {a b c : World} {G : Nat} (h : OnlyB a b G) (k : OnlyB b c G) : OnlyB a c G := ⟨Nat.le_trans h.1 k.1, fun i hi hn => (k.2 i (Nat.lt_of_lt_of_le hi h.1) hn).trans (h.2 i hi hn)⟩
theorem OnlyB.below {a b : World} (G : Nat) (h : Below a.heap.size a b) : OnlyB a b G := ⟨h.size, fun i hi _ => h.block i hi⟩
theorem OnlyB.set {a b : World} {G : Nat} (h : OnlyB a b G) (j : Nat) (u : Value) : OnlyB a (b.setCell ⟨G, j, none⟩ u) G := ⟨by simpa using h.1, fun i hi hn => (Below.heap_setCell b ⟨G, j, none⟩ u i hn).trans (h.2 i hi hn)⟩
def mkE (k j : Nat) : Value := if j % 2 = 0 then .string (mt (k + j)) else .int .i64 ((k + j : Nat) : Int)
theorem mkE_name (k i : Nat) : mkE k (i * 2) = .string (mt (k + i * 2)) := by unfold mkE; rw [if_pos (by omega)]
theorem mkE_node (k i : Nat) : mkE k (i * 2 + 1) = .int .i64 ((k + i * 2 : Nat) + 1 : Int) := by unfold mkE; rw [if_neg (by omega)]; congr 1
theorem some_int {a b : Int} (h : a = b) : some (Value.int .i64 a) = some (Value.int .i64 b) := by rw [h]
def mkN (k r : Nat) : Value := if r = 5 then .string (mt (k + 5)) else .int .i64 ((k + r : Nat) : Int)
theorem mkN_int {k r : Nat} {z : Int} (hr : r ≠ 5) (h : z = (k : Int) + r) : some (Value.int .i64 z) = some (mkN k r) := by
 unfold mkN; rw [if_neg hr]; exact some_int (by omega)
theorem markEntryS_val (G n c B E k : Nat) (w : World) (hs : Shp w G (n * 2) 126) (hnc : n ≤ c) (hcm : c ≤ maxLen) (hB : B ≤ G) (hGE : G < E) (hBw : B ≤ w.heap.size) (hk : 1 ≤ k) (hkn : k + n * 2 ≤ 90000000) : Calls Tryz.prog 74 #[.slice (some ⟨G, 0, none⟩) n c, .int .i64 (k : Int)] w fun e w' => e = .returned (.int .i64 ((k + n * 2 : Nat) : Int)) ∧ Wr B E w w' ∧ (∀ b, b < w.heap.size → b ≠ G → w'.heap[b]? = w.heap[b]?) ∧ ∀ i, i < n * 2 → w'.cell? ⟨G, i, none⟩ = some (mkE k i) := by
 have HS := qhZ hs
 clear hs
 unfold maxLen at hcm
 go_enter Tryz.func74, Tryz.ntmps74
 go_wp2
 go_loopw [1, 5] (fun t i wr => ∃ j : Nat, j ≤ n ∧ i = .int .i64 j ∧ t = .int .i64 ((k + j * 2 : Nat) : Int) ∧ Wr B E w wr ∧ (∀ b, b < w.heap.size → b ≠ G → wr.heap[b]? = w.heap[b]?) ∧ ∀ i, i < j * 2 → wr.cell? ⟨G, i, none⟩ = some (mkE k i)) (fun _ i _ => n - (intOf i).toNat)
 case atStart => exact ⟨0, Nat.zero_le _, rfl, by simp, Wr.refl _ _ _, fun _ _ _ => rfl, fun i hi => absurd hi (by omega)⟩
 case round =>
   obtain ⟨j, hj, rfl, rfl, hW, hO, hM⟩ := hrel
   have HW := qhZ hW
   have HO := qhZ hO
   have HM := qhZ hM
   have hsz := hW.bel.size
   clear hW hO hM
   by_cases hlt : j < n
   · go_wp2_with fail
     refine (markText_any (k + j * 2) _ (by omega) (by omega)).mono ?_
     rintro e w1 ⟨rfl, hb1⟩
     have hs1 := (HW.out.shp _ _ _ HS.out).below hb1
     obtain ⟨u0, c0⟩ := hs1.cell (j := j * 2) (by omega)
     have f0 := hs1.frozen
     have HW1 := qhZ (HW.out.below (Nat.le_trans hBw HW.out.bel.size) hb1)
     have HO1 : Hid (∀ b, b < w.heap.size → b ≠ G → w1.heap[b]? = w.heap[b]?) := qhZ (fun b hb hn => (hb1.block b (by omega)).trans (HO.out b hb hn))
     have HM1 : Hid (∀ i, i < j * 2 → w1.cell? ⟨G, i, none⟩ = some (mkE k i)) := qhZ (fun i hi => (hb1.cell (p := ⟨G, i, none⟩) (HW.out.shp _ _ _ HS.out).lt).trans (HM.out i hi))
     obtain ⟨u1, c1⟩ := hs1.cell (j := j * 2 + 1) (by omega)
     have HC0 := qhZ c0
     have HC1 := qhZ c1
     clear hb1 hs1
     go_wp2
     go_roundw
     case rel =>
       refine ⟨j + 1, hlt, by go_num, by go_num, (HW1.out.set hB hGE _ _).set hB hGE _ _, fun b hb hn => ?_, fun i hi => ?_⟩
       · rw [Below.heap_setCell _ ⟨G, _, none⟩ _ b hn, Below.heap_setCell _ ⟨G, _, none⟩ _ b hn]
         exact HO1.out b hb hn
       · rcases (show i < j * 2 ∨ i = j * 2 ∨ i = j * 2 + 1 by omega) with h1 | rfl | rfl
         · rw [aS9 (by omega), aS9 (by omega)]; exact HM1.out i h1
         · rw [aS9 (by omega), World.cell?_setCell_same _ _ _ HC0.out, mkE_name]
         · rw [World.cell?_setCell_same _ _ _ ((aS9 (by omega)).trans HC1.out), mkE_node]
           exact some_int (by omega)
     case measure => simp [intOf]; omega
   · obtain rfl : j = n := by omega
     go_wp2
     go_ret
     exact ⟨rfl, HW.out, HO.out, HM.out⟩
def LV (w : World) (B E : Nat) (lv : Value) (m : Nat) : Prop := (lv = .slice none 0 0 ∧ m = 0) ∨ LShp w B E lv m
def EM (w : World) (lv : Value) (m k : Nat) : Prop := (lv = .slice none 0 0 ∧ m = 0) ∨ ∃ H c, lv = .slice (some ⟨H, 0, none⟩) m c ∧ m ≤ c ∧ c ≤ maxLen ∧ H < w.heap.size ∧ ∀ j, j < m * 2 → w.cell? ⟨H, j, none⟩ = some (mkE k j)
theorem EM.below {w w' : World} {lv : Value} {m k : Nat} (h : EM w lv m k) (hb : Below w.heap.size w w') : EM w' lv m k := by
 rcases h with h | ⟨H, c, rfl, h1, h2, h3, h4⟩
 · exact .inl h
 · exact .inr ⟨H, c, rfl, h1, h2, Nat.lt_of_lt_of_le h3 hb.size, fun j hj => (hb.cell (p := ⟨H, j, none⟩) h3).trans (h4 j hj)⟩
theorem EM.other {w w' : World} {lv : Value} {m k : Nat} (h : EM w lv m k) (hs : w.heap.size ≤ w'.heap.size) (hb : ∀ b, lv.ownBlock = some b → w'.heap[b]? = w.heap[b]?) : EM w' lv m k := by
 rcases h with h | ⟨H, c, rfl, h1, h2, h3, h4⟩
 · exact .inl h
 · refine .inr ⟨H, c, rfl, h1, h2, Nat.lt_of_lt_of_le h3 hs, fun j hj => ?_⟩
   rw [← h4 j hj]
   unfold World.cell?
   rw [hb H rfl]
theorem LV.wr {w w' : World} {B E : Nat} {lv : Value} {m : Nat} (h : LV w B E lv m) (hW : Wr B E w w') : LV w' B E lv m := by
 rcases h with h | ⟨H, c, e, h1, h2, h3, h4⟩
 · exact .inl h
 · exact .inr ⟨H, c, e, h1, h2, h3, hW.shp _ _ _ h4⟩
theorem markEntryS_lv (lv : Value) (m B E k : Nat) (w : World) (h : LV w B E lv m) (hBw : B ≤ w.heap.size) (hk : 1 ≤ k) (hkn : k + m * 2 ≤ 90000000) : Calls Tryz.prog 74 #[lv, .int .i64 (k : Int)] w fun e w' => e = .returned (.int .i64 ((k + m * 2 : Nat) : Int)) ∧ Wr B E w w' ∧ (∀ b, b < w.heap.size → lv.ownBlock ≠ some b → w'.heap[b]? = w.heap[b]?) ∧ EM w' lv m k := by
 rcases h with ⟨rfl, rfl⟩ | ⟨H, c, rfl, h1, h2, h3, h4⟩
 · refine (markEntryS_nil (k : Int) w).mono ?_
   rintro e w' ⟨rfl, rfl⟩
   exact ⟨rfl, Wr.refl _ _ _, fun _ _ _ => rfl, .inl ⟨rfl, rfl⟩⟩
 · refine (markEntryS_val H m c B E k w h4 h1 h2 h3.1 h3.2 hBw hk hkn).mono ?_
   rintro e w' ⟨rfl, hW, hO, hM⟩
   exact ⟨rfl, hW, fun b hb hn => hO b hb (fun e => hn (by rw [e]; rfl)), .inr ⟨H, c, rfl, h1, h2, Nat.lt_of_lt_of_le h4.lt hW.bel.size, hM⟩⟩
theorem heldEntryS_val (H m c k : Nat) (w : World) (hmc : m ≤ c) (hcm : c ≤ maxLen) (hH : H < w.heap.size) (hM : ∀ j, j < m * 2 → w.cell? ⟨H, j, none⟩ = some (mkE k j)) (hk : 1 ≤ k) (hkn : k + m * 2 ≤ 90000000) : Calls Tryz.prog 75 #[.slice (some ⟨H, 0, none⟩) m c, .int .i64 (k : Int)] w fun e w' => e = .returned (.int .i64 ((k + m * 2 : Nat) : Int)) ∧ Below w.heap.size w w' := by
 have HM := qhZ hM
 clear hM
 unfold maxLen at hcm
 go_enter Tryz.func75, Tryz.ntmps75
 go_wp2
 go_loopw [1, 5] (fun t i wr => ∃ j : Nat, j ≤ m ∧ i = .int .i64 j ∧ t = .int .i64 ((k + j * 2 : Nat) : Int) ∧ Below w.heap.size w wr) (fun _ i _ => m - (intOf i).toNat)
 case atStart => exact ⟨0, Nat.zero_le _, rfl, by simp, Below.refl _ _⟩
 case round =>
   obtain ⟨j, hj, rfl, rfl, hB⟩ := hrel
   by_cases hlt : j < m
   · have hc0 : wr.cell? ⟨H, j * 2, none⟩ = some (.string (mt (k + j * 2))) := (hB.cell (p := ⟨H, j * 2, none⟩) hH).trans ((HM.out _ (by omega)).trans (by rw [mkE_name]))
     have hc1 : wr.cell? ⟨H, j * 2 + 1, none⟩ = some (.int .i64 ((k + j * 2 : Nat) + 1 : Int)) := (hB.cell (p := ⟨H, j * 2 + 1, none⟩) hH).trans ((HM.out _ (by omega)).trans (by rw [mkE_node]))
     go_wp2
     have z0 := fun d os => cell_regrown (w := wr) hc0 d os
     refine wp_region_quiet_below (by kernel_rfl) (by kernel_rfl) ?_
     repeat (first | go_big_quiet_step ((go_at_call 73; exact Calls.regrown_of (markText_any (k + j * 2) _ (by omega) (by omega)))) | quiet_step ((go_at_call 73; exact Calls.regrown_of (markText_any (k + j * 2) _ (by omega) (by omega)))))
     refine wpQuiet_nil ?_
     intro w5 hwq
     have hb5 : Below wr.heap.size wr w5 := by
       obtain ⟨pp, rfl⟩ := hwq
       exact below_regrown _ _ _
     have hc5 : w5.cell? ⟨H, j * 2 + 1, none⟩ = some (.int .i64 ((k + j * 2 : Nat) + 1 : Int)) := (hb5.cell (p := ⟨H, j * 2 + 1, none⟩) (Nat.lt_of_lt_of_le hH hB.size)).trans hc1
     clear hwq z0 hc0 hc1
     go_wp2
     go_roundw
     case rel => exact ⟨j + 1, hlt, by go_num, by go_num, hB.trans (hb5.mono hB.size)⟩
     case measure => simp [intOf]; omega
   · obtain rfl : j = m := by omega
     go_wp2
     go_ret
     exact ⟨rfl, hB⟩
theorem heldEntryS_lv (lv : Value) (m k : Nat) (w : World) (h : EM w lv m k) (hk : 1 ≤ k) (hkn : k + m * 2 ≤ 90000000) : Calls Tryz.prog 75 #[lv, .int .i64 (k : Int)] w fun e w' => e = .returned (.int .i64 ((k + m * 2 : Nat) : Int)) ∧ Below w.heap.size w w' := by
 rcases h with ⟨rfl, rfl⟩ | ⟨H, c, rfl, h1, h2, h3, h4⟩
 · refine (heldEntryS_nil (k : Int) w).mono ?_
   rintro e w' ⟨rfl, rfl⟩
   exact ⟨rfl, Below.refl _ _⟩
 · exact heldEntryS_val H m c k w h1 h2 h3 h4 hk hkn
theorem markText_z (z : Int) (m : Nat) (w : World) (hz : z = (m : Int)) (h0 : 1 ≤ m) (h1 : m ≤ 100000000) : Calls Tryz.prog 73 #[.int .i64 z] w fun e w' => e = .returned (.string (mt m)) ∧ Below w.heap.size w w' := by
 subst hz; exact markText_any m w h0 h1
theorem markEntryS_z (z : Int) (lv : Value) (m B E k : Nat) (w : World) (hz : z = (k : Int)) (h : LV w B E lv m) (hBw : B ≤ w.heap.size) (hk : 1 ≤ k) (hkn : k + m * 2 ≤ 90000000) : Calls Tryz.prog 74 #[lv, .int .i64 z] w fun e w' => e = .returned (.int .i64 ((k + m * 2 : Nat) : Int)) ∧ Wr B E w w' ∧ (∀ b, b < w.heap.size → lv.ownBlock ≠ some b → w'.heap[b]? = w.heap[b]?) ∧ EM w' lv m k := by
 subst hz; exact markEntryS_lv lv m B E k w h hBw hk hkn
theorem heldEntryS_z (z : Int) (lv : Value) (m k : Nat) (w : World) (hz : z = (k : Int)) (h : EM w lv m k) (hk : 1 ≤ k) (hkn : k + m * 2 ≤ 90000000) : Calls Tryz.prog 75 #[lv, .int .i64 z] w fun e w' => e = .returned (.int .i64 ((k + m * 2 : Nat) : Int)) ∧ Below w.heap.size w w' := by
 subst hz; exact heldEntryS_lv lv m k w h hk hkn
theorem LV.below {w w' : World} {B E : Nat} {lv : Value} {m : Nat} (h : LV w B E lv m) (hb : Below w.heap.size w w') : LV w' B E lv m := by
 rcases h with h | ⟨H, c, e, h1, h2, h3, h4⟩
 · exact .inl h
 · exact .inr ⟨H, c, e, h1, h2, h3, h4.below hb⟩
theorem LV.lt {w : World} {B E : Nat} {lv : Value} {m b : Nat} (h : LV w B E lv m) (hb : lv.ownBlock = some b) : b < w.heap.size := by
 rcases h with ⟨rfl, -⟩ | ⟨H, c, rfl, h1, h2, h3, h4⟩
 · simp [Value.ownBlock] at hb
 · simp [Value.ownBlock] at hb; subst hb; exact h4.lt
theorem markNodeS_val (G c B E : Nat) (ms : List Nat) (L : Nat → Value) (w : World) (hs : Shp w G (ms.length * 7) 55) (hL : ∀ i (h : i < ms.length), w.cell? ⟨G, i * 7 + 6, none⟩ = some (L i) ∧ LV w B E (L i) ms[i] ∧ (L i).ownBlock ≠ some G)
   (hD : ∀ i j, i < ms.length → j < ms.length → i ≠ j → (L i).ownBlock = none ∨ (L i).ownBlock ≠ (L j).ownBlock) (hnc : ms.length ≤ c) (hcm : c ≤ maxLen) (hB : B ≤ G) (hGE : G < E) (hBw : B ≤ w.heap.size) (hkn : cntM ms ≤ 80000000) :
   Calls Tryz.prog 41 #[.slice (some ⟨G, 0, none⟩) ms.length c, .int .i64 1] w fun e w' => e = .returned (.int .i64 ((1 + cntM ms : Nat) : Int)) ∧ Wr B E w w' ∧
     (∀ i (h : i < ms.length), w'.cell? ⟨G, i * 7 + 6, none⟩ = some (L i) ∧ (∀ r, r < 6 → w'.cell? ⟨G, i * 7 + r, none⟩ = some (mkN (1 + cntM (ms.take i)) r)) ∧ EM w' (L i) ms[i] (1 + cntM (ms.take i) + 6)) := by
 have HS := qhZ hs
 have HL := qhZ hL
 have HD := qhZ hD
 clear hL hs hD
 unfold maxLen at hcm
 go_enter Tryz.func41, Tryz.ntmps41
 go_wp2
 go_loopw [1, 5] (fun t i wr => ∃ j : Nat, j ≤ ms.length ∧ i = .int .i64 j ∧ t = .int .i64 ((1 + cntM (ms.take j) : Nat) : Int) ∧ Wr B E w wr ∧ (∀ i (h : i < ms.length), wr.cell? ⟨G, i * 7 + 6, none⟩ = some (L i)) ∧ ∀ i (h : i < ms.length), i < j → (∀ r, r < 6 → wr.cell? ⟨G, i * 7 + r, none⟩ = some (mkN (1 + cntM (ms.take i)) r)) ∧ EM wr (L i) ms[i] (1 + cntM (ms.take i) + 6)) (fun _ i _ => ms.length - (intOf i).toNat)
 case atStart => exact ⟨0, Nat.zero_le _, rfl, by simp [cntM], Wr.refl _ _ _, fun i h => (HL.out i h).1, fun i _ h => absurd h (by omega)⟩
 case round =>
   obtain ⟨j, hj, rfl, rfl, hW, hC, hM⟩ := hrel
   have HW := qhZ hW
   have HC := qhZ hC
   have HM := qhZ hM
   have hsz := hW.bel.size
   clear hW hC hM
   by_cases hlt : j < ms.length
   · obtain ⟨hlv, hLV, hnG⟩ := HL.out j hlt
     have HT := qhZ (cntM_take hlt)
     have hpre := cntM_pre ms (j + 1)
     rw [HT.out] at hpre
     have hsr := HW.out.shp _ _ _ HS.out
     obtain ⟨u0, c0⟩ := hsr.cell (j := j * 7) (by omega)
     obtain ⟨u1, c1⟩ := hsr.cell (j := j * 7 + 1) (by omega)
     obtain ⟨u2, c2⟩ := hsr.cell (j := j * 7 + 2) (by omega)
     obtain ⟨u3, c3⟩ := hsr.cell (j := j * 7 + 3) (by omega)
     obtain ⟨u4, c4⟩ := hsr.cell (j := j * 7 + 4) (by omega)
     have cf := hsr.frozen
     have HSR := qhZ hsr
     have HLV := qhZ (hLV.wr HW.out)
     have HNG := qhZ hnG
     obtain ⟨s, hs⟩ : ∃ s, s = 1 + cntM (ms.take j) := ⟨_, rfl⟩
     have HSS := qhZ hs
     have hx1 : 1 ≤ s := by omega
     have hx2 : s + 6 + ms[j] * 2 ≤ 80000001 := by rw [hs]; omega
     rw [← hs]
     have HC0 := qhZ c0
     have HC1 := qhZ c1
     have HC2 := qhZ c2
     have HC3 := qhZ c3
     have HC4 := qhZ c4
     clear hsr hlv hLV hnG hs
     go_wp2_with fail
     refine (markText_z _ (s + 5) _ (by push_cast; omega) (by omega) (by omega)).mono ?_
     rintro e w1 ⟨rfl, hb1⟩
     have hs1 := (((((HSR.out.set G _ _).set G _ _).set G _ _).set G _ _).set G _ _).below hb1
     have hW1 := (((((HW.out.set hB hGE _ _).set hB hGE _ _).set hB hGE _ _).set hB hGE _ _).set hB hGE _ _).below (by simp; omega) hb1
     have h9 : ∀ i, w1.cell? ⟨G, i, none⟩ = _ := fun i => hb1.cell (p := ⟨G, i, none⟩) (by simpa using HSR.out.lt)
     have HN1 : Hid (∀ r, r < 5 → w1.cell? ⟨G, j * 7 + r, none⟩ = some (mkN s r)) := qhZ (by
       intro r hr
       rcases (show r = 0 ∨ r = 1 ∨ r = 2 ∨ r = 3 ∨ r = 4 by omega) with rfl | rfl | rfl | rfl | rfl
       · rw [h9, aS9 (by omega), aS9 (by omega), aS9 (by omega), aS9 (by omega)]
         refine (World.cell?_setCell_same _ _ _ HC0.out).trans ?_
         exact mkN_int (by decide) (by omega)
       · rw [h9, aS9 (by omega), aS9 (by omega), aS9 (by omega)]
         refine (World.cell?_setCell_same _ _ _ ((aS9 (by omega)).trans HC1.out)).trans ?_
         exact mkN_int (by decide) (by omega)
       · rw [h9, aS9 (by omega), aS9 (by omega)]
         refine (World.cell?_setCell_same _ _ _ ((aS9 (by omega)).trans ((aS9 (by omega)).trans HC2.out))).trans ?_
         exact mkN_int (by decide) (by omega)
       · rw [h9, aS9 (by omega)]
         refine (World.cell?_setCell_same _ _ _ ((aS9 (by omega)).trans ((aS9 (by omega)).trans ((aS9 (by omega)).trans HC3.out)))).trans ?_
         exact mkN_int (by decide) (by omega)
       · rw [h9]
         refine (World.cell?_setCell_same _ _ _ ((aS9 (by omega)).trans ((aS9 (by omega)).trans ((aS9 (by omega)).trans ((aS9 (by omega)).trans HC4.out))))).trans ?_
         exact mkN_int (by decide) (by omega))
     have hK1 : ∀ i, (i < j * 7 ∨ j * 7 + 5 ≤ i) → w1.cell? ⟨G, i, none⟩ = wr.cell? ⟨G, i, none⟩ := fun i h => by
       rw [h9, aS9 (by omega), aS9 (by omega), aS9 (by omega), aS9 (by omega), aS9 (by omega)]
     have hbl1 : ∀ b, b < wr.heap.size → b ≠ G → w1.heap[b]? = wr.heap[b]? := fun b hb hn => by
       rw [hb1.block b (by simpa using hb), Below.heap_setCell _ ⟨G, _, none⟩ _ b hn, Below.heap_setCell _ ⟨G, _, none⟩ _ b hn, Below.heap_setCell _ ⟨G, _, none⟩ _ b hn, Below.heap_setCell _ ⟨G, _, none⟩ _ b hn, Below.heap_setCell _ ⟨G, _, none⟩ _ b hn]
     obtain ⟨u5, c5⟩ := hs1.cell (j := j * 7 + 5) (by omega)
     have cf1 := hs1.frozen
     have c6 : w1.cell? ⟨G, j * 7 + 6, none⟩ = some (L j) := (hK1 _ (by omega)).trans (HC.out j hlt)
     have HC5 := qhZ c5
     obtain ⟨w2, hw2⟩ : ∃ w2, w1.setCell ⟨G, j * 7 + 5, none⟩ (.string (mt (s + 5))) = w2 := ⟨_, rfl⟩
     have HW2e := qhZ hw2
     have HW2 : Hid (Wr B E w w2) := qhZ (hw2 ▸ hW1.set hB hGE _ _)
     have hszr : wr.heap.size ≤ w2.heap.size := by rw [← hw2]; have := hb1.size; simp at this ⊢; omega
     have HK2 : Hid (∀ i, (i < j * 7 ∨ j * 7 + 6 ≤ i) → w2.cell? ⟨G, i, none⟩ = wr.cell? ⟨G, i, none⟩) := qhZ (fun i h => by rw [← hw2, aS9 (by omega)]; exact hK1 i (by omega))
     have HBL2 : Hid (∀ b, b < wr.heap.size → b ≠ G → w2.heap[b]? = wr.heap[b]?) := qhZ (fun b hb hn => by rw [← hw2, Below.heap_setCell _ ⟨G, _, none⟩ _ b hn]; exact hbl1 b hb hn)
     have HN2 : Hid (∀ r, r < 6 → w2.cell? ⟨G, j * 7 + r, none⟩ = some (mkN s r)) := qhZ (fun r hr => by
       rw [← hw2]
       by_cases h5 : r = 5
       · subst h5; rw [World.cell?_setCell_same _ _ _ HC5.out]; rfl
       · rw [aS9 (by omega)]; exact HN1.out r (by omega))
     have HGl : Hid (G < w2.heap.size) := qhZ (Nat.lt_of_lt_of_le HSR.out.lt hszr)
     have HSZ := qhZ hszr
     have HLV2 : Hid (LV w2 B E (L j) ms[j]) := qhZ ((HL.out j hlt).2.1.wr HW2.out)
     clear hs1 hW1 hK1 hbl1 hb1 h9 c0 c1 c2 c3 c4 cf hszr hw2
     go_wp2_with fail
     rw [HW2e.out]
     refine (markEntryS_z _ (L j) ms[j] B E (s + 6) _ (by push_cast; omega) HLV2.out (Nat.le_trans hBw HW2.out.bel.size) (by omega) (by omega)).mono ?_
     rintro e w3 ⟨rfl, hW3, hO3, hE3⟩
     have HW3 := qhZ (HW2.out.trans hW3)
     have HG3 : Hid (∀ i, w3.cell? ⟨G, i, none⟩ = w2.cell? ⟨G, i, none⟩) := qhZ (fun i => by
       have h9 := hO3 G HGl.out HNG.out
       unfold World.cell?
       rw [h9])
     have HE3 := qhZ hE3
     have HB3 : Hid (∀ b, b < wr.heap.size → b ≠ G → (L j).ownBlock ≠ some b → w3.heap[b]? = wr.heap[b]?) := qhZ (fun b hb hn h => (hO3 b (Nat.lt_of_lt_of_le hb HSZ.out) h).trans (HBL2.out b hb hn))
     have HS3 : Hid (wr.heap.size ≤ w3.heap.size) := qhZ (Nat.le_trans HSZ.out hW3.bel.size)
     clear hW3 hO3 hE3
     go_wp2
     go_roundw
     case rel =>
       refine ⟨j + 1, hlt, by go_num, ?_, HW3.out, fun i h => ?_, fun i h hij => ?_⟩
       · rw [HT.out]; congr 1; rw [HSS.out]; push_cast; omega
       · rw [HG3.out, HK2.out _ (by omega)]; exact HC.out i h
       · by_cases hj2 : i = j
         · subst hj2
           rw [← HSS.out]
           exact ⟨fun r hr => by rw [HG3.out]; exact HN2.out r hr, HE3.out⟩
         · obtain ⟨k1, k2⟩ := HM.out i h (by omega)
           refine ⟨fun r hr => by rw [HG3.out, HK2.out _ (by omega)]; exact k1 r hr, k2.other HS3.out fun b hb => ?_⟩
           refine HB3.out b ((HL.out i h).2.1.wr HW.out |>.lt hb) (fun e => (HL.out i h).2.2 (by rw [hb, e])) (fun e => ?_)
           rcases HD.out i j h hlt hj2 with h7 | h7
           · rw [hb] at h7; cases h7
           · exact h7 (by rw [hb, e])
     case measure => simp [intOf]; omega
   · obtain rfl : j = ms.length := by omega
     have HT : Hid (ms.take ms.length = ms) := qhZ (List.take_of_length_le (Nat.le_refl _))
     go_wp2
     go_ret
     exact ⟨ret_int (by rw [HT.out]), HW.out, fun i h => ⟨HC.out i h, HM.out i h h⟩⟩
theorem heldNodeS_val (G c : Nat) (ms : List Nat) (L : Nat → Value) (w : World) (hG : G < w.heap.size) (hL : ∀ i (h : i < ms.length), w.cell? ⟨G, i * 7 + 6, none⟩ = some (L i) ∧ (∀ r, r < 6 → w.cell? ⟨G, i * 7 + r, none⟩ = some (mkN (1 + cntM (ms.take i)) r)) ∧ EM w (L i) ms[i] (1 + cntM (ms.take i) + 6))
   (hnc : ms.length ≤ c) (hcm : c ≤ maxLen) (hkn : cntM ms ≤ 80000000) :
   Calls Tryz.prog 42 #[.slice (some ⟨G, 0, none⟩) ms.length c, .int .i64 1] w fun e w' => e = .returned (.int .i64 ((1 + cntM ms : Nat) : Int)) ∧ Below w.heap.size w w' := by
 have HL := qhZ hL
 clear hL
 unfold maxLen at hcm
 go_enter Tryz.func42, Tryz.ntmps42
 go_wp2
 go_loopw [1, 5] (fun t i wr => ∃ j : Nat, j ≤ ms.length ∧ i = .int .i64 j ∧ t = .int .i64 ((1 + cntM (ms.take j) : Nat) : Int) ∧ Below w.heap.size w wr) (fun _ i _ => ms.length - (intOf i).toNat)
 case atStart => exact ⟨0, Nat.zero_le _, rfl, by simp [cntM], Below.refl _ _⟩
 case round =>
   obtain ⟨j, hj, rfl, rfl, hB⟩ := hrel
   by_cases hlt : j < ms.length
   · obtain ⟨hlv, hN, hE⟩ := HL.out j hlt
     have HT := qhZ (cntM_take hlt)
     have hpre := cntM_pre ms (j + 1)
     rw [HT.out] at hpre
     have HE := qhZ (hE.below hB)
     have hG2 : G < wr.heap.size := Nat.lt_of_lt_of_le hG hB.size
     obtain ⟨s, hs⟩ : ∃ s, s = 1 + cntM (ms.take j) := ⟨_, rfl⟩
     rw [← hs] at hN HE ⊢
     have HSS := qhZ hs
     have hx1 : 1 ≤ s := by omega
     have hx2 : s + 6 + ms[j] * 2 ≤ 80000001 := by rw [hs]; omega
     have b0 : wr.cell? ⟨G, j * 7, none⟩ = some (.int .i64 (s : Int)) := (hB.cell (p := ⟨G, j * 7, none⟩) hG).trans (hN 0 (by decide))
     have b1 : wr.cell? ⟨G, j * 7 + 1, none⟩ = some (.int .i64 ((s : Int) + 1)) := (hB.cell (p := ⟨G, j * 7 + 1, none⟩) hG).trans (hN 1 (by decide))
     have b2 : wr.cell? ⟨G, j * 7 + 2, none⟩ = some (.int .i64 ((s : Int) + 2)) := (hB.cell (p := ⟨G, j * 7 + 2, none⟩) hG).trans (hN 2 (by decide))
     have b3 : wr.cell? ⟨G, j * 7 + 3, none⟩ = some (.int .i64 ((s : Int) + 3)) := (hB.cell (p := ⟨G, j * 7 + 3, none⟩) hG).trans (hN 3 (by decide))
     have b4 : wr.cell? ⟨G, j * 7 + 4, none⟩ = some (.int .i64 ((s : Int) + 4)) := (hB.cell (p := ⟨G, j * 7 + 4, none⟩) hG).trans (hN 4 (by decide))
     have b5 : wr.cell? ⟨G, j * 7 + 5, none⟩ = some (.string (mt (s + 5))) := (hB.cell (p := ⟨G, j * 7 + 5, none⟩) hG).trans (hN 5 (by decide))
     have b6 : wr.cell? ⟨G, j * 7 + 6, none⟩ = some (L j) := (hB.cell (p := ⟨G, j * 7 + 6, none⟩) hG).trans hlv
     clear hs hN hE hlv
     go_wp2
     have z5 := fun d os => cell_regrown (w := wr) b5 d os
     refine wp_region_quiet_below (by kernel_rfl) (by kernel_rfl) ?_
     repeat (first | go_big_quiet_step ((go_at_call 73; exact Calls.regrown_of (markText_z _ (s + 5) _ (by push_cast; omega) (by omega) (by omega)))) | quiet_step ((go_at_call 73; exact Calls.regrown_of (markText_z _ (s + 5) _ (by push_cast; omega) (by omega) (by omega)))))
     refine wpQuiet_nil ?_
     intro w5 hwq
     have hb5 : Below wr.heap.size wr w5 := by
       obtain ⟨pp, rfl⟩ := hwq
       exact below_regrown _ _ _
     have d6 := (hb5.cell (p := ⟨G, j * 7 + 6, none⟩) hG2).trans b6
     have HB5 := qhZ (hB.trans (hb5.mono hB.size))
     have HE5 := qhZ (HE.out.below hb5)
     clear hwq z5 b0 b1 b2 b3 b4 b5 b6 hb5
     go_wp2_with fail
     refine (heldEntryS_z _ (L j) ms[j] (s + 6) _ (by push_cast; omega) HE5.out (by omega) (by omega)).mono ?_
     rintro e w8 ⟨rfl, hb8⟩
     have HB8 := qhZ (HB5.out.trans (hb8.mono HB5.out.size))
     clear hb8
     go_wp2
     go_roundw
     case rel => exact ⟨j + 1, hlt, by go_num, by rw [HT.out]; congr 1; rw [HSS.out]; push_cast; omega, HB8.out⟩
     case measure => simp [intOf]; omega
   · obtain rfl : j = ms.length := by omega
     have HT : Hid (ms.take ms.length = ms) := qhZ (List.take_of_length_le (Nat.le_refl _))
     go_wp2
     go_ret
     exact ⟨ret_int (by rw [HT.out]), hB⟩
theorem Ents.lv {w : World} {R : Nat} {lv : Value} {es : List Ent} (h : Ents w R lv es) : LV w R w.heap.size lv es.length := by
 rcases h.2 with ⟨rfl, h0⟩ | ⟨g, cap, cur, rfl, hB, hg, hn, hm, hs, ht⟩
 · exact .inl ⟨rfl, h0⟩
 · refine .inr ⟨g, cap, rfl, hn, hm, ⟨hB, (Array.getElem?_eq_some_iff.1 hg).1⟩, cur, hg, ?_⟩
   rw [hs]; exact Nat.mul_le_mul_right 2 hn
def Mkd (w : World) (v : Value) (k : Nat) : Prop := ∃ nv r, v = .agg #[nv, .int .i64 r] ∧ ((nv = .slice none 0 0 ∧ k = 1) ∨ ∃ (G c : Nat) (ms : List Nat) (L : Nat → Value), nv = .slice (some ⟨G, 0, none⟩) ms.length c ∧ ms.length ≤ c ∧ c ≤ maxLen ∧ G < w.heap.size ∧ cntM ms ≤ 80000000 ∧ k = 1 + cntM ms ∧
 ∀ i (h : i < ms.length), w.cell? ⟨G, i * 7 + 6, none⟩ = some (L i) ∧ (∀ r, r < 6 → w.cell? ⟨G, i * 7 + r, none⟩ = some (mkN (1 + cntM (ms.take i)) r)) ∧ EM w (L i) ms[i] (1 + cntM (ms.take i) + 6))
theorem Mkd.below {w w' : World} {v : Value} {k : Nat} (h : Mkd w v k) (hb : Below w.heap.size w w') : Mkd w' v k := by
 obtain ⟨nv, r, rfl, h | ⟨G, c, ms, L, rfl, h1, h2, h3, h4, h5, h6⟩⟩ := h
 · exact ⟨nv, r, rfl, .inl h⟩
 · refine ⟨_, r, rfl, .inr ⟨G, c, ms, L, rfl, h1, h2, Nat.lt_of_lt_of_le h3 hb.size, h4, h5, fun i hi => ?_⟩⟩
   obtain ⟨k1, k2, k3⟩ := h6 i hi
   exact ⟨(hb.cell (p := ⟨G, i * 7 + 6, none⟩) h3).trans k1, fun r hr => (hb.cell (p := ⟨G, i * 7 + r, none⟩) h3).trans (k2 r hr), k3.below hb⟩
theorem markNodeS_nil1 (w : World) : Calls Tryz.prog 41 #[.slice none 0 0, .int .i64 1] w fun e w' => e = .returned (.int .i64 1) ∧ w = w' := markNodeS_nil 1 w
theorem heldFs_nilG (r : Int) (w : World) : Calls Tryz.prog 18 #[.agg #[.slice none 0 0, .int .i64 r], .int .i64 1] w fun e w' => e = .returned (.int .i64 ((1 : Nat) : Int)) ∧ Below w.heap.size w w' := by
 have HW : Hid (∀ o, Below w.heap.size w (w.alloc o)) := qhZ (fun o => (Below.refl _ _).alloc (Nat.le_refl _) o)
 go_enter Tryz.func18, Tryz.ntmps18
 go_wp2_with fail
 refine (heldNodeS_nil 1 _).mono ?_
 rintro e w1 ⟨rfl, rfl⟩
 go_wp2
 go_ret
 exact ⟨rfl, HW.out _⟩
theorem heldFs_of (v : Value) (k : Nat) (w : World) (h : Mkd w v k) :
   Calls Tryz.prog 18 #[v, .int .i64 1] w fun e w' => e = .returned (.int .i64 (k : Int)) ∧ Below w.heap.size w w' := by
 have HW : Hid (∀ o, Below w.heap.size w (w.alloc o)) := qhZ (fun o => (Below.refl _ _).alloc (Nat.le_refl _) o)
 obtain ⟨nv, r, rfl, ⟨rfl, rfl⟩ | ⟨G, c, ms, L, rfl, h1, h2, h3, h4, rfl, h6⟩⟩ := h
 · exact heldFs_nilG r w
 · have HL : Hid (∀ o i (h : i < ms.length), (w.alloc o).cell? ⟨G, i * 7 + 6, none⟩ = some (L i) ∧ (∀ r, r < 6 → (w.alloc o).cell? ⟨G, i * 7 + r, none⟩ = some (mkN (1 + cntM (ms.take i)) r)) ∧ EM (w.alloc o) (L i) ms[i] (1 + cntM (ms.take i) + 6)) := qhZ (fun o i hi => by
     obtain ⟨k1, k2, k3⟩ := h6 i hi
     exact ⟨((HW.out o).cell (p := ⟨G, i * 7 + 6, none⟩) h3).trans k1, fun r hr => ((HW.out o).cell (p := ⟨G, i * 7 + r, none⟩) h3).trans (k2 r hr), k3.below (HW.out o)⟩)
   clear h6
   go_enter Tryz.func18, Tryz.ntmps18
   go_wp2_with fail
   refine (heldNodeS_val G c ms L _ (Nat.lt_of_lt_of_le h3 (HW.out _).size) (HL.out _) h1 h2 h4).mono ?_
   rintro e w1 ⟨rfl, hb1⟩
   have HB1 := qhZ ((HW.out _).trans (hb1.mono (HW.out _).size))
   have hz1 : ¬ ((1 + cntM ms : Nat) : Int) < 0 := by omega
   clear hb1
   go_wp2
   go_ret
   exact ⟨ret_int rfl, HB1.out⟩
theorem aD9 {a b : World} (hb : Below a.heap.size a b) {G : Nat} {o : Obj} (h : a.heap[G]? = some o) : b.heap[G]? = some o := (hb.block G (aB9 h)).trans h
theorem aL9 {w a b : World} (h : Below w.heap.size w a) (hb : Below a.heap.size a b) : Below w.heap.size w b := h.trans (hb.mono h.size)
theorem aZ9 {w a b : World} (h : Below w.heap.size w a) (hb : Below a.heap.size a b) : Below w.heap.size w a ∧ Below w.heap.size w b := ⟨h, aL9 h hb⟩
theorem aH9 {w a : World} {o : Obj} (h : Below w.heap.size w a) : Below w.heap.size w (a.alloc o) := h.alloc h.size _
theorem aJ9 {w a : World} (h : Below w.heap.size w a) : Below w.heap.size w a.drew := h.drew
theorem aF9 {w a : World} {o : Obj} (h : Below w.heap.size w a) : Below w.heap.size w (a.alloc o).drew := (h.alloc h.size _).drew
theorem aP9 {w a : World} {G : Nat} {x y : Value} (h : Below w.heap.size w a) (hG : w.heap.size ≤ G) : Below w.heap.size w ((a.setCell ⟨G, 0, none⟩ x).setCell ⟨G, 1, none⟩ y) := (h.setCell (p := ⟨G, 0, none⟩) hG x).setCell (p := ⟨G, 1, none⟩) hG y
structure BoxIn (w a b : World) (G : Nat) (o : Obj) : Prop where
 blk : b.heap[G]? = some o
 lt : G < a.heap.size
 ge : w.heap.size ≤ G
theorem aT9 {w a b : World} {o : Obj} (h : Below w.heap.size w a) (hb : Below (a.alloc o).heap.size (a.alloc o) b) : BoxIn w (a.alloc o) b a.heap.size o := ⟨aD9 hb (heap_alloc_new a o), by simp, h.size⟩
theorem aQ9 {w a b : World} {o : Obj} (h : Below w.heap.size w a) (hb : Below (a.alloc o).drew.heap.size (a.alloc o).drew b) : BoxIn w (a.alloc o).drew b a.heap.size o := ⟨aD9 hb (show (a.alloc o).heap[a.heap.size]? = some o from heap_alloc_new a o), by show a.heap.size < (a.alloc o).heap.size; simp, h.size⟩
theorem box_old {w a b c : World} {G : Nat} {o : Obj} (h : BoxIn w a b G o) (hb : Below b.heap.size b c) : BoxIn w b c G o := ⟨aD9 hb h.blk, aB9 h.blk, h.ge⟩
def OwnLt (E : Nat) (nv : Value) (ps : List (Nod × Value)) : Prop := (∀ b, nv.ownBlock = some b → b < E) ∧ ∀ p ∈ ps, ∀ b, p.2.ownBlock = some b → b < E
theorem rows_lt {w : World} {B : Nat} {T : TypeId} {sz n : Nat} {v : Value} {xs : List Value} (h : w.ownsRow B T sz v n xs) (b : Nat) (hb : v.ownBlock = some b) : b < w.heap.size := by
 rcases h.2 with ⟨rfl, _⟩ | ⟨g, cap, cur, rfl, hB, hg, _⟩
 · simp [Value.ownBlock] at hb
 · simp [Value.ownBlock] at hb
   subst hb
   exact (Array.getElem?_eq_some_iff.1 hg).1
theorem Own.ltE {w : World} {R : Nat} {nv : Value} {ps : List (Nod × Value)} (h : Own w R nv ps) : OwnLt w.heap.size nv ps := ⟨rows_lt h.row, fun p hp => rows_lt (h.ent p hp)⟩
theorem Own.besides {w : World} {R : Nat} {nv : Value} {ps : List (Nod × Value)} (h : Own w R nv ps) {b : Nat} (hb : b < R) (j : Nat) (u : Value) : Own (w.setCell ⟨b, j, none⟩ u) R nv ps :=
 h.up fun i hi _ => Below.heap_setCell w ⟨b, j, none⟩ u i (by simp only; omega)
structure Ans (w : World) (B G : Nat) (nv : Value) (ps : List (Nod × Value)) (room : Int) : Prop where
 box : w.heap[G]? = some (.cells #[nv, .int .i64 room] 30)
 ge : B ≤ G
 own : ∃ R E, B ≤ R ∧ Own w R nv ps ∧ OwnLt E nv ps ∧ E ≤ w.heap.size ∧ (G < R ∨ E ≤ G)
theorem Ans.below {w w' : World} {B G : Nat} {nv : Value} {ps : List (Nod × Value)} {room : Int} (h : Ans w B G nv ps room) (hb : Below w.heap.size w w') : Ans w' B G nv ps room := by
 obtain ⟨h1, h2, R, E, h3, h4, h5, h6, h7⟩ := h
 exact ⟨aD9 hb h1, h2, R, E, h3, h4.below hb, h5, Nat.le_trans h6 hb.size, h7⟩
theorem Ans.up {w w' : World} {B G : Nat} {nv : Value} {ps : List (Nod × Value)} {room : Int} (h : Ans w B G nv ps room) (hs : w.heap.size ≤ w'.heap.size) (hu : ∀ i, B ≤ i → i < w.heap.size → w'.heap[i]? = w.heap[i]?) : Ans w' B G nv ps room := by
 obtain ⟨h1, h2, R, E, h3, h4, h5, h6, h7⟩ := h
 exact ⟨(hu G h2 (aB9 h1)).trans h1, h2, R, E, h3, h4.up fun i hi hl => hu i (Nat.le_trans h3 hi) hl, h5, Nat.le_trans h6 hs, h7⟩
theorem Ans.read {w : World} {B G : Nat} {nv : Value} {ps : List (Nod × Value)} {F : FsD} (h : Ans w B G nv ps F.room) (hp : ps.map Prod.fst = F.nodes) (hf : aV9 F.nodes) : FsA w (.agg #[nv, .int .i64 F.room]) F := by
 obtain ⟨h1, h2, R, E, h3, h4, h5, h6, h7⟩ := h
 have h := h4.read F.room (by rw [hp]; exact hf)
 rw [hp] at h
 exact h
theorem bG9 {w : World} {G : Nat} {x y : Value} {T : TypeId} (h : w.heap[G]? = some (.cells #[x, y] T (0, 0))) (a b : Value) : ((w.setCell ⟨G, 0, none⟩ a).setCell ⟨G, 1, none⟩ b).heap[G]? = some (.cells #[a, b] T (0, 0)) :=
 heap_setCell_same _ G 1 _ T b (heap_setCell_same w G 0 _ T a h)
theorem ans_set {w a c : World} {G : Nat} {x y nv : Value} {ps : List (Nod × Value)} {room : Int} (hz : BoxIn w a c G (.cells #[x, y] 30)) (hO : Own c a.heap.size nv ps) (ha : Below w.heap.size w a) :
   Ans ((c.setCell ⟨G, 0, none⟩ nv).setCell ⟨G, 1, none⟩ (.int .i64 room)) w.heap.size G nv ps room :=
 ⟨bG9 hz.blk _ _, hz.ge, a.heap.size, c.heap.size, ha.size, (hO.besides hz.lt _ _).besides hz.lt _ _, hO.ltE, by simp, .inl hz.lt⟩
theorem ans_new {w a c : World} {nv : Value} {ps : List (Nod × Value)} {room : Int} (hO : Own c a.heap.size nv ps) (ha : Below w.heap.size w a) (hb : Below a.heap.size a c) :
   Ans (c.alloc (.cells #[nv, .int .i64 room] 30)) w.heap.size c.heap.size nv ps room :=
 ⟨heap_alloc_new c _, Nat.le_trans ha.size hb.size, a.heap.size, c.heap.size, ha.size, hO.below ((Below.refl _ c).alloc (Nat.le_refl _) _), hO.ltE, by simp, .inr (Nat.le_refl _)⟩
theorem Ents.lvE {w : World} {R E : Nat} {lv : Value} {es : List Ent} (h : Ents w R lv es) (hE : ∀ b, lv.ownBlock = some b → b < E) : LV w R E lv es.length := by
 rcases h.2 with ⟨rfl, h0⟩ | ⟨g, cap, cur, rfl, hB, hg, hn, hm, hs, ht⟩
 · exact .inl ⟨rfl, h0⟩
 · refine .inr ⟨g, cap, rfl, hn, hm, ⟨hB, hE g (by simp [Value.ownBlock])⟩, cur, hg, ?_⟩
   rw [hs]; exact Nat.mul_le_mul_right 2 hn
theorem markFs_ofE (nv : Value) (ps : List (Nod × Value)) (r : Int) (B E : Nat) (w : World) (h : Own w B nv ps) (hE : OwnLt E nv ps) (hEw : E ≤ w.heap.size) (hB : B ≤ w.heap.size) (hk : cntM (ps.map fun p => p.1.list.length) ≤ 80000000) :
   Calls Tryz.prog 17 #[.agg #[nv, .int .i64 r], .int .i64 1] w fun e w' => ∃ k : Nat, 1 ≤ k ∧ k ≤ 90000000 ∧ e = .returned (.int .i64 (k : Int)) ∧ Mkd w' (.agg #[nv, .int .i64 r]) k ∧ Below B w w' ∧ ∀ i, E ≤ i → i < w.heap.size → w'.heap[i]? = w.heap[i]? := by
 obtain ⟨on, cn, rfl, hon⟩ := aM9 h.row
 have HW : Hid (∀ o, Below w.heap.size w (w.alloc o)) := qhZ (fun o => (Below.refl _ _).alloc (Nat.le_refl _) o)
 cases on with
 | none =>
   have hz : ps.length = 0 ∧ cn = 0 := by
     rcases h.row.2 with ⟨e, h0⟩ | ⟨g, cap, cur, e, _⟩
     · simp only [Value.slice.injEq, true_and] at e; exact e
     · cases e
   obtain ⟨hz1, rfl⟩ := hz
   rw [hz1]
   clear h hk hon hz1 hE
   go_enter Tryz.func17, Tryz.ntmps17
   go_wp2_with fail
   refine (markNodeS_nil1 _).mono ?_
   rintro e w1 ⟨rfl, rfl⟩
   go_wp2
   go_ret
   exact ⟨1, by omega, by omega, rfl, ⟨_, r, rfl, .inl ⟨rfl, rfl⟩⟩, (HW.out _).mono hB, fun i _ hi => (HW.out _).block i hi⟩
 | some a =>
   obtain ⟨G, rfl, hBG, hGl⟩ := hon a rfl
   have hGE : G < E := hE.1 G (by simp [Value.ownBlock])
   have HE2 := qhZ hE.2
   have hlen : (ps.map fun p => p.1.list.length).length = ps.length := by simp
   have hrow := h.row
   rcases hrow.2 with ⟨e, h0⟩ | ⟨g, cap, cur, e, hB9, hg, hn, hm, hs, ht⟩
   · cases e
   simp only [Value.slice.injEq, Option.some.injEq, Addr.mk.injEq, and_true, true_and] at e
   obtain ⟨rfl, rfl⟩ := e
   have HSH : Hid (Shp w G (ps.length * 7) 55) := qhZ ⟨cur, hg, by rw [hs]; exact Nat.mul_le_mul_right 7 hn⟩
   have HLS : Hid (∀ i (hi : i < ps.length), w.cell? ⟨G, i * 7 + 6, none⟩ = some ps[i].2 ∧ LV w B E ps[i].2 ps[i].1.list.length ∧ ps[i].2.ownBlock ≠ some G) := qhZ (fun i hi => by
     have h9 := h.at hi
     obtain ⟨g2, c2, e2, -, -, -, -, hc, -⟩ := h9
     simp only [Value.slice.injEq, Option.some.injEq, Addr.mk.injEq, and_true, true_and] at e2
     obtain ⟨rfl, -⟩ := e2
     refine ⟨hc.c6, (h.ent _ (List.getElem_mem hi)).lvE (HE2.out _ (List.getElem_mem hi)), fun e => ?_⟩
     rcases ents_ne hrow (h.ent _ (List.getElem_mem hi)) rfl with h7 | h7
     · rw [h7] at e; cases e
     · exact h7 e)
   have HD := qhZ h.dist
   obtain ⟨ms, hms⟩ : ∃ ms, ms = ps.map fun p => p.1.list.length := ⟨_, rfl⟩
   obtain ⟨L, hL⟩ : ∃ L : Nat → Value, L = fun i => (ps.getD i (nod0, .slice none 0 0)).2 := ⟨_, rfl⟩
   have hLi : ∀ i (hi : i < ps.length), L i = ps[i].2 := fun i hi => by rw [hL]; simp [List.getD, hi]
   have hmi : ∀ i (hi : i < ms.length), ms[i] = (ps[i]'(by rw [hms] at hi; simpa using hi)).1.list.length := fun i hi => by subst hms; simp
   rw [← hms] at hk hlen
   have HA : Hid (∀ o, Shp (w.alloc o) G (ms.length * 7) 55) := qhZ (fun o => by rw [hlen]; exact HSH.out.below (HW.out o))
   have HLA : Hid (∀ o i (hi : i < ms.length), (w.alloc o).cell? ⟨G, i * 7 + 6, none⟩ = some (L i) ∧ LV (w.alloc o) B E (L i) ms[i] ∧ (L i).ownBlock ≠ some G) := qhZ (fun o i hi => by
     have hi2 : i < ps.length := by omega
     obtain ⟨k1, k2, k3⟩ := HLS.out i hi2
     rw [hLi i hi2, hmi i hi]
     exact ⟨((HW.out o).cell (p := ⟨G, i * 7 + 6, none⟩) hGl).trans k1, k2.below (HW.out o), k3⟩)
   have HDA : Hid (∀ i j, i < ms.length → j < ms.length → i ≠ j → (L i).ownBlock = none ∨ (L i).ownBlock ≠ (L j).ownBlock) := qhZ (fun i j hi hj hne => by
     rw [hLi i (by omega), hLi j (by omega)]
     exact HD.out i j (by omega) (by omega) hne)
   rw [← hlen] at hn ⊢
   clear hL hLi hmi hms hlen hg hs ht hrow h hon hE
   go_enter Tryz.func17, Tryz.ntmps17
   go_wp2_with fail
   refine (markNodeS_val G cn B E ms L _ (HA.out _) (HLA.out _) HDA.out hn hm hBG hGE (Nat.le_trans hB (HW.out _).size) hk).mono ?_
   rintro e w1 ⟨rfl, hW1, hM1⟩
   have HB1 : Hid (Below B w w1) := qhZ (((HW.out _).mono hB).trans hW1.bel)
   have HM1 := qhZ hM1
   have HU1 : Hid (∀ i, E ≤ i → i < w.heap.size → w1.heap[i]? = w.heap[i]?) := qhZ (fun i h1 h2 => (hW1.up i h1 (Nat.lt_of_lt_of_le h2 (HW.out _).size)).trans ((HW.out _).block i h2))
   have hG1 : G < w1.heap.size := Nat.lt_of_lt_of_le hGl (Nat.le_trans (HW.out _).size hW1.bel.size)
   clear hW1 hM1
   go_wp2
   go_ret
   exact ⟨1 + cntM ms, by omega, by omega, rfl, ⟨_, r, rfl, .inr ⟨G, cn, ms, L, rfl, hn, hm, hG1, hk, rfl, HM1.out⟩⟩, HB1.out, HU1.out⟩
theorem markFs_ans {w : World} {B G : Nat} {nv : Value} {ps : List (Nod × Value)} {room : Int} (h : Ans w B G nv ps room) (hk : cntM (ps.map fun p => p.1.list.length) ≤ 80000000) :
   Calls Tryz.prog 17 #[.agg #[nv, .int .i64 room], .int .i64 1] w fun e w' => ∃ k : Nat, 1 ≤ k ∧ k ≤ 90000000 ∧ e = .returned (.int .i64 (k : Int)) ∧ Mkd w' (.agg #[nv, .int .i64 room]) k ∧ Below B w w' ∧ w'.heap[G]? = some (.cells #[nv, .int .i64 room] 30) := by
 obtain ⟨h1, h2, R, E, h3, h4, h5, h6, h7⟩ := h
 have hG := aB9 h1
 by_cases hR : R ≤ w.heap.size
 · refine (markFs_ofE nv ps room R E w h4 h5 h6 hR hk).mono ?_
   rintro e w' ⟨k, k1, k2, rfl, hM, hb, hu⟩
   refine ⟨k, k1, k2, rfl, hM, hb.mono h3, ?_⟩
   rcases h7 with h7 | h7
   · exact (hb.block G h7).trans h1
   · exact (hu G h7 hG).trans h1
 · have h4' : Own w w.heap.size nv ps := h4.low (by omega)
   refine (markFs_ofE nv ps room w.heap.size E w h4' h5 h6 (Nat.le_refl _) hk).mono ?_
   rintro e w' ⟨k, k1, k2, rfl, hM, hb, hu⟩
   exact ⟨k, k1, k2, rfl, hM, hb.mono (by omega), (hb.block G hG).trans h1⟩
theorem l4Asked_isM {f : FsD} {v : Value} {u g : Int} {w : World} {b : Bool} (h : bC9 f u g = b) (hR : FsA w v f) (hs : szF f ≤ 1048576) : Calls Tryz.prog 55 #[v, .agg #[.int .i64 u, .int .i64 g]] w fun e w' => e = .returned (.bool b) ∧ Below w.heap.size w w' := by
 rw [← h]; exact l4Asked_any f v u g w hR hs
theorem m3_0 (w : World) (a b c : Obj) : (((w.alloc a).alloc b).alloc c).heap[w.heap.size]? = some a := by
 rw [Below.heap_alloc _ c _ (by simp; omega), Below.heap_alloc _ b _ (by simp)]; exact heap_alloc_new w a
theorem m3_1 (w : World) (a b c : Obj) : (((w.alloc a).alloc b).alloc c).heap[w.heap.size + 1]? = some b := by
 rw [Below.heap_alloc _ c _ (by simp)]
 have h := heap_alloc_new (w.alloc a) b
 rw [World.size_alloc] at h; exact h
theorem m3_2 (w : World) (a b c : Obj) : (((w.alloc a).alloc b).alloc c).heap[w.heap.size + 2]? = some c := by
 have h := heap_alloc_new ((w.alloc a).alloc b) c
 rw [World.size_alloc, World.size_alloc] at h; exact h
def fs0 : FsD := ⟨[], 0⟩
noncomputable def askT (f : FsD) (u g t : Int) : Bool := bC9 f u g && inB 0 1000000 t
theorem Own.turn {w : World} {R g cap : Nat} {ps : List (Nod × Value)} (h : Own w R (.slice (some ⟨g, 0, none⟩) ps.length cap) ps) {i j : Nat} (hi : i < ps.length) (hj : j < 7) (u : Value) (q : Nod)
   (hq : (nodV ps[i]).set j u = nodV (q, ps[i].2)) (hl : q.list = ps[i].1.list) :
   Own (w.setCell ⟨g, i * 7 + j, none⟩ u) R (.slice (some ⟨g, 0, none⟩) ps.length cap) (ps.set i (q, ps[i].2)) := by
 refine (h.put hi hj u (q, ps[i].2) hq ?_ ?_).1
 · simp only; rw [hl]; exact h.ent _ (List.getElem_mem hi)
 · refine dist_set h.dist fun j2 hj2 hne => ?_
   exact h.dist i j2 hi hj2 (Ne.symm hne)
theorem at_map {ps : List (Nod × Value)} {ns : List Nod} (h : ps.map Prod.fst = ns) {i : Nat} (hi : i < ps.length) : ps[i].1 = aC9 ns i := by
 subst h
 rw [show aC9 (ps.map Prod.fst) i = (ps.map Prod.fst)[i]'(by simpa using hi) from aR9 (by simpa using hi)]; simp
theorem l5Asked_is {f : FsD} {v : Value} {u g t : Int} {w : World} {b : Bool} (h : askT f u g t = b) (hR : FsA w v f) (hs : szF f ≤ 1048576) : Calls Tryz.prog 34 #[v, .agg #[.int .i64 u, .int .i64 g], .int .i64 t] w fun e w' => e = .returned (.bool b) ∧ Below w.heap.size w w' := by
 have HR := qhZ hR
 obtain ⟨nv, rfl, hN⟩ := hR
 obtain ⟨o, c, rfl, hm, hH⟩ := hN
 have HB0 : Hid (Below w.heap.size w ((w.alloc (.cells #[.slice o f.nodes.length c, .int .i64 f.room] 30)).alloc (.cells #[.int .i64 u, .int .i64 g] 34))) := qhZ (((Below.refl _ _).alloc (Nat.le_refl _) _).alloc (by simp) _)
 have HS := qhZ hs
 cases hk : bC9 f u g with
 | false =>
   have HK := qhZ hk
   have HV : Hid (b = false) := qhZ (by rw [← h]; unfold askT; rw [hk]; rfl)
   clear hk h hs hH
   go_enter Tryz.func34, Tryz.ntmps34
   go_wp2_with fail
   refine (l4Asked_isM HK.out (HR.out.below HB0.out) HS.out).mono ?_
   rintro e w1 ⟨rfl, hb1⟩
   have HB1 := qhZ (HB0.out.trans (hb1.mono HB0.out.size))
   clear hb1
   go_wp2
   go_ret
   exact ⟨aK9 HV.out.symm, HB1.out⟩
 | true =>
   have HK := qhZ hk
   have HV : Hid (b = inB 0 1000000 t) := qhZ (by rw [← h]; unfold askT; rw [hk]; rfl)
   clear hk h hs hH
   go_enter Tryz.func34, Tryz.ntmps34
   go_wp2_with fail
   refine (l4Asked_isM HK.out (HR.out.below HB0.out) HS.out).mono ?_
   rintro e w1 ⟨rfl, hb1⟩
   have HB1 := qhZ (HB0.out.trans (hb1.mono HB0.out.size))
   clear hb1
   go_wp2_with (go_at_call 61; refine (l1In_any _ _ _ _).mono ?_; rintro e w' ⟨rfl, rfl⟩)
   all_goals
     go_ret
     exact ⟨aK9 (by rw [HV.out]), HB1.out⟩
theorem errV_nil (q : ByteArray) : errV q 0 = .nilIface := rfl
structure Drf (w : World) (d R : Nat) (nv : Value) (ps : List (Nod × Value)) (f : FsD) (u g t : Int) : Prop where
 box : w.heap[d]? = some (.cells #[nv, .int .i64 f.room, .int .i64 u, .int .i64 g, .int .i64 t] 75)
 map : ps.map Prod.fst = f.nodes
 own : Own w R nv ps
 fit : aV9 f.nodes
theorem Drf.below {w w' : World} {d R : Nat} {nv : Value} {ps : List (Nod × Value)} {f : FsD} {u g t : Int} (h : Drf w d R nv ps f u g t) (hb : Below w.heap.size w w') : Drf w' d R nv ps f u g t :=
 ⟨aD9 hb h.box, h.map, h.own.below hb, h.fit⟩
theorem Drf.fsA {w : World} {d R : Nat} {nv : Value} {ps : List (Nod × Value)} {f : FsD} {u g t : Int} (h : Drf w d R nv ps f u g t) : FsA w (.agg #[nv, .int .i64 f.room]) f := by
 have h1 := h.own.read f.room (by rw [h.map]; exact h.fit)
 rw [h.map] at h1; exact h1
theorem Drf.len {w : World} {d R : Nat} {nv : Value} {ps : List (Nod × Value)} {f : FsD} {u g t : Int} (h : Drf w d R nv ps f u g t) : ps.length = f.nodes.length := by rw [← h.map]; simp
set_option maxRecDepth 100000 in
theorem spotAt_is (f : FsD) (u g t : Int) (s : ByteArray) (cd : Int) (nd : Nat) (nm : List UInt8) (hfp : fp0 f.nodes u g s.data.toList = (cd, nd, nm)) (hs : szF f ≤ 1048576) (hk : bC9 f u g = true) (hss : s.size ≤ 1048576)
   (d R : Nat) (nv : Value) (ps : List (Nod × Value)) (w : World) (hD : Drf w d R nv ps f u g t) :
   Calls Tryz.prog 87 #[.pointer (some ⟨d, 0, none⟩), .string s] w fun e w' => ∃ q, e = .returned (.tuple #[.agg #[.int .i64 nd, .string (bs nm)], errV q cd]) ∧ Below w.heap.size w w' := by
 obtain ⟨oo, cc, rfl, -⟩ := aM9 hD.own.row
 have HD := qhZ hD
 have HFD := qhZ hfp
 have HS := qhZ hs
 have HK := qhZ hk
 have HSS := qhZ hss
 have hb0 : Below w.heap.size w (w.alloc (.cells #[.int .i64 0, .string ⟨#[]⟩] 77)) := (Below.refl _ _).alloc (Nat.le_refl _) _
 have HK0 := qhZ hb0
 have KB0 := qhZ (heap_alloc_new w (.cells #[.int .i64 0, .string ⟨#[]⟩] 77))
 obtain ⟨W0, hW0⟩ : ∃ W0, W0 = w.alloc (.cells #[.int .i64 0, .string ⟨#[]⟩] 77) := ⟨_, rfl⟩
 have HFA : Hid (FsA w (.agg #[.slice oo ps.length cc, .int .i64 f.room]) f) := qhZ hD.fsA
 have KS : Hid (∀ W, Below w.heap.size w W → (fun w' => w'.cell? ⟨d, 0, none⟩ = some (.slice oo ps.length cc) ∧ w'.cell? ⟨d, 1, none⟩ = some (.int .i64 f.room) ∧ w'.cell? ⟨d, 2, none⟩ = some (.int .i64 u) ∧ w'.cell? ⟨d, 3, none⟩ = some (.int .i64 g)) W) := qhZ (fun W h => ⟨(aA9 (aD9 h HD.out.box) 0).trans rfl, (aA9 (aD9 h HD.out.box) 1).trans rfl, (aA9 (aD9 h HD.out.box) 2).trans rfl, (aA9 (aD9 h HD.out.box) 3).trans rfl⟩)
 have hW1 : w.heap.size < W0.heap.size := by rw [hW0, World.size_alloc]; exact Nat.lt_succ_self _
 rw [← hW0] at HK0 KB0
 have HWX := qhZ hW0
 clear hD hfp hs hk hss hb0 hW0
 go_enter Tryz.func87, Tryz.ntmps87
 go_wp2
 rw [← HWX.out]
 go_region_held3 (fun w' => w'.cell? ⟨d, 0, none⟩ = some (.slice oo ps.length cc) ∧ w'.cell? ⟨d, 1, none⟩ = some (.int .i64 f.room) ∧ w'.cell? ⟨d, 2, none⟩ = some (.int .i64 u) ∧ w'.cell? ⟨d, 3, none⟩ = some (.int .i64 g)) (first | exact KS.out _ (by (first | (with_reducible exact HK0.out) | (with_reducible exact aJ9 HK0.out) | (with_reducible exact HKa.out) | (with_reducible exact aJ9 HKa.out))))
   (first | (go_at_call 125; (with_reducible refine (placeAt_is HFD.out (HFA.out.below (by (first | (with_reducible exact HK0.out) | (with_reducible exact aJ9 HK0.out)))) HS.out HK.out HSS.out).mono ?_); rintro e wa ⟨qa, rfl, hba⟩; have HKa := qhZ (aZ9 (w := w) (by (first | (with_reducible exact HK0.out) | (with_reducible exact aJ9 HK0.out))) hba).2; have HZa := qhZ (aD9 hba (show _ = some (Obj.cells #[.int .i64 0, .string ⟨#[]⟩] 77) from KB0.out)); clear hba))
 obtain ⟨ev, hev⟩ : ∃ ev, ev = errV qa cd := ⟨_, rfl⟩
 rw [← hev]
 have HEV := qhZ hev
 obtain ⟨xn, hxn⟩ : ∃ xn, xn = bs nm := ⟨_, rfl⟩
 rw [← hxn]
 have HXN := qhZ hxn
 clear hev hxn
 have z0 := (aA9 HZa.out 0).trans rfl
 have z1 := (aA9 HZa.out 1).trans rfl
 have zf := aE9 HZa.out
 go_wp2
 have hq := bG9 HZa.out (.int .i64 nd) (.string xn)
 have t0 := (aA9 hq 0).trans rfl
 have t1 := (aA9 hq 1).trans rfl
 refine bodyPost_ret (v := .tuple #[.agg #[.int .i64 nd, .string xn], ev]) (by simp [results, Tryz.results87, go_sem, t0, t1]) rfl ?_
 exact ⟨qa, by rw [HXN.out, HEV.out], aP9 HKa.out (Nat.le_refl _)⟩
set_option maxRecDepth 100000 in
theorem nodeOf_is (f : FsD) (u g t : Int) (up : Nat) (nm : List UInt8) (b : Bool) (y : Int) (hup : up < f.nodes.length) (hb : isE (aC9 f.nodes up).list nm = b) (hy : nbN (aC9 f.nodes up).list nm = y) (hs : szF f ≤ 1048576) (hr : Rise (aC9 f.nodes up).list)
   (d R : Nat) (nv : Value) (ps : List (Nod × Value)) (w : World) (hD : Drf w d R nv ps f u g t) :
   Calls Tryz.prog 90 #[.pointer (some ⟨d, 0, none⟩), .agg #[.int .i64 up, .string (bs nm)]] w fun e w' => e = .returned (.tuple #[.int .i64 (if b = true then y else 0), if b = true then .nilIface else codeV 2]) ∧ Below w.heap.size w w' := by
 obtain ⟨oo, cc, rfl, -⟩ := aM9 hD.own.row
 have HD := qhZ hD
 have hul : up < ps.length := by rw [hD.len]; exact hup
 have hpl : ps.length ≤ 1048576 := by rw [hD.len]; exact (aG9 hs).1
 have HFA : Hid (FsA w (.agg #[.slice oo ps.length cc, .int .i64 f.room]) f) := qhZ hD.fsA
 obtain ⟨G, cap, e0, hRG, hGl, hnc, hm, hc, hfr⟩ := hD.own.at hul
 simp only [Value.slice.injEq, true_and] at e0
 obtain ⟨rfl, rfl⟩ := e0
 have hq1 : ps[up].1 = aC9 f.nodes up := at_map hD.map hul
 have hnm : aC9 f.nodes up ∈ f.nodes := by rw [show aC9 f.nodes up = f.nodes[up] from aR9 hup]; exact List.getElem_mem hup
 have HEA : Hid (EntsA w ps[up].2 (aC9 f.nodes up).list) := qhZ (by rw [← hq1]; exact (hD.own.ent _ (List.getElem_mem hul)).readM (by rw [hq1]; exact (hD.fit _ hnm).2))
 have HNC : Hid (NodC w G (up * 7) ps[up].2 (aC9 f.nodes up)) := qhZ (by rw [← hq1]; exact hc)
 obtain ⟨xn, hxn⟩ : ∃ xn, xn = bs nm := ⟨_, rfl⟩
 have hxl : xn.data.toList = nm := by rw [hxn]; exact aY9 _
 have HNB : Hid (∀ W, Below w.heap.size w W → Calls Tryz.prog 128 #[.pointer (some ⟨G, up * 7, none⟩), .string xn] W fun e w' => e = .returned (.tuple #[.int .i64 y, .bool b]) ∧ Below W.heap.size W w') := qhZ (fun W h => by
   have := nodeByName_any (aC9 f.nodes up) G (up * 7) _ xn W (Nat.lt_of_lt_of_le hGl h.size) (HNC.out.below h hGl) (HEA.out.below h) ((aG9 hs).2 _ hnm).1 hr
   rw [hxl, hb, hy] at this
   exact this)
 rw [← hxn]
 have hb0 : Below w.heap.size w (w.alloc (.cells #[.int .i64 up, .string xn] 77)) := (Below.refl _ _).alloc (Nat.le_refl _) _
 have HK0 := qhZ hb0
 have KB0 := qhZ (heap_alloc_new w (.cells #[.int .i64 up, .string xn] 77))
 obtain ⟨W0, hW0⟩ : ∃ W0, W0 = w.alloc (.cells #[.int .i64 up, .string xn] 77) := ⟨_, rfl⟩
 rw [← hW0] at HK0 KB0
 have KS : Hid (∀ W, Below W0.heap.size W0 W → (fun w' => w'.cell? ⟨d, 0, none⟩ = some (.slice (some ⟨G, 0, none⟩) ps.length cc) ∧ w'.cell? ⟨w.heap.size, 0, none⟩ = some (.int .i64 up) ∧ w'.cell? ⟨w.heap.size, 1, none⟩ = some (.string xn)) W) := qhZ (fun W h => ⟨(aA9 (aD9 (aL9 HK0.out h) HD.out.box) 0).trans rfl, (aA9 (aD9 h KB0.out) 0).trans rfl, (aA9 (aD9 h KB0.out) 1).trans rfl⟩)
 have HZ0 : Hid (Below W0.heap.size W0 W0) := qhZ (Below.refl _ _)
 have HWX := qhZ hW0
 clear hD hs hr hb0 hW0 hxl hxn hb hy hq1 hnm hc hfr
 go_enter Tryz.func90, Tryz.ntmps90
 go_wp2
 rw [← HWX.out]
 go_region_held3 (fun w' => w'.cell? ⟨d, 0, none⟩ = some (.slice (some ⟨G, 0, none⟩) ps.length cc) ∧ w'.cell? ⟨w.heap.size, 0, none⟩ = some (.int .i64 up) ∧ w'.cell? ⟨w.heap.size, 1, none⟩ = some (.string xn)) (first | exact KS.out _ (by (first | (with_reducible exact HZ0.out) | (with_reducible exact aJ9 HZ0.out) | (with_reducible exact HZa.out) | (with_reducible exact aJ9 HZa.out))))
   (first | (go_at_call 128; (with_reducible refine (HNB.out _ (by (first | (with_reducible exact HK0.out) | (with_reducible exact aJ9 HK0.out)))).mono ?_); rintro e wa ⟨rfl, hba⟩; have HKa := qhZ (aZ9 (w := w) (by (first | (with_reducible exact HK0.out) | (with_reducible exact aJ9 HK0.out))) hba).2; have HZa : Hid (Below W0.heap.size W0 wa) := qhZ (by first | (with_reducible exact hba) | exact (Below.refl _ W0).drew.trans hba); clear hba))
 cases b with
 | true =>
   go_wp2
   go_ret2
   exact ⟨rfl, HKa.out⟩
 | false =>
   go_wp2
   go_ret2
   exact ⟨rfl, HKa.out⟩
set_option maxRecDepth 100000 in
theorem checkChange_is (f : FsD) (u g t : Int) (up : Nat) (nm : List UInt8) (E : Value) (hup : up < f.nodes.length) (hE : errC (dirC (aC9 f.nodes up) u g 3) = E) (hs : szF f ≤ 1048576) (hk : bC9 f u g = true)
   (d R : Nat) (nv : Value) (ps : List (Nod × Value)) (w : World) (hD : Drf w d R nv ps f u g t) :
   Calls Tryz.prog 91 #[.pointer (some ⟨d, 0, none⟩), .agg #[.int .i64 up, .string (bs nm)]] w fun e w' => e = .returned E ∧ Below w.heap.size w w' := by
 obtain ⟨oo, cc, rfl, -⟩ := aM9 hD.own.row
 have HD := qhZ hD
 have hul : up < ps.length := by rw [hD.len]; exact hup
 have hpl : ps.length ≤ 1048576 := by rw [hD.len]; exact (aG9 hs).1
 obtain ⟨G, cap, e0, hRG, hGl, hnc, hm, hc, hfr⟩ := hD.own.at hul
 simp only [Value.slice.injEq, true_and] at e0
 obtain ⟨rfl, rfl⟩ := e0
 have hq1 : ps[up].1 = aC9 f.nodes up := at_map hD.map hul
 have HNC : Hid (NodC w G (up * 7) ps[up].2 (aC9 f.nodes up)) := qhZ (by rw [← hq1]; exact hc)
 obtain ⟨xn, hxn⟩ : ∃ xn, xn = bs nm := ⟨_, rfl⟩
 have HCK : Hid (∀ W, Below w.heap.size w W → Calls Tryz.prog 120 #[.pointer (some ⟨G, up * 7, none⟩), .agg #[.int .i64 u, .int .i64 g], .int .i64 3] W fun e w' => e = .returned E ∧ Below W.heap.size W w') := qhZ (fun W h => by
   have := checkDir_any (aC9 f.nodes up) G (up * 7) _ u g 3 W (Nat.lt_of_lt_of_le hGl h.size) (HNC.out.below h hGl) (fun hkd => good_ask (bN9 hk) (ask_cred hk) (by decide) hup hkd)
   rw [hE] at this
   exact this)
 rw [← hxn]
 have hb0 : Below w.heap.size w (w.alloc (.cells #[.int .i64 up, .string xn] 77)) := (Below.refl _ _).alloc (Nat.le_refl _) _
 have HK0 := qhZ hb0
 have KB0 := qhZ (heap_alloc_new w (.cells #[.int .i64 up, .string xn] 77))
 obtain ⟨W0, hW0⟩ : ∃ W0, W0 = w.alloc (.cells #[.int .i64 up, .string xn] 77) := ⟨_, rfl⟩
 rw [← hW0] at HK0 KB0
 have KS : Hid (∀ W, Below W0.heap.size W0 W → (fun w' => w'.cell? ⟨d, 0, none⟩ = some (.slice (some ⟨G, 0, none⟩) ps.length cc) ∧ w'.cell? ⟨d, 2, none⟩ = some (.int .i64 u) ∧ w'.cell? ⟨d, 3, none⟩ = some (.int .i64 g) ∧ w'.cell? ⟨w.heap.size, 0, none⟩ = some (.int .i64 up)) W) := qhZ (fun W h => ⟨(aA9 (aD9 (aL9 HK0.out h) HD.out.box) 0).trans rfl, (aA9 (aD9 (aL9 HK0.out h) HD.out.box) 2).trans rfl, (aA9 (aD9 (aL9 HK0.out h) HD.out.box) 3).trans rfl, (aA9 (aD9 h KB0.out) 0).trans rfl⟩)
 have HZ0 : Hid (Below W0.heap.size W0 W0) := qhZ (Below.refl _ _)
 have HWX := qhZ hW0
 clear hD hs hb0 hW0 hxn hE hq1 hc hfr hk
 go_enter Tryz.func91, Tryz.ntmps91
 go_wp2
 rw [← HWX.out]
 go_region_held3 (fun w' => w'.cell? ⟨d, 0, none⟩ = some (.slice (some ⟨G, 0, none⟩) ps.length cc) ∧ w'.cell? ⟨d, 2, none⟩ = some (.int .i64 u) ∧ w'.cell? ⟨d, 3, none⟩ = some (.int .i64 g) ∧ w'.cell? ⟨w.heap.size, 0, none⟩ = some (.int .i64 up)) (first | exact KS.out _ (by (first | (with_reducible exact HZ0.out) | (with_reducible exact aJ9 HZ0.out) | (with_reducible exact HZa.out) | (with_reducible exact aJ9 HZa.out))))
   (first | (go_at_call 120; (with_reducible refine (HCK.out _ (by (first | (with_reducible exact HK0.out) | (with_reducible exact aJ9 HK0.out)))).mono ?_); rintro e wa ⟨rfl, hba⟩; have HKa := qhZ (aZ9 (w := w) (by (first | (with_reducible exact HK0.out) | (with_reducible exact aJ9 HK0.out))) hba).2; have HZa : Hid (Below W0.heap.size W0 wa) := qhZ (by first | (with_reducible exact hba) | exact (Below.refl _ W0).drew.trans hba); clear hba))
 go_wp2
 go_ret
 exact ⟨rfl, HKa.out⟩
theorem Own.list {w w1 : World} {R g cap : Nat} {ps : List (Nod × Value)} (h : Own w R (.slice (some ⟨g, 0, none⟩) ps.length cap) ps) {i : Nat} (hi : i < ps.length) {lv' : Value} {es' : List Ent}
   (hg : w.grownBy w1 ps[i].2.ownBlock) (he : Ents w1 R lv' es') (hb : lv'.ownBlock = ps[i].2.ownBlock ∨ ∃ b, lv'.ownBlock = some b ∧ w.heap.size ≤ b) :
   Own (w1.setCell ⟨g, i * 7 + 6, none⟩ lv') R (.slice (some ⟨g, 0, none⟩) ps.length cap) (ps.set i ({ ps[i].1 with list := es' }, lv')) := by
 have hrow : w1.ownsRow R 55 7 (.slice (some ⟨g, 0, none⟩) ps.length cap) ps.length (nodsV ps) := by
   refine World.ownsRow.kept h.row hg (.inr ?_)
   rcases ents_ne h.row (h.ent _ (List.getElem_mem hi)) rfl with h1 | h1
   · rw [h1]; simp [Value.ownBlock]
   · exact Ne.symm h1
 obtain ⟨h1, h2⟩ := hrow.stored (i * 7 + 6) lv'
 have hset : (nodsV ps).set (i * 7 + 6) lv' = nodsV (ps.set i ({ ps[i].1 with list := es' }, lv')) := by
   unfold nodsV
   rw [flat_set (nodV_len ps) (by simpa using hi) (by decide), List.map_set]
   congr 2
   simp only [List.getElem_map]
   rfl
 have hne : ∀ {lv : Value} {es : List Ent}, Ents w1 R lv es → Ents (w1.setCell ⟨g, i * 7 + 6, none⟩ lv') R lv es := fun {lv es} k => World.ownsRow.kept k h2 (ents_ne hrow k rfl)
 refine ⟨?_, ?_, ?_⟩
 · rw [hset] at h1; simpa using h1
 · intro p hp
   obtain ⟨j, hj, rfl⟩ := List.getElem_of_mem hp
   have hj' : j < ps.length := by simpa using hj
   rw [List.getElem_set]
   split
   · exact hne he
   · rename_i hij
     exact hne (World.ownsRow.kept (h.ent _ (List.getElem_mem hj')) hg (h.dist j i hj' hi (Ne.symm hij)))
 · refine dist_set h.dist fun j hj hne => ?_
   rcases hb with hb | ⟨b, hb, hl⟩
   · simp only; rw [hb]; exact h.dist i j hi hj (Ne.symm hne)
   · refine .inr ?_
     simp only; rw [hb]
     intro e
     have := rows_lt (h.ent _ (List.getElem_mem hj)) b e.symm
     omega
theorem run_copy_rowK {P : Program} (w : World) (dT sT ty elem : TypeId) (size : Nat) (g o dLen dCap : Nat) (a : Addr) (sLen sCap : Nat) (cur : Array Value) (t : TypeId) (cs : List Value)
   (hu : P.underlying dT = some (.slice elem)) (hs : (P.info? elem).map (·.size) = some size)
   (hg : w.heap[g]? = some (.cells cur t (0, 0))) (hn : cs.length = Nat.min sLen dLen * size)
   (hsrc : ∀ j v, cs[j]? = some v → w.cell? (a.add j) = some v) (hfit : o + cs.length ≤ cur.size) (h1 : ∀ v ∈ cs, v.oneCell' = true) :
   (Builtin.copy_ #[dT, sT] ty #[.slice (some ⟨g, o, none⟩) dLen dCap, .slice (some a) sLen sCap]).run P w =
     .ok (goInt (Nat.min sLen dLen)) (w.setRow g (cur.toList.take o ++ cs ++ cur.toList.drop (o + cs.length)).toArray) := by
 have hl := run_loadCells_list (P := P) w a cs hsrc
 have hst := run_storeCells_at P g o t cs 0 cur w hg (by simpa using hfit) h1
 cases hq : P.info? elem with
 | none => simp [hq] at hs
 | some i =>
   have hi : i.size = size := by simpa [hq] using hs
   rw [hn] at hl
   simp [Builtin.copy_, run_underlying hu, Builtin.lenOf, Builtin.firstCells, sizeOf, typeInfo, hq, hi, hl, hst]
end Go.Proofs.YtknhacblialboaaGreatDoor
