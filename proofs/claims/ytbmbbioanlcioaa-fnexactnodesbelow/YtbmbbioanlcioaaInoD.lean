
/-
  Contracts of the program's bytesOf, placesIn, comesFromRoot, isWellPlaced, areWellPlaced.
  Conditions: at most 2^20 values and letters together; every entry leads to a node.
-/
import Derived.Test.YtbmbbioanlcioaaInoC
namespace Go.Proofs.Ytbmbbioanlcioaa
open Go.ChangeShapes Go.WideShapes Go.ChangeAt Go.RowKit Go.Joins
set_option linter.unusedVariables false
set_option linter.unusedSimpArgs false

set_option maxHeartbeats 2000000 in
theorem bytesOf_any (ns : List Nod) (v : Value) (w : World) (hR : NodsA w v ns) (hs : szNs ns ≤ 1048576) (hl : ns.length ≤ 1048576) : Calls Try.prog 67 #[v] w fun e w' => e = .returned (.int .i64 (sumD ns : Nat)) ∧ w = w' := by
  obtain ⟨o, c, rfl, hm, hH⟩ := hR
  have HH := Lib.hid hH
  clear hH
  unfold maxLen at hm
  have hT : sumD ns ≤ 1048576 := by have := sumD_le ns; omega
  clear hs
  go_enter Try.func67, Try.ntmps67
  go_wp2
  go_loop [3, 7] (fun t i => ∃ k : Nat, k ≤ ns.length ∧ i = .int .i64 k ∧ t = .int .i64 (sumD (ns.take k) : Nat)) (fun _ i => ns.length - (intOf i).toNat)
  case atStart => exact ⟨0, Nat.zero_le _, rfl, rfl⟩
  case round =>
    obtain ⟨k, hk, rfl, rfl⟩ := hrel
    by_cases hlt : k < ns.length
    · obtain ⟨g, off, lv, rfl, hg, hc, he, hml⟩ := HH.out k hlt
      have HS := Lib.hid (sumD_take hlt)
      have hle := sumD_pre ns (k + 1)
      have d5 := hc.c5
      have HZ : Hid ((bs ns[k].data).size = ns[k].data.length) := Lib.hid (bs_size _)
      obtain ⟨x, hxx⟩ : ∃ x, x = bs ns[k].data := ⟨_, rfl⟩
      rw [← hxx] at d5 HZ
      have hx : sumD (ns.take k) + x.size ≤ 1048576 := by rw [HZ.out, ← HS.out]; omega
      clear hc he hml hxx hle
      go_wp2
      go_round
      case rel => exact ⟨k + 1, hlt, by go_num, by rw [HS.out, ← HZ.out]; go_num⟩
      case measure => simp [intOf]; omega
    · have HT : Hid (ns.take k = ns) := Lib.hid (List.take_of_length_le (by omega))
      go_wp2
      go_ret
      exact ⟨ret_int (by rw [HT.out]), rfl⟩

def plCell (p : Pl) (r : Nat) : Value := if r = 0 then .int .i64 (p.links : Int) else if r = 1 then .int .i64 (p.dir : Int) else .string (bs p.name)
def plF (P : Int → Pl) (j : Nat) : Value := plCell (P ((j / 3 : Nat) : Int)) (j % 3)
/-- The value is a list of n places in a block of the call's own. -/
def PlsA (w : World) (B : Nat) (v : Value) (n : Nat) (P : Int → Pl) : Prop := ∃ G c, v = .slice (some ⟨G, 0, none⟩) n c ∧ n ≤ c ∧ c ≤ maxLen ∧ B ≤ G ∧ RowAt w G (n * 3) 140 (plF P)
theorem PlsA.below {w w' : World} {B n : Nat} {v : Value} {P : Int → Pl} (h : PlsA w B v n P) (hb : Below w.heap.size w w') : PlsA w' B v n P := by
  obtain ⟨G, c, e, h1, h2, h3, hr⟩ := h
  exact ⟨G, c, e, h1, h2, h3, hr.below hb hr.lt⟩
theorem plF0 (P : Int → Pl) (m : Nat) : plF P (m * 3) = .int .i64 ((P m).links : Int) := by
  have e1 : m * 3 / 3 = m := by omega
  have e2 : m * 3 % 3 = 0 := by omega
  simp [plF, plCell, e1, e2]
theorem plF1 (P : Int → Pl) (m : Nat) : plF P (m * 3 + 1) = .int .i64 ((P m).dir : Int) := by
  have e1 : (m * 3 + 1) / 3 = m := by omega
  have e2 : (m * 3 + 1) % 3 = 1 := by omega
  simp [plF, plCell, e1, e2]
theorem plF2 (P : Int → Pl) (m : Nat) : plF P (m * 3 + 2) = .string (bs (P m).name) := by
  have e1 : (m * 3 + 2) / 3 = m := by omega
  have e2 : (m * 3 + 2) % 3 = 2 := by omega
  simp [plF, plCell, e1, e2]
theorem plF_put (d : Nat) (P : Int → Pl) (e : Ent) (m : Nat) (hm : e.node = m) (j : Nat) :
    (if j = m * 3 + 2 then .string (bs e.name) else if j = m * 3 + 1 then .int .i64 (d : Int) else if j = m * 3 then .int .i64 (((P m).links : Int) + 1) else plF P j) = plF (putP d P e) j := by
  by_cases hj : j / 3 = m
  · have e1 : putP d P e ((j / 3 : Nat) : Int) = ⟨(P m).links + 1, d, e.name⟩ := by unfold putP; rw [hj, hm, if_pos rfl]
    unfold plF
    rw [e1]
    unfold plCell
    rcases (show j = m * 3 ∨ j = m * 3 + 1 ∨ j = m * 3 + 2 by omega) with rfl | rfl | rfl
    · have e2 : m * 3 % 3 = 0 := by omega
      rw [if_neg (by omega), if_neg (by omega), if_pos rfl, e2, if_pos rfl]; simp
    · have e2 : (m * 3 + 1) % 3 = 1 := by omega
      rw [if_neg (by omega), if_pos rfl, e2, if_neg (by omega), if_pos rfl]
    · have e2 : (m * 3 + 2) % 3 = 2 := by omega
      rw [if_pos rfl, e2, if_neg (by omega), if_neg (by omega)]
  · have e1 : putP d P e ((j / 3 : Nat) : Int) = P ((j / 3 : Nat) : Int) := by unfold putP; rw [hm, if_neg (by omega)]
    rw [if_neg (by omega), if_neg (by omega), if_neg (by omega)]
    unfold plF
    rw [e1]
theorem plcInfo : (Try.prog.info? 140).map (fun i => (i.zero, i.size, i.bytes)) = some (some (.agg #[.int .i64 0, .int .i64 0, .string ⟨#[]⟩]), 3, 32) := by kernel_rfl
theorem plc_zero (j : Nat) : (#[Value.int .i64 0, .int .i64 0, .string ⟨#[]⟩] : Array Value)[j % 3]! = plF (fun _ => pl0) j := by
  unfold plF plCell pl0
  obtain ⟨r, hr⟩ : ∃ r, r = j % 3 := ⟨_, rfl⟩
  have hlt : j % 3 < 3 := Nat.mod_lt _ (by omega)
  rw [← hr] at hlt ⊢
  rcases (show r = 0 ∨ r = 1 ∨ r = 2 by omega) with rfl | rfl | rfl <;> rfl

set_option maxHeartbeats 4000000 in
theorem placesIn_any (ns : List Nod) (v : Value) (w : World) (hR : NodsA w v ns) (hs : szNs ns ≤ 1048576) (hl : ns.length ≤ 1048576) (hld : Lead ns) : Calls Try.prog 92 #[v] w fun e w' => ∃ u, e = .returned u ∧ PlsA w' w.heap.size u ns.length (placesF ns) ∧ Below w.heap.size w w' := by
  obtain ⟨i0, hi, hz0, hz1, hz2⟩ := info_parts plcInfo
  obtain ⟨o, c, rfl, hm, hH⟩ := hR
  have HH := Lib.hid hH
  have HLD := Lib.hid hld
  have HLS : Hid (∀ n ∈ ns, n.list.length ≤ 1048576) := Lib.hid (fun n hn => by have := szN_mem hn; unfold szN at this; omega)
  clear hH hld
  unfold maxLen at hm
  go_enter Try.func92, Try.ntmps92
  go_wp2_with (at_make; refine wpList_make_full _ rfl _ _ 127 rfl w.heap.size 140 i0 (.agg #[.int .i64 0, .int .i64 0, .string ⟨#[]⟩]) 3 Try.underlying127 hi hz0 hz1 _ _ _ _ ns.length rfl rfl rfl rfl (by rw [hz2]; omega) (by unfold maxLen; omega) (Nat.le_refl _) ?_)
  intro w1 hown hgrow
  have hb1 : Below w.heap.size w w1 := (Below.refl _ w).grown hgrow (Nat.le_refl _) (fun k e => by cases e)
  have hr1 : RowAt w1 w.heap.size (ns.length * 3) 140 (plF (plc ns 0)) := by
    refine RowAt.made hown (fun j hj => ?_)
    have hj' : j < ns.length * 3 := hj
    show _ = some (plF (fun _ => pl0) j)
    rw [← plc_zero]
    simp [madeCells, hj']
  clear hown hgrow
  go_wp2
  go_loopw [12] (fun i wr => ∃ k : Nat, k ≤ ns.length ∧ i = .int .i64 k ∧ RowAt wr w.heap.size (ns.length * 3) 140 (plF (plc ns k)) ∧ Below w.heap.size w wr) (fun i _ => ns.length - (intOf i).toNat)
  case atStart => exact ⟨0, Nat.zero_le _, rfl, hr1, hb1⟩
  case round =>
    obtain ⟨k, hk, rfl, hr, hB⟩ := hrel
    clear hr1
    by_cases hlt : k < ns.length
    · obtain ⟨g, off, lv, rfl, hg, hc, he, hml⟩ := HH.out k hlt
      have d6 := (hc.below hB hg).c6
      have HD : Hid (ns.getD k ⟨0, 0, 0, 0, 0, [], []⟩ = ns[k]) := Lib.hid (getD_at hlt)
      have HLK : Hid (∀ i, links i (ns.take (k + 1)) = links i (ns.take k) + linksE i ns[k].list) := Lib.hid (fun i => links_take i hlt)
      have HLQ : Hid (∀ e ∈ ns[k].list, 0 ≤ e.node ∧ e.node < ns.length) := Lib.hid (fun e h => HLD.out _ (List.getElem_mem hlt) e h)
      have hq2 := HLS.out _ (List.getElem_mem hlt)
      obtain ⟨q, hqq⟩ : ∃ q, q = ns[k] := ⟨_, rfl⟩
      rw [← hqq] at he HD HLK HLQ hq2
      obtain ⟨o2, c2, rfl, -, hE⟩ := id he
      have HE := Lib.hid hE
      have HNX : Hid (plc ns (k + 1) = putsP k (plc ns k) q.list) := Lib.hid (by rw [plc, HD.out])
      have HPL : Hid (∀ i, (plc ns k i).links = links i (ns.take k)) := Lib.hid (fun i => plc_links ns i k (by omega))
      have HTL : Hid (∀ i, links i (ns.take (k + 1)) ≤ 1048576) := Lib.hid (fun i => by
        have h1 : links i (ns.take (k + 1)) ≤ links i ns := tot_pre _ ns (k + 1)
        have h2 := links_le i ns
        omega)
      have HRr := Lib.hid hr
      clear hc he hml hqq hE hr
      go_wp2
      go_loopw [21] (fun i wi => ∃ j : Nat, j ≤ q.list.length ∧ i = .int .i64 j ∧ RowAt wi w.heap.size (ns.length * 3) 140 (plF (putsP k (plc ns k) (q.list.take j))) ∧ Below w.heap.size w wi) (fun i _ => q.list.length - (intOf i).toNat)
      case atStart => exact ⟨0, Nat.zero_le _, rfl, HRr.out, hB⟩
      case round =>
        obtain ⟨j, hj, rfl, hr, hB2⟩ := hrel
        by_cases hlt2 : j < q.list.length
        · obtain ⟨g2, f2, rfl, q2, x2, y2, _⟩ := HE.out j hlt2
          have a1 := (hB2.cell (p := ⟨g2, f2 + j * 2, none⟩) q2).trans x2
          have a2 := (hB2.cell (p := ⟨g2, f2 + j * 2 + 1, none⟩) q2).trans y2
          obtain ⟨l1, l2⟩ := HLQ.out _ (List.getElem_mem hlt2)
          have HPT : Hid (putsP k (plc ns k) (q.list.take (j + 1)) = putP k (putsP k (plc ns k) (q.list.take j)) q.list[j]) := Lib.hid (putsP_take hlt2)
          obtain ⟨z, hzz⟩ : ∃ z, z = q.list[j] := ⟨_, rfl⟩
          rw [← hzz] at a1 a2 l1 l2 HPT
          obtain ⟨m, hmm⟩ : ∃ m : Nat, z.node = m := ⟨z.node.toNat, by omega⟩
          have HM := Lib.hid hmm
          rw [hmm] at a2 l1 l2
          have hm2 : m < ns.length := by omega
          obtain ⟨P, hP⟩ : ∃ P, P = putsP k (plc ns k) (q.list.take j) := ⟨_, rfl⟩
          have hlk : (P m).links ≤ 1048576 := by
            rw [hP, puts_links, HPL.out]
            have h1 := HTL.out m
            rw [HLK.out] at h1
            have h2 : linksE m (q.list.take j) ≤ linksE m q.list := tot_pre _ q.list j
            omega
          rw [← hP] at hr HPT
          have HST := Lib.hid (plF_put k P z m hmm)
          obtain ⟨y, hyy⟩ : ∃ y, y = bs z.name := ⟨_, rfl⟩
          rw [← hyy] at a1 HST
          have hr2 := hr.alloc (.cells #[.string y, .int .i64 (m : Int)] 67)
          have e0 := (cell_blk (heap_alloc_new wr (.cells #[.string y, .int .i64 (m : Int)] 67)) 0).trans rfl
          have e1 := (cell_blk (heap_alloc_new wr (.cells #[.string y, .int .i64 (m : Int)] 67)) 1).trans rfl
          have b0 := hr2.cell (j := m * 3) (by omega)
          have b1 := hr2.cell (j := m * 3 + 1) (by omega)
          have b2 := hr2.cell (j := m * 3 + 2) (by omega)
          rw [plF0] at b0
          rw [plF1] at b1
          rw [plF2] at b2
          have bf := hr2.frozen
          have HR3 := Lib.hid ((((hr2.set (m * 3) (.int .i64 (((P m).links : Int) + 1))).set (m * 3 + 1) (.int .i64 (k : Int))).set (m * 3 + 2) (.string y)).congr (fun i _ => HST.out i))
          have HB3 := Lib.hid ((((hB2.alloc hB2.size (.cells #[.string y, .int .i64 (m : Int)] 67)).setCell (p := ⟨w.heap.size, m * 3, none⟩) (Nat.le_refl _) (.int .i64 (((P m).links : Int) + 1))).setCell (p := ⟨w.heap.size, m * 3 + 1, none⟩) (Nat.le_refl _) (.int .i64 (k : Int))).setCell (p := ⟨w.heap.size, m * 3 + 2, none⟩) (Nat.le_refl _) (.string y))
          clear x2 y2 hzz hmm hP hyy hr hr2
          go_wp2
          go_region
          go_wp2
          go_roundw
          case rel => exact ⟨j + 1, hlt2, by go_num, by rw [HPT.out]; exact HR3.out.of_block rfl, HB3.out.drew⟩
          case measure => simp [intOf]; omega
        · have HT : Hid (q.list.take j = q.list) := Lib.hid (List.take_of_length_le (by omega))
          go_wp2
          go_roundw
          case rel => exact ⟨k + 1, hlt, by go_num, by rw [HNX.out, ← HT.out]; exact hr, hB2⟩
          case measure => simp [intOf]; omega
    · obtain rfl : k = ns.length := by omega
      go_wp2
      go_ret
      exact ⟨_, rfl, ⟨_, _, rfl, Nat.le_refl _, by unfold maxLen; omega, Nat.le_refl _, hr⟩, hB⟩
end Go.Proofs.Ytbmbbioanlcioaa
