/-
  Paths out of names: plain facts, contracts of impl.PathOf and spec.PathOf.
  Conditions: a readable list of texts of at most 2^20 bytes together.
-/
import Derived.Test.YtpdnhaaedibbaaaBaseD
import Derived.Test.YtpdnhaaedibbaaaHelpC
namespace Go.Proofs.Ytpdnhaaedibbaaa
open Go.ChangeShapes Go.WideShapes Go.ChangeAt Go.RowKit Go.Joins
set_option linter.unusedVariables false

theorem lists_ind {α : Type} {P : List α → Prop} (h0 : P []) (hs : ∀ l c, P l → P (l ++ [c])) (l : List α) : P l := by
  have : ∀ m : List α, P m.reverse := by
    intro m
    induction m with
    | nil => exact h0
    | cons c m ih => rw [List.reverse_cons]; exact hs _ _ ih
  simpa using this l.reverse
theorem parts_snoc (l p : List UInt8) (h47 : 47 ∉ p) (h0 : p ≠ []) : parts (l ++ 47 :: p) = parts l ++ [p] := by
  have e : sp (l ++ 47 :: p) = ((sp l).1 ++ [(sp l).2], p) := by
    have e1 : l ++ 47 :: p = (l ++ [47]) ++ p := by simp
    rw [e1, sp_app _ _ (fun c hc e => h47 (e ▸ hc)), sp_snoc]
    simp [spStep]
  unfold parts
  rw [e, full_app]
  simp [full, h0]
theorem parts_slashed {ps : List (List UInt8)} (h47 : ∀ p ∈ ps, 47 ∉ p) (h0 : ∀ p ∈ ps, p ≠ []) : parts (slashed ps) = ps := by
  induction ps using lists_ind with
  | h0 => rfl
  | hs l p ih =>
    rw [slashed_snoc, parts_snoc _ _ (h47 p (by simp)) (h0 p (by simp)), ih (fun q hq => h47 q (by simp [hq])) (fun q hq => h0 q (by simp [hq]))]
theorem parts_path {ps : List (List UInt8)} (h47 : ∀ p ∈ ps, 47 ∉ p) (h0 : ∀ p ∈ ps, p ≠ []) : parts (pathL ps) = ps := by
  unfold pathL
  by_cases h : ps = []
  · subst h; rfl
  · rw [if_neg h, parts_slashed h47 h0]

def ofOk (ps : List (List UInt8)) : Bool := ps.all nameB && (decide (ps.length ≤ 20) && decide ((pathL ps).length ≤ 60))
def ofT (ps : List (List UInt8)) : List UInt8 := if ofOk ps then pathL ps else []
theorem ofOk_bad {ps : List (List UInt8)} (h : ps.all nameB = false) : ofOk ps = false ∧ ofT ps = [] := by
  have : ofOk ps = false := by simp only [ofOk, h, Bool.false_and]
  exact ⟨this, by simp [ofT, this]⟩
theorem ofOk_many {ps : List (List UInt8)} (h : ¬ ps.length ≤ 20) : ofOk ps = false ∧ ofT ps = [] := by
  have : ofOk ps = false := by simp [ofOk, h]
  exact ⟨this, by simp [ofT, this]⟩
theorem ofOk_long {ps : List (List UInt8)} (h : ¬ (pathL ps).length ≤ 60) : ofOk ps = false ∧ ofT ps = [] := by
  have : ofOk ps = false := by simp [ofOk, h]
  exact ⟨this, by simp [ofT, this]⟩
theorem ofOk_yes {ps : List (List UInt8)} (h : ps.all nameB = true) (h1 : ps.length ≤ 20) (h2 : (pathL ps).length ≤ 60) : ofOk ps = true ∧ ofT ps = pathL ps := by
  have : ofOk ps = true := by simp only [ofOk, h, h1, h2]; rfl
  exact ⟨this, by simp [ofT, this]⟩
theorem names_part {ps : List (List UInt8)} (h : ps.all nameB = true) {p : List UInt8} (hp : p ∈ ps) : partB p = true := name_part (List.all_eq_true.1 h p hp)
theorem path_good {ps : List (List UInt8)} (h : ps.all nameB = true) : goodB (pathL ps) = decide ((pathL ps).length ≤ 60) := by
  have hp : parts (pathL ps) = ps := parts_path (fun p hp => part_no47 (names_part h hp)) (fun p hp => part_ne (names_part h hp))
  have h1 : 1 ≤ (pathL ps).length := by rw [← join_eq]; simp
  have ha : ps.all partB = true := List.all_eq_true.2 fun p hp => names_part h hp
  unfold goodB
  rw [hp, ha, Bool.and_true]
  simp [h1]
theorem names_len {ps : List (List UInt8)} (h : ps.all nameB = true) (h1 : ps.length ≤ 20) : (pathL ps).length ≤ 200 := by
  have h2 : ∀ p ∈ ps, p.length ≤ 8 := fun p hp => by
    have := names_part h hp
    simp [partB] at this
    exact this.1.2
  have h3 := slashed_len 8 ps h2
  unfold pathL
  split
  · simp
  · omega

set_option maxHeartbeats 1000000 in
theorem pathOf_any (ps : List (List UInt8)) (v : Value) (w : World) (hR : Rd w v ps) : Calls Try.prog 26 #[v] w fun e w' => e = .returned (.tuple #[.string (bs (ofT ps)), .bool (ofOk ps)]) ∧ Below w.heap.size w w' := by
  have HR := Lib.hid hR
  obtain ⟨o, c, rfl, hlc, hcm, hH⟩ := hR
  have HH := Lib.hid hH
  clear hH
  unfold maxLen at hcm
  by_cases h20 : ps.length ≤ 20
  · go_enter Try.func26, Try.ntmps26
    go_wp2
    go_loopw [12] (fun i wr => ∃ k : Nat, k ≤ ps.length ∧ i = .int .i64 k ∧ (ps.take k).all nameB = true ∧ Below w.heap.size w wr) (fun i _ => ps.length - (intOf i).toNat)
    case atStart => exact ⟨0, Nat.zero_le _, rfl, rfl, Below.refl _ _⟩
    case round =>
      obtain ⟨k, hk, rfl, hA, hB⟩ := hrel
      have HA := Lib.hid hA
      clear hA
      by_cases hlt : k < ps.length
      · obtain ⟨g, off, rfl, hg, hc⟩ := HH.out k hlt
        have hcell : wr.cell? ⟨g, off + k, none⟩ = some (.string (bs ps[k])) := (hB.cell (p := ⟨g, off + k, none⟩) hg).trans hc
        have HT : Hid ((ps.take (k + 1)).all nameB = nameB ps[k]) := Lib.hid (by rw [List.take_succ_eq_append_getElem hlt, List.all_append, HA.out]; simp)
        clear hc
        by_cases hn : nameB ps[k] = true
        · have HN := Lib.hid hn
          clear hn
          go_wp2_with (go_at_call 28; refine (goodName_any _ _).mono ?_; rintro e w1 ⟨rfl, hb1⟩; rw [bs_list, HN.out])
          go_roundw
          case rel => exact ⟨k + 1, hlt, by go_num, by rw [HT.out, HN.out], hB.trans (hb1.mono hB.size)⟩
          case measure => simp [intOf]; omega
        · have HN := Lib.hid (show nameB ps[k] = false by simpa using hn)
          obtain ⟨o1, o2⟩ := ofOk_bad (ps := ps) (by rw [List.all_eq_false]; exact ⟨_, List.getElem_mem hlt, by simp [HN.out]⟩)
          have O1 := Lib.hid o1
          have O2 := Lib.hid o2
          clear hn o1 o2
          go_wp2_with (go_at_call 28; refine (goodName_any _ _).mono ?_; rintro e w1 ⟨rfl, hb1⟩; rw [bs_list, HN.out])
          go_ret2
          exact ⟨tup2 (by rw [O2.out]; rfl) O1.out.symm, hB.trans (hb1.mono hB.size)⟩
      · have HT : Hid (ps.all nameB = true) := Lib.hid (by have := HA.out; rwa [List.take_of_length_le (by omega)] at this)
        have hln := names_len HT.out h20
        have hj : (Lib.join ps [47]).length + 1 = (pathL ps).length := by rw [← join_eq]; simp
        have hjz : (bs (Lib.join ps [47])).size + 1 = (pathL ps).length := by rw [bs_size]; exact hj
        have HX : Hid (bs [47] ++ bs (Lib.join ps [47]) = bs (pathL ps)) := Lib.hid (by rw [bs_app]; exact congrArg bs (join_eq ps))
        have HJ := Lib.hid (join_rd (HR.out.below hB) (by omega) (by omega))
        go_wp2_with fail
        refine HJ.out.mono ?_
        rintro e w1 ⟨rfl, hb1⟩
        have hbb := hB.trans (hb1.mono hB.size)
        obtain ⟨x, hx⟩ : ∃ x, x = bs (Lib.join ps [47]) := ⟨_, rfl⟩
        rw [← hx] at hjz HX ⊢
        by_cases h60 : (pathL ps).length ≤ 60
        · obtain ⟨o1, o2⟩ := ofOk_yes HT.out h20 h60
          have O1 := Lib.hid o1
          have O2 := Lib.hid o2
          have hx1 : x.size ≤ 59 := by omega
          clear o1 o2 h60 hjz hx hj hln
          go_wp2
          go_ret2
          exact ⟨tup2 (by rw [O2.out, ← HX.out]; rfl) O1.out.symm, hbb⟩
        · obtain ⟨o1, o2⟩ := ofOk_long h60
          have O1 := Lib.hid o1
          have O2 := Lib.hid o2
          have hx1 : 60 ≤ x.size := by omega
          have hx2 : x.size ≤ 200 := by omega
          clear o1 o2 h60 hjz hx hj hln
          go_wp2
          go_ret2
          exact ⟨tup2 (by rw [O2.out]; rfl) O1.out.symm, hbb⟩
  · obtain ⟨o1, o2⟩ := ofOk_many h20
    have O1 := Lib.hid o1
    have O2 := Lib.hid o2
    clear o1 o2
    go_enter Try.func26, Try.ntmps26
    go_wp2
    go_ret2
    exact ⟨tup2 (by rw [O2.out]; rfl) O1.out.symm, Below.refl _ _⟩

set_option maxHeartbeats 1000000 in
theorem specPathOf_any (ps : List (List UInt8)) (v : Value) (w : World) (hR : Rd w v ps) (hsz : ∀ p ∈ ps, p.length ≤ 1048576) : Calls Try.prog 30 #[v] w fun e w' => e = .returned (.tuple #[.string (bs (ofT ps)), .bool (ofOk ps)]) ∧ Below w.heap.size w w' := by
  have HR := Lib.hid hR
  have HZ := Lib.hid hsz
  obtain ⟨o, c, rfl, hlc, hcm, hH⟩ := hR
  have HH := Lib.hid hH
  clear hH hsz
  unfold maxLen at hcm
  go_enter Try.func30, Try.ntmps30
  go_wp2
  go_loop [8] (fun i => ∃ k : Nat, k ≤ ps.length ∧ i = .int .i64 k ∧ (ps.take k).all nameB = true) (fun i => ps.length - (intOf i).toNat)
  case atStart => exact ⟨0, Nat.zero_le _, rfl, rfl⟩
  case round =>
    obtain ⟨k, hk, rfl, hA⟩ := hrel
    have HA := Lib.hid hA
    clear hA
    by_cases hlt : k < ps.length
    · obtain ⟨g, off, rfl, hg, hcell⟩ := HH.out k hlt
      have hxz : (bs ps[k]).size ≤ maxLen := by rw [bs_size]; have := HZ.out _ (List.getElem_mem hlt); unfold maxLen; omega
      have HT : Hid ((ps.take (k + 1)).all nameB = nameB ps[k]) := Lib.hid (by rw [List.take_succ_eq_append_getElem hlt, List.all_append, HA.out]; simp)
      by_cases hn : nameB ps[k] = true
      · have HN := Lib.hid hn
        clear hn
        go_wp2_with (go_at_call 65; refine (l2Name_any _ _ hxz).mono ?_; rintro e w1 ⟨rfl, rfl⟩; rw [bs_list, HN.out])
        go_round
        case rel => exact ⟨k + 1, hlt, by go_num, by rw [HT.out, HN.out]⟩
        case measure => simp [intOf]; omega
      · have HN := Lib.hid (show nameB ps[k] = false by simpa using hn)
        obtain ⟨o1, o2⟩ := ofOk_bad (ps := ps) (by rw [List.all_eq_false]; exact ⟨_, List.getElem_mem hlt, by simp [HN.out]⟩)
        have O1 := Lib.hid o1
        have O2 := Lib.hid o2
        clear hn o1 o2
        go_wp2_with (go_at_call 65; refine (l2Name_any _ _ hxz).mono ?_; rintro e w1 ⟨rfl, rfl⟩; rw [bs_list, HN.out])
        go_ret2
        exact ⟨tup2 (by rw [O2.out]; rfl) O1.out.symm, Below.refl _ _⟩
    · have HT : Hid (ps.all nameB = true) := Lib.hid (by have := HA.out; rwa [List.take_of_length_le (by omega)] at this)
      by_cases h20 : ps.length ≤ 20
      · have hln := names_len HT.out h20
        have hsl : (slashed ps).length ≤ 200 := by
          by_cases h : ps = []
          · subst h; simp [slashed]
          · unfold pathL at hln; rw [if_neg h] at hln; exact hln
        have HG : Hid (goodB (bs (pathL ps)).data.toList = decide ((pathL ps).length ≤ 60)) := Lib.hid (by rw [bs_list]; exact path_good HT.out)
        have hpz : (bs (pathL ps)).size ≤ 1073741824 := by rw [bs_size]; omega
        by_cases h60 : (pathL ps).length ≤ 60
        · obtain ⟨o1, o2⟩ := ofOk_yes HT.out h20 h60
          have O1 := Lib.hid o1
          have O2 := Lib.hid o2
          have HG2 : Hid (goodB (bs (pathL ps)).data.toList = true) := Lib.hid (by rw [HG.out]; simpa using h60)
          clear o1 o2 h60
          go_wp2_with fail
          refine (l2Of_any _ _ _ HR.out (by omega)).mono ?_
          rintro e w1 ⟨rfl, rfl⟩
          go_wp2_with fail
          refine (l2Path_any _ _ hpz).mono ?_
          rintro e w2 ⟨rfl, hb2⟩
          rw [HG2.out]
          go_wp2_with fail
          refine (l2Of_any _ _ _ (HR.out.below hb2) (by omega)).mono ?_
          rintro e w3 ⟨rfl, rfl⟩
          go_wp2
          go_ret2
          exact ⟨tup2 (by rw [O2.out]) O1.out.symm, hb2⟩
        · obtain ⟨o1, o2⟩ := ofOk_long h60
          have O1 := Lib.hid o1
          have O2 := Lib.hid o2
          have HG2 : Hid (goodB (bs (pathL ps)).data.toList = false) := Lib.hid (by rw [HG.out]; simpa using h60)
          clear o1 o2 h60
          go_wp2_with fail
          refine (l2Of_any _ _ _ HR.out (by omega)).mono ?_
          rintro e w1 ⟨rfl, rfl⟩
          go_wp2_with fail
          refine (l2Path_any _ _ hpz).mono ?_
          rintro e w2 ⟨rfl, hb2⟩
          rw [HG2.out]
          go_wp2
          go_ret2
          exact ⟨tup2 (by rw [O2.out]; rfl) O1.out.symm, hb2⟩
      · obtain ⟨o1, o2⟩ := ofOk_many h20
        have O1 := Lib.hid o1
        have O2 := Lib.hid o2
        clear o1 o2
        go_wp2
        go_ret2
        exact ⟨tup2 (by rw [O2.out]; rfl) O1.out.symm, Below.refl _ _⟩
end Go.Proofs.Ytpdnhaaedibbaaa
