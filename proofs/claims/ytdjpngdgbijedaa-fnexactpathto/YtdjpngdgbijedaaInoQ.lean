
/-
  Contracts of the model's PathTo, of the program's pathFromRoot and PathTo: the same answer.
  Conditions: at most 2^20 values and letters together.
-/
import Derived.Test.YtdjpngdgbijedaaInoP
namespace Go.Proofs.Ytdjpngdgbijedaa
open Go.ChangeShapes Go.WideShapes Go.ChangeAt Go.RowKit Go.Joins
set_option linter.unusedVariables false
set_option linter.unusedSimpArgs false

theorem tupSB {a a' : ByteArray} {b b' : Bool} (h1 : a = a') (h2 : b = b') : Ending.returned (.tuple #[.string a, .bool b]) = .returned (.tuple #[.string a', .bool b']) := by rw [h1, h2]
def strLen : Value → Nat
  | .string s => s.size
  | _ => 0
theorem names_small {f : FsD} (h : goodF f = true) (m : Int) : (slashed (nmsUp (placesF f.nodes) f.nodes.length m)).length ≤ 360 := by
  have h1 := nmsUp_len (placesF f.nodes) f.nodes.length m
  have h2 := slashed_le 8 _ (nmsUp_all (place_name h) f.nodes.length m)
  have h3 := inB_t (goodF_GoodF h).1
  omega
theorem slashed_nil {ps : List (List UInt8)} : slashed ps = [] ↔ ps = [] := by
  cases ps <;> simp [slashed]

set_option maxHeartbeats 2000000 in
theorem specPathTo_any (f : FsD) (node : Int) (v : Value) (w : World) (hR : FsA w v f) (hs : szF f ≤ 1048576) : Calls Try.prog 24 #[v, .int .i64 node] w fun e w' => e = .returned (.tuple #[.string (bs (pathF f node)), .bool (parK f node)]) ∧ Below w.heap.size w w' := by
  have HR := Lib.hid hR
  obtain ⟨nv, rfl, hN⟩ := hR
  have HN := Lib.hid hN
  obtain ⟨o, c, rfl, hm, hH⟩ := hN
  have HH := Lib.hid hH
  unfold maxLen at hm
  have hl : f.nodes.length ≤ 1048576 := (lists_small hs).1
  have HS := Lib.hid hs
  have HSZ : Hid (szNs f.nodes ≤ 1048576) := Lib.hid (by unfold szF at hs; omega)
  have hb0 : Below w.heap.size w (w.alloc (.cells #[.slice o f.nodes.length c, .int .i64 f.room] 24)) := (Below.refl _ _).alloc (Nat.le_refl _) _
  have hk0 := heap_alloc_new w (.cells #[.slice o f.nodes.length c, .int .i64 f.room] 24)
  have HB0 := Lib.hid hb0
  have HK0 := Lib.hid hk0
  clear hb0 hk0 hs hH
  by_cases hg : goodF f = true
  · have HG := Lib.hid hg
    by_cases hi : isDirN f.nodes node = true
    · have HI := Lib.hid hi
      have HW : Hid (parK f node = true) := Lib.hid (by unfold parK; rw [HG.out, HI.out]; rfl)
      obtain ⟨hgd, h0, h1, hk2⟩ := parK_in HW.out
      obtain ⟨m, rfl⟩ : ∃ m : Nat, node = m := ⟨node.toNat, by omega⟩
      have hml : m < f.nodes.length := by omega
      have HGD := Lib.hid hgd
      have HK2 := Lib.hid hk2
      have HUP := Lib.hid (good_up hgd hml hk2)
      have hsm := names_small hgd (m : Int)
      have HV : Hid (bs (pathF f (m : Int)) = bs (pathL (nmsUp (placesF f.nodes) f.nodes.length (m : Int)))) := Lib.hid (by unfold pathF; rw [if_pos HW.out])
      clear hg hi hgd hk2
      go_enter Try.func24, Try.ntmps24
      go_wp2_with fail
      refine (l3Good_any f _ _ (HR.out.below HB0.out) HS.out).mono ?_
      rintro e w1 ⟨rfl, hb1⟩
      rw [HG.out]
      have HB1 := Lib.hid (HB0.out.trans (hb1.mono HB0.out.size))
      have HK1 := Lib.hid ((hb1.block w.heap.size (lt_of_heap HK0.out)).trans HK0.out)
      have x1c0 := (cell_blk HK1.out 0).trans rfl
      have x1c1 := (cell_blk HK1.out 1).trans rfl
      clear hb1
      go_wp2_with fail
      refine (l3IsDir_any f _ _ _ (HR.out.below HB1.out) hl).mono ?_
      rintro e w2 ⟨rfl, hb2⟩
      rw [HI.out]
      have HB2 := Lib.hid (HB1.out.trans (hb2.mono HB1.out.size))
      have HK2b := Lib.hid ((hb2.block w.heap.size (lt_of_heap HK1.out)).trans HK1.out)
      have x2c0 := (cell_blk HK2b.out 0).trans rfl
      have x2c1 := (cell_blk HK2b.out 1).trans rfl
      clear hb2
      go_wp2_with fail
      refine (l3Path_any f HGD.out HS.out f.nodes.length m _ _ hl hml HK2.out HUP.out (HR.out.below HB2.out)).mono ?_
      rintro e w3 ⟨u3, rfl, hL3, hb3⟩
      have HB3 := Lib.hid (HB2.out.trans (hb3.mono HB2.out.size))
      have HRD := Lib.hid hL3.read
      obtain ⟨o3, c3, rfl, -, -, -⟩ := hL3.read
      clear hL3 hb3
      go_wp2_with fail
      refine (l2Of_any _ _ _ HRD.out (by omega)).mono ?_
      rintro e w4 ⟨rfl, rfl⟩
      go_wp2
      go_ret2
      exact ⟨tupSB HV.out.symm HW.out.symm, HB3.out⟩
    · have HI : Hid (isDirN f.nodes node = false) := Lib.hid (by simpa using hi)
      have HW : Hid (parK f node = false) := Lib.hid (by unfold parK; rw [HG.out, HI.out]; rfl)
      have HV : Hid (bs (pathF f node) = ⟨#[]⟩) := Lib.hid (by unfold pathF; rw [if_neg (by rw [HW.out]; simp)]; rfl)
      go_enter Try.func24, Try.ntmps24
      go_wp2_with fail
      refine (l3Good_any f _ _ (HR.out.below HB0.out) HS.out).mono ?_
      rintro e w1 ⟨rfl, hb1⟩
      rw [HG.out]
      have HB1 := Lib.hid (HB0.out.trans (hb1.mono HB0.out.size))
      have HK1 := Lib.hid ((hb1.block w.heap.size (lt_of_heap HK0.out)).trans HK0.out)
      have x1c0 := (cell_blk HK1.out 0).trans rfl
      have x1c1 := (cell_blk HK1.out 1).trans rfl
      clear hb1
      go_wp2_with fail
      refine (l3IsDir_any f _ _ _ (HR.out.below HB1.out) hl).mono ?_
      rintro e w2 ⟨rfl, hb2⟩
      rw [HI.out]
      have HB2 := Lib.hid (HB1.out.trans (hb2.mono HB1.out.size))
      have HK2 := Lib.hid ((hb2.block w.heap.size (lt_of_heap HK1.out)).trans HK1.out)
      have x2c0 := (cell_blk HK2.out 0).trans rfl
      have x2c1 := (cell_blk HK2.out 1).trans rfl
      clear hb2
      go_wp2
      go_ret2
      exact ⟨tupSB HV.out.symm HW.out.symm, HB2.out⟩
  · have HG : Hid (goodF f = false) := Lib.hid (by simpa using hg)
    have HW : Hid (parK f node = false) := Lib.hid (by unfold parK; rw [HG.out]; rfl)
    have HV : Hid (bs (pathF f node) = ⟨#[]⟩) := Lib.hid (by unfold pathF; rw [if_neg (by rw [HW.out]; simp)]; rfl)
    go_enter Try.func24, Try.ntmps24
    go_wp2_with fail
    refine (l3Good_any f _ _ (HR.out.below HB0.out) HS.out).mono ?_
    rintro e w1 ⟨rfl, hb1⟩
    rw [HG.out]
    have HB1 := Lib.hid (HB0.out.trans (hb1.mono HB0.out.size))
    have HK1 := Lib.hid ((hb1.block w.heap.size (lt_of_heap HK0.out)).trans HK0.out)
    have x1c0 := (cell_blk HK1.out 0).trans rfl
    have x1c1 := (cell_blk HK1.out 1).trans rfl
    clear hb1
    go_wp2
    go_ret2
    exact ⟨tupSB HV.out.symm HW.out.symm, HB1.out⟩

set_option maxHeartbeats 4000000 in
theorem pathFromRoot_any (n : Nat) (P : Int → Pl) (B : Nat) (v : Value) (m : Nat) (N : Nat) (w : World) (hR : PlsA w B v n P) (hn : n ≤ 1048576) (hin : ∀ k, 0 ≤ upN P k (m : Int) ∧ upN P k (m : Int) < n) (hz : (P 0).dir = 0) (hN : upN P N (m : Int) = 0) (hsm : (slashed (nmsUp P N (m : Int))).length ≤ 360) : Calls Try.prog 52 #[v, .int .i64 (m : Int)] w fun e w' => e = .returned (.string (bs (pathL (nmsUp P N (m : Int))))) ∧ w = w' := by
  obtain ⟨G, c, rfl, h1, h2, -, hr⟩ := hR
  have HR := Lib.hid hr
  have HI := Lib.hid hin
  have HZ := Lib.hid hz
  have HNN := Lib.hid hN
  obtain ⟨ps, hps⟩ : ∃ ps, ps = nmsUp P N (m : Int) := ⟨_, rfl⟩
  rw [← hps] at hsm ⊢
  have HPS := Lib.hid hps
  clear hr hin hz hN hps
  unfold maxLen at h2
  go_enter Try.func52, Try.ntmps52
  go_wp2
  go_loop [1, 5] (fun t p => ∃ (k : Nat) (dn : List (List UInt8)), k ≤ N ∧ t = .int .i64 (upN P k (m : Int)) ∧ p = .string (bs (slashed dn)) ∧ ps = nmsUp P (N - k) (upN P k (m : Int)) ++ dn) (fun _ p => 400 - strLen p)
  case atStart => exact ⟨0, [], Nat.zero_le _, rfl, rfl, by rw [HPS.out]; simp [upN]⟩
  case round =>
    obtain ⟨k, dn, hk, rfl, rfl, hd⟩ := hrel
    have HD := Lib.hid hd
    have hdl : (slashed dn).length ≤ 360 := by
      have := hsm
      rw [hd] at this
      simp only [slashed, List.map_append, List.flatten_append, List.length_append] at this ⊢
      omega
    obtain ⟨u0, u1⟩ := HI.out k
    have HNX : Hid (upN P (k + 1) (m : Int) = ((P (upN P k (m : Int))).dir : Int)) := Lib.hid rfl
    obtain ⟨x, hx⟩ : ∃ x : Nat, upN P k (m : Int) = x := ⟨(upN P k (m : Int)).toNat, by omega⟩
    have HX := Lib.hid hx
    rw [hx] at u0 u1 HNX HD ⊢
    have hx2 : x < n := by omega
    have b1 := HR.out.cell (j := x * 3 + 1) (by omega)
    have b2 := HR.out.cell (j := x * 3 + 2) (by omega)
    rw [plF1] at b1
    rw [plF2] at b2
    clear hx hd
    by_cases hx0 : x = 0
    · subst hx0
      have HE : Hid (ps = dn) := Lib.hid (by
        have := HD.out
        rw [show ((0 : Nat) : Int) = 0 from rfl, nmsUp_zero] at this
        simpa using this)
      by_cases he : ps = []
      · have HF : Hid (bs (pathL ps) = bs [47]) := Lib.hid (by unfold pathL; rw [if_pos he])
        have hS : bs (slashed dn) = ⟨#[]⟩ := by rw [← HE.out, he]; rfl
        rw [hS]
        clear he
        go_wp2
        go_ret
        exact ⟨by rw [HF.out]; rfl, rfl⟩
      · have HF : Hid (bs (pathL ps) = bs (slashed dn)) := Lib.hid (by unfold pathL; rw [if_neg he, HE.out])
        have hne : slashed dn ≠ [] := fun h => he (by rw [HE.out]; exact slashed_nil.1 h)
        obtain ⟨t1, t2, t3⟩ := text_ne hne
        obtain ⟨y, hy⟩ : ∃ y, y = bs (slashed dn) := ⟨_, rfl⟩
        rw [← hy] at t1 t2 t3 HF ⊢
        clear hy hne
        go_wp2
        go_ret
        exact ⟨by rw [HF.out]; rfl, rfl⟩
    · have hxi : ((x : Int) == 0) = false := by rw [beq_eq_false_iff_ne]; omega
      have hxj : ((x : Int) != 0) = true := by rw [bne_iff_ne]; omega
      have hkN : k < N := by
        rcases Nat.lt_or_ge k N with h | h
        · exact h
        · obtain rfl : k = N := by omega
          rw [HNN.out] at HX
          have := HX.out
          omega
      have HD2 : Hid (ps = nmsUp P (N - (k + 1)) (upN P (k + 1) (m : Int)) ++ ((P x).name :: dn)) := Lib.hid (by
        have h3 := HD.out
        rw [show N - k = (N - (k + 1)) + 1 by omega, nmsUp, if_neg (by omega)] at h3
        rw [h3, HNX.out, List.append_assoc]
        rfl)
      have HSL : Hid (slashed ((P x).name :: dn) = 47 :: (P x).name ++ slashed dn) := Lib.hid (by simp [slashed])
      have hd2 : (47 :: (P x).name ++ slashed dn).length ≤ 360 := by
        have h3 := hsm
        rw [HD2.out] at h3
        rw [← HSL.out]
        simp only [slashed, List.map_append, List.flatten_append, List.length_append] at h3 ⊢
        omega
      simp only [List.cons_append, List.length_cons, List.length_append] at hd2
      have hy1 : (bs (P x).name).size ≤ 360 := by rw [bs_size]; omega
      have hy2 : (bs (slashed dn)).size ≤ 360 := by rw [bs_size]; omega
      have HZ2 : Hid ((bs (slashed dn)).size = (slashed dn).length) := Lib.hid (bs_size _)
      have HZ1 : Hid ((bs (P x).name).size = (P x).name.length) := Lib.hid (bs_size _)
      obtain ⟨y, hy⟩ : ∃ y, y = bs (P x).name := ⟨_, rfl⟩
      obtain ⟨z, hz⟩ : ∃ z, z = bs (slashed dn) := ⟨_, rfl⟩
      rw [← hy] at b2 hy1 HZ1
      rw [← hz] at hy2 HZ2 ⊢
      have HY := Lib.hid hy
      have HZz := Lib.hid hz
      have HCAT : Hid (∀ a : ByteArray, a = bs [47] ++ y ++ z → a = bs (slashed ((P x).name :: dn))) := Lib.hid (fun a h => by
        rw [h, HSL.out, HY.out, HZz.out, bs_app, bs_app]; rfl)
      clear hy hz hd2
      go_wp2
      go_round
      case rel => exact ⟨k + 1, (P x).name :: dn, hkN, by rw [HNX.out], congrArg Value.string (HCAT.out _ rfl), HD2.out⟩
      case measure =>
        have hy3 := hy1
        have hz3 := hy2
        have h47 : (⟨#[47]⟩ : ByteArray).size = 1 := rfl
        simp [strLen]
        omega

set_option maxHeartbeats 2000000 in
theorem pathTo_any (f : FsD) (node : Int) (v : Value) (w : World) (hR : FsA w v f) (hs : szF f ≤ 1048576) : Calls Try.prog 25 #[v, .int .i64 node] w fun e w' => e = .returned (.tuple #[.string (bs (pathF f node)), .bool (parK f node)]) ∧ Below w.heap.size w w' := by
  have HR := Lib.hid hR
  obtain ⟨nv, rfl, hN⟩ := hR
  have HN := Lib.hid hN
  obtain ⟨o, c, rfl, hm, hH⟩ := hN
  have HH := Lib.hid hH
  unfold maxLen at hm
  have hl : f.nodes.length ≤ 1048576 := (lists_small hs).1
  have HS := Lib.hid hs
  have HSZ : Hid (szNs f.nodes ≤ 1048576) := Lib.hid (by unfold szF at hs; omega)
  have hb0 : Below w.heap.size w (w.alloc (.cells #[.slice o f.nodes.length c, .int .i64 f.room] 24)) := (Below.refl _ _).alloc (Nat.le_refl _) _
  have hk0 := heap_alloc_new w (.cells #[.slice o f.nodes.length c, .int .i64 f.room] 24)
  have HB0 := Lib.hid hb0
  have HK0 := Lib.hid hk0
  clear hb0 hk0 hs hH
  by_cases hg : parK f node = true
  · have HG := Lib.hid hg
    obtain ⟨hgd, h0, h1, hk2⟩ := parK_in hg
    have HLD := Lib.hid (good_lead hgd)
    obtain ⟨m, rfl⟩ : ∃ m : Nat, node = m := ⟨node.toNat, by omega⟩
    have hml : m < f.nodes.length := by omega
    have HUP := Lib.hid (good_up hgd hml hk2)
    have hsm := names_small hgd (m : Int)
    have HIN : Hid (∀ k, 0 ≤ upN (placesF f.nodes) k (m : Int) ∧ upN (placesF f.nodes) k (m : Int) < f.nodes.length) := Lib.hid (fun k => upN_in (good_pos hgd) (by omega) (by omega) k)
    have HZD : Hid ((placesF f.nodes 0).dir = 0) := Lib.hid (by rw [pl_none (((goodF_GoodF hgd).2.2.2.2.2 0 (good_pos hgd)).1 rfl)]; rfl)
    have HV : Hid (bs (pathF f (m : Int)) = bs (pathL (nmsUp (placesF f.nodes) f.nodes.length (m : Int)))) := Lib.hid (by unfold pathF; rw [if_pos HG.out])
    clear hg hgd hk2
    go_enter Try.func25, Try.ntmps25
    go_wp2_with fail
    refine (isDirNode_any f _ _ _ (HR.out.below HB0.out) HS.out).mono ?_
    rintro e w1 ⟨rfl, hb1⟩
    rw [HG.out]
    have HB1 := Lib.hid (HB0.out.trans (hb1.mono HB0.out.size))
    have HK1 := Lib.hid ((hb1.block w.heap.size (lt_of_heap HK0.out)).trans HK0.out)
    have x1c0 := (cell_blk HK1.out 0).trans rfl
    have x1c1 := (cell_blk HK1.out 1).trans rfl
    clear hb1
    go_wp2_with fail
    refine (placesIn_any f.nodes _ _ (HN.out.below HB1.out) HSZ.out hl HLD.out).mono ?_
    rintro e w2 ⟨u, rfl, hp, hb2⟩
    have HB2 := Lib.hid (HB1.out.trans (hb2.mono HB1.out.size))
    have HP := Lib.hid hp
    obtain ⟨G, cp, rfl, -, -, -, -⟩ := hp
    clear hb2
    go_wp2_with fail
    refine (pathFromRoot_any f.nodes.length (placesF f.nodes) _ _ m f.nodes.length _ HP.out hl HIN.out HZD.out HUP.out hsm).mono ?_
    rintro e w3 ⟨rfl, rfl⟩
    go_wp2
    go_ret2
    exact ⟨tupSB HV.out.symm HG.out.symm, HB2.out⟩
  · have HG : Hid (parK f node = false) := Lib.hid (by simpa using hg)
    have HV : Hid (bs (pathF f node) = ⟨#[]⟩) := Lib.hid (by unfold pathF; rw [if_neg (by rw [HG.out]; simp)]; rfl)
    go_enter Try.func25, Try.ntmps25
    go_wp2_with fail
    refine (isDirNode_any f _ _ _ (HR.out.below HB0.out) HS.out).mono ?_
    rintro e w1 ⟨rfl, hb1⟩
    rw [HG.out]
    have HB1 := Lib.hid (HB0.out.trans (hb1.mono HB0.out.size))
    have HK1 := Lib.hid ((hb1.block w.heap.size (lt_of_heap HK0.out)).trans HK0.out)
    have x1c0 := (cell_blk HK1.out 0).trans rfl
    have x1c1 := (cell_blk HK1.out 1).trans rfl
    clear hb1
    go_wp2
    go_ret2
    exact ⟨tupSB HV.out.symm HG.out.symm, HB1.out⟩
end Go.Proofs.Ytdjpngdgbijedaa
