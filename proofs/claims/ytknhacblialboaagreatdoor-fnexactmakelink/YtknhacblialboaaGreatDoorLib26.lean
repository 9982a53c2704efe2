/-
  Joined: MakH MakT MakU.
  Conditions: as each states.
-/
import Derived.Deep.CutRange
import Derived.Deep.DeepCutAuto
import Derived.Deep.RegionWith
import Derived.Test.YtknhacblialboaaGreatDoorLib13
import Derived.Test.YtknhacblialboaaGreatDoorLib15
import Derived.Test.YtknhacblialboaaGreatDoorLib19
import Derived.Test.YtknhacblialboaaGreatDoorLib22
import Derived.Test.YtknhacblialboaaGreatDoorLib23
import Derived.Test.YtknhacblialboaaGreatDoorLib24
import Derived.Test.YtknhacblialboaaGreatDoorLib25
namespace Go.Proofs.YtknhacblialboaaGreatDoor
open Go.ChangeShapes Go.WideShapes Go.ChangeAt Go.RowKit Go.Joins
set_option linter.unusedVariables false
set_option linter.unusedSimpArgs false
set_option maxHeartbeats 16000000
set_option maxRecDepth 100000 in
theorem create_H (f : FsD) (u g t kd md : Int) (p x : ByteArray) (hok : bP9 f.nodes.length (newN u g kd md t x.data.toList) = true) (up : Nat) (nm : List UInt8) (hfp : fp0 f.nodes u g p.data.toList = (0, up, nm)) (hup : up < f.nodes.length) (hri : Rise (aC9 f.nodes up).list) (hie : isE (aC9 f.nodes up).list nm = false) (hdc : errC (dirC (aC9 f.nodes up) u g 3) = .nilIface) (k : Nat) (hkf : (k : Int) = bE9 f.nodes) (hfn : freeF f = (k : Int) ∧ freeK f = true) (cd : Int) (hcd : cd = if f.room < (sumD f.nodes : Int) + (x.size : Int) then 8 else 0) (huk : up ≠ k) (hnl : nm.length ≤ 8) (hs : szF f ≤ 1048576) (hk : bC9 f u g = true) (hsp : p.size ≤ 1048576) (hsx : x.size ≤ 1048576) (d R : Nat) (nv : Value) (ps : List (Nod × Value)) (w : World) (hR : R ≤ w.heap.size) (hRd : R ≤ d) (hD : Drf w d R nv ps f u g t) :
   Calls Tryz.prog 71 #[.pointer (some ⟨d, 0, none⟩), .string p, .agg #[.int .i64 kd, .int .i64 md, .int .i64 0, .int .i64 0, .int .i64 0, .string x, .slice none 0 0]] w fun e w' => CreSays R d f u g t (cd) (putFs (nodF f k (newN u g kd md t x.data.toList)) up nm k t) w e w' := by
 obtain ⟨oo, cc, rfl, -⟩ := aM9 hD.own.row
 have HD := qhZ hD
 have HS := qhZ hs
 have HK := qhZ hk
 have HSP := qhZ hsp
 have hpl8 : ps.length ≤ 1048576 := by rw [hD.len]; exact (aG9 hs).1
 have hxl : x.data.toList.length ≤ 1048576 := by rw [bytes_len]; exact hsx
 obtain ⟨W0, hW0⟩ : ∃ W0, W0 = w.alloc (.cells #[.int .i64 kd, .int .i64 md, .int .i64 0, .int .i64 0, .int .i64 0, .string x, .slice none 0 0] 55) := ⟨_, rfl⟩
 have HK0 : Hid (Below w.heap.size w W0) := qhZ (by rw [hW0]; exact (Below.refl _ _).alloc (Nat.le_refl _) _)
 have KB0 : Hid (W0.heap[w.heap.size]? = some (.cells #[.int .i64 kd, .int .i64 md, .int .i64 0, .int .i64 0, .int .i64 0, .string x, .slice none 0 0] 55)) := qhZ (by rw [hW0]; exact heap_alloc_new w _)
 have KD0 := qhZ (aD9 HK0.out HD.out.box)
 have HWX := qhZ hW0
 have HGN : Hid (∀ W, W.heap[w.heap.size]? = some (.cells #[.int .i64 kd, .int .i64 md, .int .i64 u, .int .i64 g, .int .i64 t, .string x, .slice none 0 0] 55) → Calls Tryz.prog 108 #[.pointer (some ⟨w.heap.size, 0, none⟩), .int .i64 ps.length] W fun e w' => e = .returned (.bool true) ∧ Below W.heap.size W w') := qhZ (fun W h => by
   rw [hD.len]
   exact isGood_is (q := newN u g kd md t x.data.toList) hok (aB9 h) ⟨aA9 h 0, aA9 h 1, aA9 h 2, aA9 h 3, aA9 h 4, by rw [show bs (newN u g kd md t x.data.toList).data = x from rfl]; exact aA9 h 5, aA9 h 6⟩ (entsA_nil _) (by simp [newN]) hxl)
 have d2 : W0.cell? ⟨d, 2, none⟩ = some (.int .i64 u) := (aA9 KD0.out 2).trans rfl
 have d3 : W0.cell? ⟨d, 3, none⟩ = some (.int .i64 g) := (aA9 KD0.out 3).trans rfl
 have d4 : W0.cell? ⟨d, 4, none⟩ = some (.int .i64 t) := (aA9 KD0.out 4).trans rfl
 have n2 : W0.cell? ⟨w.heap.size, 2, none⟩ = some (.int .i64 0) := (aA9 KB0.out 2).trans rfl
 have n3 : W0.cell? ⟨w.heap.size, 3, none⟩ = some (.int .i64 0) := (aA9 KB0.out 3).trans rfl
 have n4 : W0.cell? ⟨w.heap.size, 4, none⟩ = some (.int .i64 0) := (aA9 KB0.out 4).trans rfl
 have nf := aE9 KB0.out
 have HFIT := qhZ hD.fit
 have hg := bN9 hk
 have hsum : sumD (putFs (nodF f k (newN u g kd md t x.data.toList)) up nm k t).nodes = sumD f.nodes + x.size := by
   rw [sumD_put (Nat.lt_of_lt_of_le hup nodF_len.1), sumD_new hg hkf]
   show sumD f.nodes + x.data.toList.length = _
   rw [bytes_len]
 have HSUM := qhZ hsum
 have hS20 : sumD f.nodes ≤ 1048576 := by have := sumD_le f.nodes; unfold szF at hs; omega
 have HS20 := qhZ hS20
 have hlen2 := (nodF_len (f := f) (k := k) (n := newN u g kd md t x.data.toList)).2
 have hat2 := nodF_at (f := f) (n := newN u g kd md t x.data.toList) hup huk
 have hnodk : k ≤ f.nodes.length := by have := (free_lt (ns := f.nodes) (by omega)).1; omega
 have HF2 : Hid (aV9 (nodF f k (newN u g kd md t x.data.toList)).nodes) := qhZ (nodF_fit hD.fit (by show x.data.toList.length ≤ maxLen; rw [bytes_len]; unfold maxLen; omega) rfl)
 have HF3 : Hid (aV9 (putFs (nodF f k (newN u g kd md t x.data.toList)) up nm k t).nodes) := qhZ (putFs_fit (Nat.lt_of_lt_of_le hup nodF_len.1) HF2.out (by unfold maxLen; omega))
 have hfl := (aG9 hs).1
 have h40 : f.nodes.length ≤ 40 := by have := inB_t (goodF_GoodF hg).1; omega
 have HLEN3 : Hid ((putFs (nodF f k (newN u g kd md t x.data.toList)) up nm k t).nodes.length ≤ 1048576) := qhZ (by
   show ((nodF f k (newN u g kd md t x.data.toList)).nodes.set up _).length ≤ _
   rw [List.length_set]; omega)
 have HPUT : Hid (∀ W, R ≤ W.heap.size → Drf W d R (.slice oo ps.length cc) ps f u g t → Calls Tryz.prog 110 #[.pointer (some ⟨d, 0, none⟩), .int .i64 k, .agg #[.int .i64 kd, .int .i64 md, .int .i64 u, .int .i64 g, .int .i64 t, .string x, .slice none 0 0]] W fun e w' => e = .returned (.tuple #[]) ∧ Below R W w' ∧ Frm W w' d (.slice oo ps.length cc) ∧ ∃ nv2 ps2, w'.heap[d]? = some (.cells #[nv2, .int .i64 f.room, .int .i64 u, .int .i64 g, .int .i64 t] 75) ∧ ps2.map Prod.fst = (nodF f k (newN u g kd md t x.data.toList)).nodes ∧ Own w' R nv2 ps2) := qhZ (fun W hw h => by
   by_cases hkl : k = f.nodes.length
   · exact putNode_app f u g t kd md x k hkl hfl d R _ ps W hw hRd h
   · exact putNode_set f u g t kd md x k (by omega) hfl d R _ ps W hw hRd h)
 have HPN : Hid (∀ W (nv : Value) (qs : List (Nod × Value)), R ≤ W.heap.size → Drf W d R nv qs (nodF f k (newN u g kd md t x.data.toList)) u g t → Calls Tryz.prog 85 #[.pointer (some ⟨d, 0, none⟩), .agg #[.int .i64 up, .string (bs nm)], .int .i64 k] W fun e w' => e = .returned (.tuple #[]) ∧ Below R W w' ∧ ∃ ps2, w'.heap[d]? = some (.cells #[nv, .int .i64 f.room, .int .i64 u, .int .i64 g, .int .i64 t] 75) ∧ ps2.map Prod.fst = (putFs (nodF f k (newN u g kd md t x.data.toList)) up nm k t).nodes ∧ Own w' R nv ps2) := qhZ (fun W nv qs hw h =>
   putName_any (nodF f k (newN u g kd md t x.data.toList)) u g t up nm k (Nat.lt_of_lt_of_le hup nodF_len.1) (by rw [hat2]; exact hri) (by omega) (by rw [hat2]; exact ((aG9 hs).2 (aC9 f.nodes up) (by rw [show aC9 f.nodes up = f.nodes[up] from aR9 hup]; exact List.getElem_mem hup)).1) d R nv qs W hw hRd h)
 obtain ⟨FF, hFF⟩ : ∃ FF, FF = putFs (nodF f k (newN u g kd md t x.data.toList)) up nm k t := ⟨_, rfl⟩
 rw [← hFF] at HSUM HF3 HLEN3 HPN ⊢
 have HCD := qhZ hcd
 have HRM : Hid (∀ W (o : Option Addr) (n0 c0 : Nat), W.heap[d]? = some (.cells #[.slice o n0 c0, .int .i64 f.room, .int .i64 u, .int .i64 g, .int .i64 t] 75) → NodsA W (.slice o n0 c0) FF.nodes → Calls Tryz.prog 111 #[.pointer (some ⟨d, 0, none⟩)] W fun e w' => e = .returned (errC cd) ∧ Below W.heap.size W w') := qhZ (fun W o n0 c0 h1 h2 => by
   have h3 := checkRoom_any FF.nodes o n0 c0 f.room _ _ _ d W h1 h2 (by rw [HSUM.out]; have := HS20.out; omega) HLEN3.out
   rw [HSUM.out] at h3
   rw [hcd]
   simpa using h3)
 have HFN : Hid (∀ W, Drf W d R (.slice oo ps.length cc) ps f u g t → Calls Tryz.prog 109 #[.agg #[.slice oo ps.length cc, .int .i64 f.room]] W fun e w' => e = .returned (.tuple #[.int .i64 (k : Int), .bool true]) ∧ Below W.heap.size W w') := qhZ (fun W h => by
   have := freeNode_any f _ W h.fsA hs
   rw [hfn.1, hfn.2] at this
   exact this)
 have HFR := qhZ (fun W (h : Drf W d R (.slice oo ps.length cc) ps f u g t) => freeSpot_ask f u g t p up nm _ hfp hup hie hri hdc hs hk hsp d R _ ps W h)
 obtain ⟨xn, hxn⟩ : ∃ xn, xn = bs nm := ⟨_, rfl⟩
 rw [← hxn] at HFR HPN
 have hdw : d ≠ w.heap.size := fun e => by have := aB9 HD.out.box; omega
 clear hD hW0 hs hk hsp hsx hok hxl hfp hie hri hdc hxn hfn hcd hFF hsum hg hS20 hkf hat2 hlen2 hfl h40
 go_enter Tryz.func71, Tryz.ntmps71
 go_upto_region 1 with fail
 rw [← HWX.out]
 go_cut [] from 11 to 27 (fun wx => wx.heap[w.heap.size]? = some (.cells #[.int .i64 kd, .int .i64 md, .int .i64 u, .int .i64 g, .int .i64 t, .string x, .slice none 0 0] 55) ∧ Below w.heap.size w wx)
 case first =>
   go_region_with (fail)
   all_goals
     go_wp2_with fail
     go_meet
     first
       | exact ⟨set_three KB0.out _ _ _, bel_three HK0.out (Nat.le_refl _)⟩
       | exact ⟨set_three (w := W0.drew) KB0.out _ _ _, bel_three HK0.out.drew (Nat.le_refl _)⟩
       | exact ⟨set_three KB0.out _ _ _, (bel_three HK0.out (Nat.le_refl _)).drew⟩
 case rest =>
 obtain ⟨hN1, hb1⟩ := hcut
 have HN1 := qhZ hN1
 have HB1 := qhZ hb1
 have KD1 := qhZ (aD9 hb1 HD.out.box)
 have e0 : wc.cell? ⟨d, 0, none⟩ = some (.slice oo ps.length cc) := (aA9 KD1.out 0).trans rfl
 clear hN1 hb1 d2 d3 d4 n2 n3 n4 nf
 go_wp2_with fail
 refine (HGN.out _ HN1.out).mono ?_
 rintro e w2 ⟨rfl, hb2⟩
 have HB2 := qhZ (HB1.out.trans (hb2.mono HB1.out.size))
 have HN2 := qhZ (aD9 hb2 HN1.out)
 have KD2 := qhZ (aD9 hb2 KD1.out)
 clear hb2 e0
 go_wp2_with (go_at_call 84; refine (HFR.out _ (HD.out.below HB2.out)).mono ?_)
 rintro e w3 ⟨rfl, hb3⟩
 have HB3 := qhZ (HB2.out.trans (hb3.mono HB2.out.size))
 have HN3 := qhZ (aD9 hb3 HN2.out)
 have HB4 := qhZ (HB3.out.alloc HB3.out.size (.cells #[.int .i64 up, .string xn] 77))
 have HN4 := qhZ ((Below.heap_alloc w3 (.cells #[.int .i64 up, .string xn] 77) _ (aB9 HN3.out)).trans HN3.out)
 have KS4 := qhZ (heap_alloc_new w3 (.cells #[.int .i64 up, .string xn] 77))
 obtain ⟨w4, hw4⟩ : ∃ w4, w4 = w3.alloc (.cells #[.int .i64 up, .string xn] 77) := ⟨_, rfl⟩
 have HW4 := qhZ hw4
 rw [← hw4] at HB4 HN4 KS4
 have KD4 := qhZ (aD9 HB4.out HD.out.box)
 have e0 : w4.cell? ⟨d, 0, none⟩ = some (.slice oo ps.length cc) := (aA9 KD4.out 0).trans rfl
 have e1 : w4.cell? ⟨d, 1, none⟩ = some (.int .i64 f.room) := (aA9 KD4.out 1).trans rfl
 clear hb3 hw4
 go_upto_region 5 with fail
 rw [← HW4.out]
 go_wp2_with (go_at_call 109; refine (HFN.out _ (HD.out.below HB4.out)).mono ?_)
 rintro e w5 ⟨rfl, hb5⟩
 have HB5 := qhZ (HB4.out.trans (hb5.mono HB4.out.size))
 have HN5 := qhZ (aD9 hb5 HN4.out)
 have KS5 := qhZ (aD9 hb5 KS4.out)
 clear hb5 e0 e1
 have n0 : w5.cell? ⟨w.heap.size, 0, none⟩ = some (.int .i64 kd) := (aA9 HN5.out 0).trans rfl
 have n1 : w5.cell? ⟨w.heap.size, 1, none⟩ = some (.int .i64 md) := (aA9 HN5.out 1).trans rfl
 have n2 : w5.cell? ⟨w.heap.size, 2, none⟩ = some (.int .i64 u) := (aA9 HN5.out 2).trans rfl
 have n3 : w5.cell? ⟨w.heap.size, 3, none⟩ = some (.int .i64 g) := (aA9 HN5.out 3).trans rfl
 have n4 : w5.cell? ⟨w.heap.size, 4, none⟩ = some (.int .i64 t) := (aA9 HN5.out 4).trans rfl
 have n5 : w5.cell? ⟨w.heap.size, 5, none⟩ = some (.string x) := (aA9 HN5.out 5).trans rfl
 have n6 : w5.cell? ⟨w.heap.size, 6, none⟩ = some (.slice none 0 0) := (aA9 HN5.out 6).trans rfl
 have HDB5 := qhZ (HD.out.below HB5.out)
 go_wp2_with (go_at_call 110; refine (HPUT.out _ (Nat.le_trans hR HB5.out.size) HDB5.out).mono ?_)
 rintro e w6 ⟨rfl, hb6, hf6, nv6, ps6, hd6, hm6, ho6⟩
 have HB6 := qhZ ((HB5.out.mono hR).trans hb6)
 have KS6 := qhZ ((hf6 w3.heap.size (aB9 KS5.out) (fun e => by have h1 := aB9 HD.out.box; have h2 := HB3.out.size; omega) (fun e => by have h1 := HD.out.own.ltE.1 _ e; have h2 := HB3.out.size; omega)).trans KS5.out)
 have HD6 : Hid (Drf w6 d R nv6 ps6 (nodF f k (newN u g kd md t x.data.toList)) u g t) := qhZ ⟨hd6, hm6, ho6, HF2.out⟩
 have HS6 := qhZ (Nat.le_trans (Nat.le_trans hR HB5.out.size) hb6.size)
 clear hb6 hf6 hd6 hm6 ho6 n0 n1 n2 n3 n4 n5 n6
 have s0 : w6.cell? ⟨w3.heap.size, 0, none⟩ = some (.int .i64 up) := (aA9 KS6.out 0).trans rfl
 have s1 : w6.cell? ⟨w3.heap.size, 1, none⟩ = some (.string xn) := (aA9 KS6.out 1).trans rfl
 go_wp2_with (go_at_call 85; refine (HPN.out _ _ _ HS6.out HD6.out).mono ?_)
 rintro e w7 ⟨rfl, hb7, ps7, hd7, hm7, ho7⟩
 obtain ⟨o7, c7, rfl, -⟩ := aM9 ho7.row
 have HB7 := qhZ (HB6.out.trans hb7)
 have HX7 := qhZ hd7
 have HM7 := qhZ hm7
 have HO7 := qhZ ho7
 have HL7 : Hid (ps7.length = FF.nodes.length) := qhZ (by rw [← hm7]; simp)
 have HNA7 : Hid (NodsA w7 (.slice o7 ps7.length c7) FF.nodes) := qhZ (by
   have h := ho7.read f.room (by rw [hm7]; exact HF3.out)
   rw [hm7] at h
   obtain ⟨nvz, e8, h8⟩ := h
   simp only [Value.agg.injEq, Array.mk.injEq, List.cons.injEq, and_true] at e8
   rw [e8]; exact h8)
 have HS7 := qhZ (Nat.le_trans HS6.out hb7.size)
 clear hb7 hd7 hm7 ho7 s0 s1
 go_wp2_with (go_at_call 111; refine (HRM.out _ _ _ _ HX7.out HNA7.out).mono ?_)
 rintro e w8 ⟨rfl, hb8⟩
 have HB8 := qhZ (HB7.out.trans (hb8.mono HS7.out))
 have HX8 := qhZ (aD9 hb8 HX7.out)
 have HO8 := qhZ (HO7.out.below hb8)
 clear hb8
 obtain ⟨EE, hEE⟩ : ∃ EE, EE = errC cd := ⟨_, rfl⟩
 rw [← hEE]
 have HEE := qhZ hEE
 clear hEE
 go_wp2
 go_ret
 exact ⟨EE, rfl, by rw [HEE.out]; exact says_C cd, HB8.out, _, ps7, HX8.out, HO8.out, fun h => ⟨by rw [HEE.out, h]; rfl, HM7.out⟩⟩
theorem app1_2m (a b c : Value) : #[a] ++ #[b, c] = #[a, b, c] := rfl
theorem create_is (f : FsD) (u g t kd md : Int) (p x : ByteArray) (bad : Bool) (hok : bP9 f.nodes.length (newN u g kd md t x.data.toList) = !bad) (hs : szF f ≤ 1048576) (hk : bC9 f u g = true) (hsp : p.size ≤ 1048576) (hsx : x.size ≤ 1048576) (d R : Nat) (nv : Value) (ps : List (Nod × Value)) (w : World) (hR : R ≤ w.heap.size) (hRd : R ≤ d) (hD : Drf w d R nv ps f u g t) :
   Calls Tryz.prog 71 #[.pointer (some ⟨d, 0, none⟩), .string p, .agg #[.int .i64 kd, .int .i64 md, .int .i64 0, .int .i64 0, .int .i64 0, .string x, .slice none 0 0]] w fun e w' => CreSays R d f u g t (dataC bad (newC f u g p.data.toList x.data.toList)) (newG f u g p.data.toList (newN u g kd md t x.data.toList) t) w e w' := by
 have hg := bN9 hk
 have hL := (look_of hg hs).1
 cases bad with
 | true =>
   rw [dataC_bad]
   exact create_A f u g t kd md p x hok hs hk hsp hsx d R nv ps w hR hRd hD
 | false =>
   rw [dataC_no]
   obtain ⟨⟨c2, up, nm⟩, hfp⟩ : ∃ q, fp0 f.nodes u g p.data.toList = q := ⟨_, rfl⟩
   have bad_ : ∀ cd : Int, spotC f u g p.data.toList = cd → cd ≠ 0 → (newC f u g p.data.toList x.data.toList) = cd := fun cd h h0 => by unfold newC; rw [h]; simp [h0]
   by_cases h3 : c2 = 0
   case neg =>
     rw [bad_ c2 (spotC_bad hfp h3) h3]
     exact create_C f u g t kd md p x hok c2 up nm hfp h3 hs hk hsp hsx d R nv ps w hR hRd hD
   subst h3
   obtain ⟨hnm, hup, hkd⟩ := fp0_facts hL hfp
   have hri := rise_node (good_nods hg) up
   cases hi : isE (aC9 f.nodes up).list nm with
   | true =>
     rw [bad_ 6 (spotC_there hfp hi) (by decide)]
     exact create_D f u g t kd md p x hok up nm hfp hup hri hi hs hk hsp hsx d R nv ps w hR hRd hD
   | false =>
     cases hm : mayB u g (aC9 f.nodes up).mode (aC9 f.nodes up).uid (aC9 f.nodes up).gid 3 with
     | false =>
       have hdc : errC (dirC (aC9 f.nodes up) u g 3) = codeV 4 := by rw [dirC_threeM hkd, hm]; rfl
       rw [bad_ 4 (spotC_may hfp hi hm) (by decide)]
       exact create_E f u g t kd md p x hok up nm hfp hup hri hi hdc hs hk hsp hsx d R nv ps w hR hRd hD
     | true =>
       have hdc : errC (dirC (aC9 f.nodes up) u g 3) = .nilIface := by rw [dirC_threeM hkd, hm]; rfl
       have e0 := spotC_ok hfp hi hm
       by_cases hn : bE9 f.nodes < 0
       · have e1 : (newC f u g p.data.toList x.data.toList) = 8 := by unfold newC; rw [e0]; simp [hn]
         rw [e1]
         exact create_G f u g t kd md p x hok up nm hfp hup hri hi hdc ((free_vals hg rfl).2 hn) hs hk hsp hsx d R nv ps w hR hRd hD
       · have h0 : 0 ≤ bE9 f.nodes := by omega
         obtain ⟨k, hkf⟩ : ∃ k : Nat, (k : Int) = bE9 f.nodes := ⟨(bE9 f.nodes).toNat, by omega⟩
         have hkt : (bE9 f.nodes).toNat = k := by omega
         have e1 : (newC f u g p.data.toList x.data.toList) = if f.room < (sumD f.nodes : Int) + (x.size : Int) then 8 else 0 := by unfold newC; rw [e0, bytes_len]; simp [hn]
         have e9 : (newG f u g p.data.toList (newN u g kd md t x.data.toList) t) = putFs (nodF f k (newN u g kd md t x.data.toList)) up nm k t := by
           unfold newG; rw [hfp, hkt, hkf]
         rw [e9]
         exact create_H f u g t kd md p x hok up nm hfp hup hri hi hdc k hkf ((free_vals hg hkf.symm).1 (by omega)) _ e1 (fun e => by
           have hz := free_kind h0 (by rw [hkt, ← e]; exact hup)
           rw [hkt, ← e, hkd] at hz; cases hz) (name_len hnm) hs hk hsp hsx d R nv ps w hR hRd hD
theorem makeNode1_of (p x : ByteArray) (kd md : Int) (pb nb d : Nat) (w1 : World) (hP : w1.heap[pb]? = some (.cells #[.string p] 9)) (hX : w1.heap[nb]? = some (.cells #[.int .i64 kd, .int .i64 md, .int .i64 0, .int .i64 0, .int .i64 0, .string x, .slice none 0 0] 55)) (Q : Ending → World → Prop)
   (h : Calls Tryz.prog 71 #[.pointer (some ⟨d, 0, none⟩), .string p, .agg #[.int .i64 kd, .int .i64 md, .int .i64 0, .int .i64 0, .int .i64 0, .string x, .slice none 0 0]] w1 fun e w' => ∃ E, e = .returned E ∧ Q (.returned E) w') :
   Calls Tryz.prog 70 #[.pointer (some ⟨d, 0, none⟩), .pointer (some ⟨pb, 0, none⟩), .pointer (some ⟨nb, 0, none⟩)] w1 Q := by
 have p0 : w1.cell? ⟨pb, 0, none⟩ = some (.string p) := aA9 hP 0
 have y0 : w1.cell? ⟨nb, 0, none⟩ = some (.int .i64 kd) := aA9 hX 0
 have y1 : w1.cell? ⟨nb, 1, none⟩ = some (.int .i64 md) := aA9 hX 1
 have y2 : w1.cell? ⟨nb, 2, none⟩ = some (.int .i64 0) := aA9 hX 2
 have y3 : w1.cell? ⟨nb, 3, none⟩ = some (.int .i64 0) := aA9 hX 3
 have y4 : w1.cell? ⟨nb, 4, none⟩ = some (.int .i64 0) := aA9 hX 4
 have y5 : w1.cell? ⟨nb, 5, none⟩ = some (.string x) := aA9 hX 5
 have y6 : w1.cell? ⟨nb, 6, none⟩ = some (.slice none 0 0) := aA9 hX 6
 have HH := qhZ h
 clear hP hX h
 go_enter Tryz.func70, Tryz.ntmps70
 go_wp2_with fail
 refine HH.out.mono ?_
 rintro e w2 ⟨E, rfl, hq⟩
 have HQ := qhZ hq
 clear hq p0 y0 y1 y2 y3 y4 y5 y6
 go_wp2
 exact HQ.out
def FsAnsM (w : World) (F : FsD) (cd : Int) (ak : Bool) (e : Ending) (w' : World) : Prop := ∃ nv ps, e = .returned (.tuple #[.agg #[nv, .int .i64 F.room], .int .i64 cd, .bool ak]) ∧ ps.map Prod.fst = F.nodes ∧ Own w' w.heap.size nv ps ∧ Below w.heap.size w w'
set_option maxRecDepth 100000 in
theorem tryOn_make (f : FsD) (v : Value) (u g t kd md : Int) (p x : ByteArray) (bad : Bool) (hok : askT f u g t = true → bP9 f.nodes.length (newN u g kd md t x.data.toList) = !bad) (pb nb : Nat) (w : World) (hR : FsA w v f) (hs : szF f ≤ 1048576) (hsp : p.size ≤ 1048576) (hsx : x.size ≤ 1048576) (hE : ErrT w) (hP : w.heap[pb]? = some (.cells #[.string p] 9)) (hX : w.heap[nb]? = some (.cells #[.int .i64 kd, .int .i64 md, .int .i64 0, .int .i64 0, .int .i64 0, .string x, .slice none 0 0] 55)) :
   Calls Tryz.prog 45 #[v, .agg #[.int .i64 u, .int .i64 g], .int .i64 t, .func (.func 70) #[] #[.pointer (some ⟨pb, 0, none⟩), .pointer (some ⟨nb, 0, none⟩)]] w fun e w' => FsAnsM w (makF (askT f u g t) (dataC bad (newC f u g p.data.toList x.data.toList)) (newG f u g p.data.toList (newN u g kd md t x.data.toList) t) f) (makC (askT f u g t) (dataC bad (newC f u g p.data.toList x.data.toList))) (askT f u g t) e w' := by
 have hfit : aV9 f.nodes := by obtain ⟨nv, rfl, hN⟩ := hR; exact hN.fit
 have hent := enters_of Tryz.func70 (by kernel_rfl) rfl
 cases hA : askT f u g t with
 | false =>
   refine (tryOn_no f v u g t 70 _ w hR hs hA).mono ?_
   rintro e w' ⟨rfl, hb⟩
   exact ⟨_, [], rfl, rfl, Own.nil _ _, hb⟩
 | true =>
   obtain ⟨hk, ht⟩ : bC9 f u g = true ∧ inB 0 1000000 t = true := by unfold askT at hA; simpa using hA
   have hcr := fun (w1 : World) (d R : Nat) (nv : Value) (ps : List (Nod × Value)) hR1 hRd hD => create_is f u g t kd md p x bad (hok hA) hs hk hsp hsx d R nv ps w1 hR1 hRd hD
   by_cases hc : dataC bad (newC f u g p.data.toList x.data.toList) = 0
   · rw [hc] at hcr
     rw [hc, makF_yes]
     exact tryOn_ok f (newG f u g p.data.toList (newN u g kd md t x.data.toList) t) v u g t 70 _ w hR hs hE hk ht hent (fun w1 d R nv ps h1 h2 h3 h4 h5 h6 => by
       rw [app1_2m]
       exact makeNode1_of p x kd md pb nb d w1 (aD9 h3 hP) (aD9 h3 hX) _ ((hcr w1 d R nv ps (Nat.le_trans h2 (Nat.le_of_lt (aB9 h4))) h2 ⟨h4, h5, h6, hfit⟩).mono fun e w' ⟨E, a1, a2, a3, nv2, ps2, a4, a5, a6⟩ => ⟨E, a1, by rw [(a6 rfl).1], a3, nv2, ps2, a4, (a6 rfl).2, a5⟩))
   · rw [makF_bad hc]
     exact tryOn_told f (dataC bad (newC f u g p.data.toList x.data.toList)) hc v u g t 70 _ w hR hs hE hk ht hent (fun w1 d R nv ps h1 h2 h3 h4 h5 h6 => by
       rw [app1_2m]
       exact makeNode1_of p x kd md pb nb d w1 (aD9 h3 hP) (aD9 h3 hX) _ ((hcr w1 d R nv ps (Nat.le_trans h2 (Nat.le_of_lt (aB9 h4))) h2 ⟨h4, h5, h6, hfit⟩).mono fun e w' ⟨E, a1, a2, a3, nv2, ps2, a4, a5, a6⟩ => ⟨E, a1, E, rfl, a2, a3, nv2, ps2, a4, a5⟩))
theorem al5m (w : World) (a b c d e : Obj) : let W := ((((w.alloc a).alloc b).alloc c).alloc d).alloc e
   W.heap[w.heap.size]? = some a ∧ W.heap[w.heap.size + 1]? = some b ∧ W.heap[w.heap.size + 2]? = some c ∧ W.heap[w.heap.size + 3]? = some d ∧ W.heap[w.heap.size + 4]? = some e := by
 have s : ∀ (w : World) (o : Obj) (i : Nat) (z : Obj), w.heap[i]? = some z → (w.alloc o).heap[i]? = some z := fun w o i z h => (Below.heap_alloc w o i (aB9 h)).trans h
 have n : ∀ (w : World) (o : Obj) (i : Nat), i = w.heap.size → (w.alloc o).heap[i]? = some o := fun w o i h => by rw [h]; exact heap_alloc_new w o
 exact ⟨s _ _ _ _ (s _ _ _ _ (s _ _ _ _ (s _ _ _ _ (n _ _ _ rfl)))), s _ _ _ _ (s _ _ _ _ (s _ _ _ _ (n _ _ _ (by simp)))), s _ _ _ _ (s _ _ _ _ (n _ _ _ (by simp))), s _ _ _ _ (n _ _ _ (by simp)), n _ _ _ (by simp)⟩
theorem bel5m (w : World) (a b c d e : Obj) : Below w.heap.size w (((((w.alloc a).alloc b).alloc c).alloc d).alloc e) := aH9 (aH9 (aH9 (aH9 (aH9 (Below.refl _ w)))))
set_option maxRecDepth 100000 in
theorem makeNode_any (f : FsD) (v : Value) (u g t kd md : Int) (p x : ByteArray) (bad : Bool) (hok : askT f u g t = true → inB 0 511 md = true → bP9 f.nodes.length (newN u g kd md t x.data.toList) = !bad) (w : World) (hR : FsA w v f) (hs : szF f ≤ 1048576) (hsp : p.size ≤ 1048576) (hsx : x.size ≤ 1048576) (hE : ErrT w) :
   Calls Tryz.prog 39 #[v, .agg #[.int .i64 u, .int .i64 g], .string p, .agg #[.int .i64 kd, .int .i64 md, .int .i64 0, .int .i64 0, .int .i64 0, .string x, .slice none 0 0], .int .i64 t] w fun e w' => FsAnsM w (makF (askT f u g t && inB 0 511 md) (dataC bad (newC f u g p.data.toList x.data.toList)) (newG f u g p.data.toList (newN u g kd md t x.data.toList) t) f) (makC (askT f u g t && inB 0 511 md) (dataC bad (newC f u g p.data.toList x.data.toList))) (askT f u g t && inB 0 511 md) e w' := by
 have hmf : ∀ (fn : Fn) (first cap : Array Value) (w : World), (Instr.makeFunc fn first cap).run Tryz.prog w = .ok (.func fn first cap) w := fun _ _ _ _ => rfl
 unfold FsAnsM
 have HR := qhZ hR
 have HS := qhZ hs
 have HSP := qhZ hsp
 have HSX := qhZ hsx
 have HET := qhZ hE
 have HOK := qhZ hok
 obtain ⟨nv, rfl, hN⟩ := hR
 obtain ⟨o, c, rfl, -, -⟩ := hN
 have HB6 := qhZ (bel5m w (.cells #[.slice o f.nodes.length c, .int .i64 f.room] 30) (.cells #[.int .i64 u, .int .i64 g] 34) (.cells #[.string p] 9) (.cells #[.int .i64 kd, .int .i64 md, .int .i64 0, .int .i64 0, .int .i64 0, .string x, .slice none 0 0] 55) (.cells #[.slice none 0 0, .int .i64 0] 30))
 obtain ⟨k0, k1, k2, k3, k4⟩ := al5m w (.cells #[.slice o f.nodes.length c, .int .i64 f.room] 30) (.cells #[.int .i64 u, .int .i64 g] 34) (.cells #[.string p] 9) (.cells #[.int .i64 kd, .int .i64 md, .int .i64 0, .int .i64 0, .int .i64 0, .string x, .slice none 0 0] 55) (.cells #[.slice none 0 0, .int .i64 0] 30)
 have K2 := qhZ k2
 have K3 := qhZ k3
 have KZ := qhZ k4
 have HSZ : Hid ((((((w.alloc (.cells #[.slice o f.nodes.length c, .int .i64 f.room] 30)).alloc (.cells #[.int .i64 u, .int .i64 g] 34)).alloc (.cells #[.string p] 9)).alloc (.cells #[.int .i64 kd, .int .i64 md, .int .i64 0, .int .i64 0, .int .i64 0, .string x, .slice none 0 0] 55)).alloc (.cells #[.slice none 0 0, .int .i64 0] 30)).heap.size = w.heap.size + 5) := qhZ (by simp)
 have HR6 := qhZ (HR.out.below HB6.out)
 have HE6 := qhZ (HET.out.below HB6.out HET.out.1)
 have m1 := (aA9 k3 1).trans rfl
 cases hmd : inB 0 511 md with
 | true =>
   have HMD := qhZ hmd
   obtain ⟨F, hF⟩ : ∃ F, (makF (askT f u g t) (dataC bad (newC f u g p.data.toList x.data.toList)) (newG f u g p.data.toList (newN u g kd md t x.data.toList) t) f) = F := ⟨_, rfl⟩
   obtain ⟨CD, hCD⟩ : ∃ C, (makC (askT f u g t) (dataC bad (newC f u g p.data.toList x.data.toList))) = C := ⟨_, rfl⟩
   obtain ⟨AK, hAK⟩ : ∃ A, (askT f u g t) = A := ⟨_, rfl⟩
   have HCALL : Hid (∀ (pb nb : Nat) (W : World) (v9 : Value), FsA W v9 f → ErrT W → W.heap[pb]? = some (.cells #[.string p] 9) → W.heap[nb]? = some (.cells #[.int .i64 kd, .int .i64 md, .int .i64 0, .int .i64 0, .int .i64 0, .string x, .slice none 0 0] 55) →
       Calls Tryz.prog 45 #[v9, .agg #[.int .i64 u, .int .i64 g], .int .i64 t, .func (.func 70) #[] #[.pointer (some ⟨pb, 0, none⟩), .pointer (some ⟨nb, 0, none⟩)]] W fun e w' => ∃ nv ps, e = .returned (.tuple #[.agg #[nv, .int .i64 F.room], .int .i64 CD, .bool AK]) ∧ ps.map Prod.fst = F.nodes ∧ Own w' W.heap.size nv ps ∧ Below W.heap.size W w') := qhZ (fun pb nb W v9 h2 h3 h4 h5 => by
     have hq := tryOn_make f v9 u g t kd md p x bad (fun h => HOK.out h HMD.out) pb nb W h2 HS.out HSP.out HSX.out h3 h4 h5
     unfold FsAnsM at hq
     rw [hF, hCD, hAK] at hq
     exact hq)
   rw [Bool.and_true, hF, hCD, hAK]
   clear hs hsp hsx hE hok k0 k1 k2 k3 k4 hF hCD hAK hmd
   go_enter Tryz.func39, Tryz.ntmps39
   go_wp2_with (go_at_call 69; refine (isMode_any md _).mono ?_; rintro e w' ⟨rfl, rfl⟩; rw [HMD.out])
   refine (HCALL.out (w.heap.size + 2) (w.heap.size + 3) _ _ HR6.out HE6.out K2.out K3.out).mono ?_
   rintro e w2 ⟨nv2, ps2, rfl, hps2, hO2, hb2⟩
   obtain ⟨oo2, cc2, rfl, -⟩ := aM9 hO2.row
   have HB2 := qhZ (aL9 HB6.out hb2)
   have KZ2 := qhZ (aD9 hb2 KZ.out)
   have HPS := qhZ hps2
   have hsz := HSZ.out
   have HO2 := qhZ (hO2.low (R := w.heap.size + 5) (Nat.le_of_eq hsz.symm))
   have z0 := (aA9 KZ2.out 0).trans rfl
   have z1 := (aA9 KZ2.out 1).trans rfl
   have zf := aE9 KZ2.out
   have hq := bG9 KZ2.out (.slice oo2 ps2.length cc2) (.int .i64 F.room)
   have t0 := (aA9 hq 0).trans rfl
   have t1 := (aA9 hq 1).trans rfl
   have HA9 : Hid (Own _ w.heap.size _ _) := qhZ (((HO2.out.besides (b := w.heap.size + 4) (by omega) 0 (.slice oo2 ps2.length cc2)).besides (b := w.heap.size + 4) (by omega) 1 (.int .i64 F.room)).low (by omega))
   have HB9 := qhZ (aP9 (G := w.heap.size + 4) (x := .slice oo2 ps2.length cc2) (y := .int .i64 F.room) HB2.out (by omega))
   clear hps2 hO2 hb2 hq
   go_wp2
   refine bodyPost_ret (v := .tuple #[.agg #[.slice oo2 ps2.length cc2, .int .i64 F.room], .int .i64 CD, .bool AK]) (by simp [results, Tryz.results39, go_sem, t0, t1]) rfl ?_
   first
     | exact ⟨_, ps2, rfl, HPS.out, HA9.out, HB9.out⟩
     | exact ⟨_, rfl, ps2, HPS.out, HA9.out, HB9.out⟩
 | false =>
   have HMD := qhZ hmd
   rw [Bool.and_false, makF_no]
   have z0 := (aA9 KZ.out 0).trans rfl
   have z1 := (aA9 KZ.out 1).trans rfl
   have zf := aE9 KZ.out
   have hq := bG9 KZ.out (.slice none 0 0) (.int .i64 0)
   have t0 := (aA9 hq 0).trans rfl
   have t1 := (aA9 hq 1).trans rfl
   have HB9 := qhZ (aP9 (G := w.heap.size + 4) (x := .slice none 0 0) (y := .int .i64 0) HB6.out (by omega))
   clear hs hsp hsx hE hok k0 k1 k2 k3 k4 hmd hq
   go_enter Tryz.func39, Tryz.ntmps39
   go_wp2_with (go_at_call 69; refine (isMode_any md _).mono ?_; rintro e w' ⟨rfl, rfl⟩; rw [HMD.out])
   refine bodyPost_ret (v := .tuple #[.agg #[.slice none 0 0, .int .i64 0], .int .i64 0, .bool false]) (by simp [results, Tryz.results39, go_sem, t0, t1]) rfl ?_
   first
     | exact ⟨_, [], rfl, rfl, Own.nil _ _, HB9.out⟩
     | exact ⟨_, rfl, [], rfl, Own.nil _ _, HB9.out⟩
     | exact ⟨_, [], rfl, rfl, Own.nil _ _, HB6.out⟩
     | exact ⟨_, rfl, [], rfl, Own.nil _ _, HB6.out⟩
theorem al3u (w : World) (a b c : Obj) : let W := ((w.alloc a).alloc b).alloc c
   W.heap[w.heap.size]? = some a ∧ W.heap[w.heap.size + 1]? = some b ∧ W.heap[w.heap.size + 2]? = some c := by
 have s : ∀ (w : World) (o : Obj) (i : Nat) (z : Obj), w.heap[i]? = some z → (w.alloc o).heap[i]? = some z := fun w o i z h => (Below.heap_alloc w o i (aB9 h)).trans h
 have n : ∀ (w : World) (o : Obj) (i : Nat), i = w.heap.size → (w.alloc o).heap[i]? = some o := fun w o i h => by rw [h]; exact heap_alloc_new w o
 exact ⟨s _ _ _ _ (s _ _ _ _ (n _ _ _ rfl)), s _ _ _ _ (n _ _ _ (by simp)), n _ _ _ (by simp)⟩
theorem bel3u (w : World) (a b c : Obj) : Below w.heap.size w (((w.alloc a).alloc b).alloc c) := aH9 (aH9 (aH9 (Below.refl _ w)))
end Go.Proofs.YtknhacblialboaaGreatDoor
