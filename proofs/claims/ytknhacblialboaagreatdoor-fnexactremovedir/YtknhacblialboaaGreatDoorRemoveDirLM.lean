/-
  For every file system, cred and the other arguments the law FnExactRemoveDir returns true (impl.RemoveDir answers as its model, writes into no argument, and its answer owns its memory) and its arguments read as before.
  Conditions: none beyond the row's own form.
-/
import Derived.ChangeMaps5
import Derived.Deep.RegionHeld3
import Derived.Deep.CutRange
import Derived.Deep.CutBlock
import Derived.Deep.DeepCutAuto
import Derived.Test.YtknhacblialboaaGreatDoorLib2
import Derived.Test.YtknhacblialboaaGreatDoorLib11
import Derived.Test.YtknhacblialboaaGreatDoorLib21
import Derived.Test.YtknhacblialboaaGreatDoorLib23
import Derived.Test.YtknhacblialboaaGreatDoorLib28
import Derived.Test.YtknhacblialboaaGreatDoorLib30
namespace Go.Proofs.YtknhacblialboaaGreatDoor
open Go.ChangeShapes Go.WideShapes Go.ChangeAt Go.RowKit Go.Joins
set_option linter.unusedVariables false
set_option linter.unusedSimpArgs false
set_option maxHeartbeats 16000000
theorem removeDir1_of (s : ByteArray) (pb d : Nat) (w1 : World) (hP : w1.heap[pb]? = some (.cells #[.string s] 9)) (Q : Ending → World → Prop)
   (h : Calls Tryz.prog 50 #[.pointer (some ⟨d, 0, none⟩), .string s, .bool true] w1 fun e w' => ∃ E, e = .returned E ∧ Q (.returned E) w') :
   Calls Tryz.prog 51 #[.pointer (some ⟨d, 0, none⟩), .pointer (some ⟨pb, 0, none⟩)] w1 Q := by
 have p0 : w1.cell? ⟨pb, 0, none⟩ = some (.string s) := aA9 hP 0
 have HH := qhZ h
 clear hP h
 go_enter Tryz.func51, Tryz.ntmps51
 go_wp2_with fail
 refine HH.out.mono ?_
 rintro e w2 ⟨E, rfl, hq⟩
 have HQ := qhZ hq
 clear hq p0
 go_wp2
 exact HQ.out
set_option maxRecDepth 100000 in
theorem tryOn_removeDir (f : FsD) (v : Value) (u g t : Int) (s : ByteArray) (pb : Nat) (w : World) (hR : FsA w v f) (hs : szF f ≤ 1048576) (hss : s.size ≤ 1048576) (hE : ErrT w) (hP : w.heap[pb]? = some (.cells #[.string s] 9)) :
   Calls Tryz.prog 45 #[v, .agg #[.int .i64 u, .int .i64 g], .int .i64 t, .func (.func 51) #[] #[.pointer (some ⟨pb, 0, none⟩)]] w fun e w' => FsAnsC w (makF (askT f u g t) (cutC f u g s.data.toList true) (cutG f u g s.data.toList t) f) (makC (askT f u g t) (cutC f u g s.data.toList true)) (askT f u g t) e w' := by
 have hfit : aV9 f.nodes := by obtain ⟨nv, rfl, hN⟩ := hR; exact hN.fit
 have hent := enters_of Tryz.func51 (by kernel_rfl) rfl
 cases hA : askT f u g t with
 | false =>
   refine (tryOn_no f v u g t 51 _ w hR hs hA).mono ?_
   rintro e w' ⟨rfl, hb⟩
   exact ⟨_, [], rfl, rfl, Own.nil _ _, hb⟩
 | true =>
   obtain ⟨hk, ht⟩ : bC9 f u g = true ∧ inB 0 1000000 t = true := by unfold askT at hA; simpa using hA
   have hcr := fun (w1 : World) (d R : Nat) (nv : Value) (ps : List (Nod × Value)) hR1 hRd hD => remove_is f u g t s true hs hk hss d R nv ps w1 hR1 hRd hD
   by_cases hc : (cutC f u g s.data.toList true) = 0
   · rw [hc] at hcr
     rw [hc, makF_yes]
     have hroom : (cutG f u g s.data.toList t).room = f.room := takFs_room _ _ _ _
     exact tryOn_ok f (cutG f u g s.data.toList t) v u g t 51 _ w hR hs hE hk ht hent (fun w1 d R nv ps h1 h2 h3 h4 h5 h6 => by
       rw [app1_1c]
       exact removeDir1_of s pb d w1 (aD9 h3 hP) _ ((hcr w1 d R nv ps (Nat.le_trans h2 (Nat.le_of_lt (aB9 h4))) h2 ⟨h4, h5, h6, hfit⟩).mono fun e w' ⟨E, a1, a2, a3, nv2, ps2, a4, a5, a6⟩ => ⟨E, a1, by rw [(a6 rfl).1], a3, nv2, ps2, by rw [hroom]; exact a4, (a6 rfl).2, a5⟩))
   · rw [makF_bad hc]
     exact tryOn_told f (cutC f u g s.data.toList true) hc v u g t 51 _ w hR hs hE hk ht hent (fun w1 d R nv ps h1 h2 h3 h4 h5 h6 => by
       rw [app1_1c]
       exact removeDir1_of s pb d w1 (aD9 h3 hP) _ ((hcr w1 d R nv ps (Nat.le_trans h2 (Nat.le_of_lt (aB9 h4))) h2 ⟨h4, h5, h6, hfit⟩).mono fun e w' ⟨E, a1, a2, a3, nv2, ps2, a4, a5, a6⟩ => ⟨E, a1, E, rfl, a2, a3, nv2, ps2, a4, a5⟩))
set_option maxRecDepth 100000 in
theorem removeDir_any (f : FsD) (v : Value) (u g : Int) (s : ByteArray) (t : Int) (w : World) (hR : FsA w v f) (hs : szF f ≤ 1048576) (hss : s.size ≤ 1048576) (hE : ErrT w) :
   Calls Tryz.prog 28 #[v, .agg #[.int .i64 u, .int .i64 g], .string s, .int .i64 t] w fun e w' => FsAnsC w (makF (askT f u g t) (cutC f u g s.data.toList true) (cutG f u g s.data.toList t) f) (makC (askT f u g t) (cutC f u g s.data.toList true)) (askT f u g t) e w' := by
 have hmf : ∀ (fn : Fn) (first cap : Array Value) (w : World), (Instr.makeFunc fn first cap).run Tryz.prog w = .ok (.func fn first cap) w := fun _ _ _ _ => rfl
 unfold FsAnsC
 have HR := qhZ hR
 have HS := qhZ hs
 have HSS := qhZ hss
 have HET := qhZ hE
 obtain ⟨F, hF⟩ : ∃ F, (makF (askT f u g t) (cutC f u g s.data.toList true) (cutG f u g s.data.toList t) f) = F := ⟨_, rfl⟩
 obtain ⟨CD, hCD⟩ : ∃ C, (makC (askT f u g t) (cutC f u g s.data.toList true)) = C := ⟨_, rfl⟩
 obtain ⟨AK, hAK⟩ : ∃ A, (askT f u g t) = A := ⟨_, rfl⟩
 have HCALL : Hid (∀ (pb : Nat) (W : World) (v9 : Value), FsA W v9 f → ErrT W → W.heap[pb]? = some (.cells #[.string s] 9) →
     Calls Tryz.prog 45 #[v9, .agg #[.int .i64 u, .int .i64 g], .int .i64 t, .func (.func 51) #[] #[.pointer (some ⟨pb, 0, none⟩)]] W fun e w' => ∃ nv ps, e = .returned (.tuple #[.agg #[nv, .int .i64 F.room], .int .i64 CD, .bool AK]) ∧ ps.map Prod.fst = F.nodes ∧ Own w' W.heap.size nv ps ∧ Below W.heap.size W w') := qhZ (fun pb W v9 h2 h3 h4 => by
   have hq := tryOn_removeDir f v9 u g t s pb W h2 HS.out HSS.out h3 h4
   unfold FsAnsC at hq
   rw [hF, hCD, hAK] at hq
   exact hq)
 rw [hF, hCD, hAK]
 obtain ⟨nv, rfl, hN⟩ := hR
 obtain ⟨o, c, rfl, -, -⟩ := hN
 have HB6 := qhZ (bel4c w (.cells #[.slice o f.nodes.length c, .int .i64 f.room] 30) (.cells #[.int .i64 u, .int .i64 g] 34) (.cells #[.string s] 9) (.cells #[.slice none 0 0, .int .i64 0] 30))
 obtain ⟨k0, k1, k2, k3⟩ := al4c w (.cells #[.slice o f.nodes.length c, .int .i64 f.room] 30) (.cells #[.int .i64 u, .int .i64 g] 34) (.cells #[.string s] 9) (.cells #[.slice none 0 0, .int .i64 0] 30)
 have K2 := qhZ k2
 have KZ := qhZ k3
 have HSZ : Hid (((((w.alloc (.cells #[.slice o f.nodes.length c, .int .i64 f.room] 30)).alloc (.cells #[.int .i64 u, .int .i64 g] 34)).alloc (.cells #[.string s] 9)).alloc (.cells #[.slice none 0 0, .int .i64 0] 30)).heap.size = w.heap.size + 4) := qhZ (by simp)
 have HR6 := qhZ (HR.out.below HB6.out)
 have HE6 := qhZ (HET.out.below HB6.out HET.out.1)
 clear hs hss hE k0 k1 k2 k3 hF hCD hAK
 go_enter Tryz.func28, Tryz.ntmps28
 go_wp2_with fail
 refine (HCALL.out (w.heap.size + 2) _ _ HR6.out HE6.out K2.out).mono ?_
 rintro e w2 ⟨nv2, ps2, rfl, hps2, hO2, hb2⟩
 obtain ⟨oo2, cc2, rfl, -⟩ := aM9 hO2.row
 have HB2 := qhZ (aL9 HB6.out hb2)
 have KZ2 := qhZ (aD9 hb2 KZ.out)
 have HPS := qhZ hps2
 have hsz := HSZ.out
 have HO2 := qhZ (hO2.low (R := w.heap.size + 4) (Nat.le_of_eq hsz.symm))
 have z0 := (aA9 KZ2.out 0).trans rfl
 have z1 := (aA9 KZ2.out 1).trans rfl
 have zf := aE9 KZ2.out
 have hq := bG9 KZ2.out (.slice oo2 ps2.length cc2) (.int .i64 F.room)
 have t0 := (aA9 hq 0).trans rfl
 have t1 := (aA9 hq 1).trans rfl
 have HA9 : Hid (Own _ w.heap.size _ _) := qhZ (((HO2.out.besides (b := w.heap.size + 3) (by omega) 0 (.slice oo2 ps2.length cc2)).besides (b := w.heap.size + 3) (by omega) 1 (.int .i64 F.room)).low (by omega))
 have HB9 := qhZ (aP9 (G := w.heap.size + 3) (x := .slice oo2 ps2.length cc2) (y := .int .i64 F.room) HB2.out (by omega))
 clear hps2 hO2 hb2 hq
 go_wp2
 refine bodyPost_ret (v := .tuple #[.agg #[.slice oo2 ps2.length cc2, .int .i64 F.room], .int .i64 CD, .bool AK]) (by simp [results, Tryz.results28, go_sem, t0, t1]) rfl ?_
 first
   | exact ⟨_, ps2, rfl, HPS.out, HA9.out, HB9.out⟩
   | exact ⟨_, rfl, ps2, HPS.out, HA9.out, HB9.out⟩
set_option maxRecDepth 100000 in
theorem specRemoveDir_any (f : FsD) (v : Value) (u g : Int) (s : ByteArray) (t : Int) (w : World) (hR : FsA w v f) (hs : szF f ≤ 1048576) (hss : s.size ≤ 1048576) (hnf : aV9 f.nodes) :
   Calls Tryz.prog 27 #[v, .agg #[.int .i64 u, .int .i64 g], .string s, .int .i64 t] w fun e w' => ∃ nv ps, e = .returned (.tuple #[.agg #[nv, .int .i64 (makF (askT f u g t) (cutC f u g s.data.toList true) (cutG f u g s.data.toList t) f).room], .int .i64 (makC (askT f u g t) (cutC f u g s.data.toList true)), .bool (askT f u g t)]) ∧ ps.map Prod.fst = (makF (askT f u g t) (cutC f u g s.data.toList true) (cutG f u g s.data.toList t) f).nodes ∧ Own w' w.heap.size nv ps ∧ Below w.heap.size w w' := by
 have HR := qhZ hR
 obtain ⟨nv, rfl, hN⟩ := hR
 obtain ⟨o, c, rfl, hm, hH⟩ := hN
 have HS := qhZ hs
 have HNF := qhZ hnf
 have HB0 : Hid (Below w.heap.size w (((w.alloc (.cells #[.slice o f.nodes.length c, .int .i64 f.room] 30)).alloc (.cells #[.int .i64 u, .int .i64 g] 34)).alloc (.cells #[.slice none 0 0, .int .i64 0] 30))) := qhZ ((((Below.refl _ _).alloc (Nat.le_refl _) _).alloc (by simp) _).alloc (by simp; omega) _)
 have KA0 := qhZ (m3_0 w (.cells #[.slice o f.nodes.length c, .int .i64 f.room] 30) (.cells #[.int .i64 u, .int .i64 g] 34) (.cells #[.slice none 0 0, .int .i64 0] 30))
 have KB0 := qhZ (m3_1 w (.cells #[.slice o f.nodes.length c, .int .i64 f.room] 30) (.cells #[.int .i64 u, .int .i64 g] 34) (.cells #[.slice none 0 0, .int .i64 0] 30))
 have KZ0 := qhZ (m3_2 w (.cells #[.slice o f.nodes.length c, .int .i64 f.room] 30) (.cells #[.int .i64 u, .int .i64 g] 34) (.cells #[.slice none 0 0, .int .i64 0] 30))
 clear hH hm
 obtain ⟨F, hF⟩ : ∃ F, F = (makF (askT f u g t) (cutC f u g s.data.toList true) (cutG f u g s.data.toList t) f) := ⟨_, rfl⟩
 obtain ⟨CD, hCD⟩ : ∃ C, C = makC (askT f u g t) (cutC f u g s.data.toList true) := ⟨_, rfl⟩
 obtain ⟨AK, hAK⟩ : ∃ A, A = (askT f u g t) := ⟨_, rfl⟩
 rw [← hF, ← hCD, ← hAK]
 cases hk : (askT f u g t) with
 | false =>
   have HAK : Hid (AK = false) := qhZ (by rw [hAK, hk])
   have HF : Hid (F = fs0) := qhZ (by rw [hF, hk]; rfl)
   have HCD : Hid (CD = 0) := qhZ (by rw [hCD, hk]; rfl)
   have HK := qhZ hk
   clear hk hF hCD hAK hs hnf
   go_enter Tryz.func27, Tryz.ntmps27
   go_wp2_with fail
   refine (l5Asked_is HK.out (HR.out.below HB0.out) HS.out).mono ?_
   rintro e w1 ⟨rfl, hb1⟩
   have HB1 := qhZ (HB0.out.trans (hb1.mono HB0.out.size))
   have KA1 := qhZ (aD9 hb1 KA0.out)
   have KB1 := qhZ (aD9 hb1 KB0.out)
   have KZ1 := qhZ (aD9 hb1 KZ0.out)
   clear hb1
   have KZ1c0 : w1.cell? ⟨w.heap.size + 2, 0, none⟩ = some (.slice none 0 0) := aA9 KZ1.out 0
   have KZ1c1 : w1.cell? ⟨w.heap.size + 2, 1, none⟩ = some (.int .i64 0) := aA9 KZ1.out 1
   have KZ1f := aE9 KZ1.out
   have hq := bG9 KZ1.out (.slice none 0 0) (.int .i64 0)
   have t0 := (aA9 hq 0).trans rfl
   have t1 := (aA9 hq 1).trans rfl
   go_wp2
   refine bodyPost_ret (v := .tuple #[.agg #[.slice none 0 0, .int .i64 0], .int .i64 0, .bool false]) (by simp [results, Tryz.results27, go_sem, t0, t1]) rfl ?_
   first
     | exact ⟨_, [], by rw [HF.out, HCD.out, HAK.out]; rfl, by rw [HF.out]; rfl, Own.nil _ _, aP9 HB1.out (by omega)⟩
     | exact ⟨_, by rw [HF.out, HCD.out, HAK.out]; rfl, [], by rw [HF.out]; rfl, Own.nil _ _, aP9 HB1.out (by omega)⟩
 | true =>
   have HAK : Hid (AK = true) := qhZ (by rw [hAK, hk])
   have hk4 : bC9 f u g = true := by unfold askT at hk; simp only [Bool.and_eq_true] at hk; exact hk.1
   have HK := qhZ hk
   rw [hk] at hF hCD
   have hF2 : F = if (cutC f u g s.data.toList true) = 0 then (cutG f u g s.data.toList t) else f := by rw [hF]; unfold makF; rw [if_pos rfl]
   have hC2 : CD = (cutC f u g s.data.toList true) := by rw [hCD]; unfold makC; rw [if_pos rfl]
   have HFS : Hid (szF F ≤ 2097152) := qhZ (by
     rw [hF2]
     split
     · rename_i h; exact (cutG_facts hk4 HS.out HNF.out h).1
     · omega)
   have HIN : Hid (∀ W, FsA W (.agg #[.slice o f.nodes.length c, .int .i64 f.room]) f → Calls Tryz.prog 48 #[.agg #[.slice o f.nodes.length c, .int .i64 f.room], .agg #[.int .i64 u, .int .i64 g], .string s, .bool true, .int .i64 t] W fun e w' => ∃ v', e = .returned (.tuple #[v', .int .i64 CD]) ∧ FsA w' v' F ∧ Below W.heap.size W w') := qhZ (fun W h => l5Cut_is f _ u g s true t W CD F hF2 hC2.symm h HS.out hk4 hss HNF.out)
   clear hk hk4 hF hCD hF2 hC2 hAK hs hnf
   go_enter Tryz.func27, Tryz.ntmps27
   go_wp2_with fail
   refine (l5Asked_is HK.out (HR.out.below HB0.out) HS.out).mono ?_
   rintro e w1 ⟨rfl, hb1⟩
   have HB1 := qhZ (HB0.out.trans (hb1.mono HB0.out.size))
   have KA1 := qhZ (aD9 hb1 KA0.out)
   have KB1 := qhZ (aD9 hb1 KB0.out)
   have KZ1 := qhZ (aD9 hb1 KZ0.out)
   clear hb1
   have KA1c0 : w1.cell? ⟨w.heap.size, 0, none⟩ = some (.slice o f.nodes.length c) := aA9 KA1.out 0
   have KA1c1 : w1.cell? ⟨w.heap.size, 1, none⟩ = some (.int .i64 f.room) := aA9 KA1.out 1
   have KB1c0 : w1.cell? ⟨w.heap.size + 1, 0, none⟩ = some (.int .i64 u) := aA9 KB1.out 0
   have KB1c1 : w1.cell? ⟨w.heap.size + 1, 1, none⟩ = some (.int .i64 g) := aA9 KB1.out 1
   go_wp2_with fail
   refine (HIN.out _ (HR.out.below HB1.out)).mono ?_
   rintro e w2 ⟨v2, rfl, hv2, hb2⟩
   have HB2 := qhZ (HB1.out.trans (hb2.mono HB1.out.size))
   have KA2 := qhZ (aD9 hb2 KA1.out)
   have KB2 := qhZ (aD9 hb2 KB1.out)
   have KZ2 := qhZ (aD9 hb2 KZ1.out)
   clear hb2
   clear KA1c0 KA1c1 KB1c0 KB1c1
   have HV2 := qhZ hv2
   obtain ⟨n2, rfl, hN2⟩ := hv2
   obtain ⟨o2, c2, rfl, -, -⟩ := hN2
   have HB3 := qhZ (HB2.out.alloc HB2.out.size (.cells #[.slice o2 F.nodes.length c2, .int .i64 F.room] 30))
   have KZ3 := qhZ ((Below.heap_alloc w2 (.cells #[.slice o2 F.nodes.length c2, .int .i64 F.room] 30) _ (aB9 KZ2.out)).trans KZ2.out)
   have HV3 := qhZ (HV2.out.below ((Below.refl _ w2).alloc (Nat.le_refl _) (.cells #[.slice o2 F.nodes.length c2, .int .i64 F.room] 30)))
   go_wp2_with fail
   refine (l3Own_big F _ _ HV3.out HFS.out).mono ?_
   rintro e w4 ⟨nv4, ps4, rfl, hp4, hO4, hb4⟩
   have HB4 := qhZ (HB3.out.trans (hb4.mono HB3.out.size))
   have KZ4 := qhZ (aD9 hb4 KZ3.out)
   obtain ⟨oo4, cc4, rfl, -⟩ := aM9 hO4.row
   have HP4 := qhZ hp4
   have HO4 := qhZ hO4
   have hw3 : w.heap.size + 2 < (w2.alloc (.cells #[.slice o2 F.nodes.length c2, .int .i64 F.room] 30)).heap.size := aB9 KZ3.out
   clear hp4 hO4 hb4
   have KZ4c0 : w4.cell? ⟨w.heap.size + 2, 0, none⟩ = some (.slice none 0 0) := aA9 KZ4.out 0
   have KZ4c1 : w4.cell? ⟨w.heap.size + 2, 1, none⟩ = some (.int .i64 0) := aA9 KZ4.out 1
   have KZ4f := aE9 KZ4.out
   go_wp2
   have hq := bG9 KZ4.out (.slice oo4 ps4.length cc4) (.int .i64 F.room)
   have t0 := (aA9 hq 0).trans rfl
   have t1 := (aA9 hq 1).trans rfl
   refine bodyPost_ret (v := .tuple #[.agg #[(.slice oo4 ps4.length cc4), .int .i64 F.room], .int .i64 CD, .bool true]) (by simp [results, Tryz.results27, go_sem, t0, t1]) rfl ?_
   have hA9 := ((HO4.out.besides (b := w.heap.size + 2) hw3 0 (.slice oo4 ps4.length cc4)).besides (b := w.heap.size + 2) hw3 1 (.int .i64 F.room)).low (R := w.heap.size) (by omega)
   have hB9 := aP9 (G := w.heap.size + 2) (x := (.slice oo4 ps4.length cc4)) (y := .int .i64 F.room) HB4.out (by omega)
   first
     | exact ⟨_, ps4, by rw [HAK.out], HP4.out, hA9, hB9⟩
     | exact ⟨_, by rw [HAK.out], ps4, HP4.out, hA9, hB9⟩
end Go.Proofs.YtknhacblialboaaGreatDoor
namespace Go.Proofs.YtknhacblialboaaGreatDoor.fnExactRemoveDir
open Go.ChangeShapes Go.WideShapes Go.ChangeAt Go.RowKit Go.Joins
set_option linter.unusedVariables false
set_option linter.unusedSimpArgs false
set_option maxHeartbeats 16000000
set_option maxRecDepth 100000 in
theorem walkG (f : FsD) (v : Value) (u g : Int) (s : ByteArray) (hls : s.size ≤ maxLen) (t : Int) (w : World) (F : FsD) (cd : Int) (ak : Bool) (hR : FsA w v f) (hET : ErrT w)
   (hG : szF f ≤ 1048576 → s.size ≤ 1048576 → aV9 F.nodes ∧ cntM (F.nodes.map fun n => n.list.length) ≤ 80000000 ∧
     (∀ v9 w9, FsA w9 v9 f → Calls Tryz.prog 27 #[v9, .agg #[.int .i64 u, .int .i64 g], .string s, .int .i64 t] w9 fun e w' => ∃ nv ps, e = .returned (.tuple #[.agg #[nv, .int .i64 F.room], .int .i64 cd, .bool ak]) ∧ ps.map Prod.fst = F.nodes ∧ Own w' w9.heap.size nv ps ∧ Below w9.heap.size w9 w') ∧
     (∀ v9 w9, FsA w9 v9 f → ErrT w9 → Calls Tryz.prog 28 #[v9, .agg #[.int .i64 u, .int .i64 g], .string s, .int .i64 t] w9 fun e w' => ∃ nv ps, e = .returned (.tuple #[.agg #[nv, .int .i64 F.room], .int .i64 cd, .bool ak]) ∧ ps.map Prod.fst = F.nodes ∧ Own w' w9.heap.size nv ps ∧ Below w9.heap.size w9 w')) :
   Calls Tryz.prog 8 #[v, .agg #[.int .i64 u, .int .i64 g], .string s, .int .i64 t] w fun e w' => e = .returned (.bool true) ∧ Below w.heap.size w w' := by
 have HR := qhZ hR
 have HET := qhZ hET
 have HG := qhZ hG
 obtain ⟨nv, rfl, hN⟩ := hR
 have HFIT := qhZ hN.fit
 obtain ⟨o, c, rfl, -, -⟩ := hN
 have HB0 : Hid (Below w.heap.size w ((w.alloc (.cells #[.slice o f.nodes.length c, .int .i64 f.room] 24)).alloc (.cells #[.int .i64 u, .int .i64 g] 26))) := qhZ (((Below.refl _ _).alloc (Nat.le_refl _) _).alloc (by simp) _)
 have KA0 := qhZ (al2_0 w (.cells #[.slice o f.nodes.length c, .int .i64 f.room] 24) (.cells #[.int .i64 u, .int .i64 g] 26))
 have KB0 := qhZ (al2_1 w (.cells #[.slice o f.nodes.length c, .int .i64 f.room] 24) (.cells #[.int .i64 u, .int .i64 g] 26))
 clear hET hG
 unfold maxLen at hls
 by_cases ps : s.size ≤ 1048576
 case neg =>
   have qs : (1048576 : Int) < (s.size : Int) := by omega
   go_enter Tryz.func8, Tryz.ntmps8
   go_wp2
   go_ret
   exact ⟨rfl, HB0.out⟩
 have qs : ¬ ((1048576 : Int) < (s.size : Int)) := by omega
 by_cases hs : ((szF f : Nat) : Int) ≤ 1048576
 case neg =>
   have HQ := qhZ (less_no hs)
   go_enter Tryz.func8, Tryz.ntmps8
   go_wp2_with fail
   refine (szFs_any f _ _ 1048576 (HR.out.below HB0.out) (by omega) (by omega)).mono ?_
   rintro e w1 ⟨rfl, hb1⟩
   rw [HQ.out]
   have HB1 := qhZ (HB0.out.trans (hb1.mono HB0.out.size))
   clear hb1
   go_wp2
   go_ret
   exact ⟨rfl, HB1.out⟩
 have HQ := qhZ (less_yes hs)
 have h4 : 0 ≤ (1048576 : Int) - ((szF f : Nat) : Int) := by omega
 have hsz : szF f ≤ 1048576 := by omega
 have HSZ := qhZ hsz
 have HG2 := qhZ (HG.out hsz ps)
 have HFT := qhZ HG2.out.1
 have HCN := qhZ HG2.out.2.1
 have HSP := qhZ HG2.out.2.2.1
 have HIM := qhZ HG2.out.2.2.2
 clear hsz HG HG2
 go_enter Tryz.func8, Tryz.ntmps8
 go_wp2_with fail
 refine (szFs_any f _ _ 1048576 (HR.out.below HB0.out) (by omega) (by omega)).mono ?_
 rintro e w1 ⟨rfl, hb1⟩
 rw [HQ.out]
 have HB1 := qhZ (aL9 HB0.out hb1)
 have P1A := qhZ (aD9 hb1 KA0.out)
 have P1C := qhZ (aD9 hb1 KB0.out)
 have HR1 := qhZ (HR.out.below HB1.out)
 have HE1 := qhZ (HET.out.below HB1.out HET.out.1)
 clear hb1
 have HK0 : Hid (Below w1.heap.size w1 w1) := qhZ (Below.refl _ _)
 have KS : Hid (∀ W, Below w1.heap.size w1 W → (fun w' => w'.cell? ⟨w.heap.size, 0, none⟩ = some (.slice o f.nodes.length c) ∧ w'.cell? ⟨w.heap.size, 1, none⟩ = some (.int .i64 f.room) ∧ w'.cell? ⟨w.heap.size + 1, 0, none⟩ = some (.int .i64 u) ∧ w'.cell? ⟨w.heap.size + 1, 1, none⟩ = some (.int .i64 g)) W) := qhZ (fun W h => ⟨(h.cell (p := ⟨w.heap.size, 0, none⟩) (aB9 P1A.out)).trans (aA9 P1A.out 0), (h.cell (p := ⟨w.heap.size, 1, none⟩) (aB9 P1A.out)).trans (aA9 P1A.out 1), (h.cell (p := ⟨w.heap.size + 1, 0, none⟩) (aB9 P1C.out)).trans (aA9 P1C.out 0), (h.cell (p := ⟨w.heap.size + 1, 1, none⟩) (aB9 P1C.out)).trans (aA9 P1C.out 1)⟩)
 go_upto_region 7 with fail
 go_cut [10, 11, 12] from 31 to 41 (fun t10 t11 t12 wy => ∃ (G : Nat) (nvz : Value) (psz : List (Nod × Value)), t10 = .pointer (some ⟨G, 0, none⟩) ∧ t11 = .int .i64 cd ∧ t12 = .bool ak ∧ psz.map Prod.fst = F.nodes ∧ Ans wy w1.heap.size G nvz psz F.room ∧ Below w1.heap.size w1 wy)
 case first =>
   go_region_held3 (fun w' => w'.cell? ⟨w.heap.size, 0, none⟩ = some (.slice o f.nodes.length c) ∧ w'.cell? ⟨w.heap.size, 1, none⟩ = some (.int .i64 f.room) ∧ w'.cell? ⟨w.heap.size + 1, 0, none⟩ = some (.int .i64 u) ∧ w'.cell? ⟨w.heap.size + 1, 1, none⟩ = some (.int .i64 g)) (first | exact KS.out _ (by (first | (with_reducible exact HK0.out) | (with_reducible exact aH9 HK0.out) | (with_reducible exact aF9 HK0.out) | (with_reducible exact aJ9 HK0.out) | (with_reducible exact HKa.out) | (with_reducible exact aH9 HKa.out) | (with_reducible exact aF9 HKa.out) | (with_reducible exact aJ9 HKa.out) | (with_reducible exact HKb.out) | (with_reducible exact aH9 HKb.out) | (with_reducible exact aF9 HKb.out) | (with_reducible exact aJ9 HKb.out) | (with_reducible exact HKc.out) | (with_reducible exact aH9 HKc.out) | (with_reducible exact aF9 HKc.out) | (with_reducible exact aJ9 HKc.out))) | exact KS.out _ (aP9 HKc.out HZc.out.ge))
     (first
       | (go_at_call 13; (with_reducible refine (toFs_any f _ _ (HR1.out.below (by (first | (with_reducible exact HK0.out) | (with_reducible exact aH9 HK0.out) | (with_reducible exact aF9 HK0.out) | (with_reducible exact aJ9 HK0.out)))) HSZ.out).mono ?_); rintro e wa ⟨ua, rfl, hOa, hba⟩; have HQa := qhZ (aZ9 (w := w1) (by (first | (with_reducible exact HK0.out) | (with_reducible exact aH9 HK0.out) | (with_reducible exact aF9 HK0.out) | (with_reducible exact aJ9 HK0.out))) hba); have HJa := qhZ HQa.out.1; have HKa := qhZ HQa.out.2; have HAa := qhZ (hOa.read HFIT.out); obtain ⟨nva, rfl, hNa⟩ := hOa; obtain ⟨Ga, ca, psa, rfl, -⟩ := hNa; (try (with_reducible have HZa := qhZ (aT9 (w := w1) HK0.out hba))); (try (with_reducible have HZa := qhZ (aQ9 (w := w1) HK0.out hba))); (try (have zz0 := (aA9 HZa.out.blk 0).trans rfl)); (try (have zz1 := (aA9 HZa.out.blk 1).trans rfl)); (try (have zzf := aE9 HZa.out.blk)); clear hba HQa)
       | (go_at_call 14; (with_reducible refine (toCred_any u g _).mono ?_); rintro e wb ⟨rfl, hbb⟩; have HQb := qhZ (aZ9 (w := w1) (by (first | (with_reducible exact HK0.out) | (with_reducible exact aH9 HK0.out) | (with_reducible exact aF9 HK0.out) | (with_reducible exact aJ9 HK0.out) | (with_reducible exact HKa.out) | (with_reducible exact aH9 HKa.out) | (with_reducible exact aF9 HKa.out) | (with_reducible exact aJ9 HKa.out))) hbb); have HJb := qhZ HQb.out.1; have HKb := qhZ HQb.out.2; have HAb := qhZ (HAa.out.below (by first | (with_reducible exact hbb) | (with_reducible exact aL9 (aH9 (Below.refl _ _)) hbb) | (with_reducible exact aL9 (aF9 (Below.refl _ _)) hbb))); (try (with_reducible have HZb := qhZ (aT9 (w := w1) HK0.out hbb))); (try (with_reducible have HZb := qhZ (aT9 (w := w1) HKa.out hbb))); (try (with_reducible have HZb := qhZ (aQ9 (w := w1) HK0.out hbb))); (try (with_reducible have HZb := qhZ (aQ9 (w := w1) HKa.out hbb))); (try (with_reducible have HZb := qhZ (box_old HZa.out hbb))); (try (have zz0 := (aA9 HZb.out.blk 0).trans rfl)); (try (have zz1 := (aA9 HZb.out.blk 1).trans rfl)); (try (have zzf := aE9 HZb.out.blk)); clear hbb HQb)
       | (go_at_call 27; (with_reducible refine (HSP.out _ _ (by first | (with_reducible exact HAb.out) | exact HAb.out.below (aH9 (Below.refl _ _)) | exact HAb.out.below (aF9 (Below.refl _ _)))).mono ?_); rintro e wc ⟨nvc, psc, rfl, hpc, hOc, hbc⟩; have HQc := qhZ (aZ9 (w := w1) (by (first | (with_reducible exact HK0.out) | (with_reducible exact aH9 HK0.out) | (with_reducible exact aF9 HK0.out) | (with_reducible exact aJ9 HK0.out) | (with_reducible exact HKa.out) | (with_reducible exact aH9 HKa.out) | (with_reducible exact aF9 HKa.out) | (with_reducible exact aJ9 HKa.out) | (with_reducible exact HKb.out) | (with_reducible exact aH9 HKb.out) | (with_reducible exact aF9 HKb.out) | (with_reducible exact aJ9 HKb.out))) hbc); have HJc := qhZ HQc.out.1; have HKc := qhZ HQc.out.2; have HPc := qhZ hpc; have HOc := qhZ hOc; have HBWc := qhZ hbc; obtain ⟨ooc, ccc, rfl, -⟩ := aM9 hOc.row; clear hpc hOc; (try (with_reducible have HZc := qhZ (aT9 (w := w1) HK0.out hbc))); (try (with_reducible have HZc := qhZ (aT9 (w := w1) HKa.out hbc))); (try (with_reducible have HZc := qhZ (aT9 (w := w1) HKb.out hbc))); (try (with_reducible have HZc := qhZ (aQ9 (w := w1) HK0.out hbc))); (try (with_reducible have HZc := qhZ (aQ9 (w := w1) HKa.out hbc))); (try (with_reducible have HZc := qhZ (aQ9 (w := w1) HKb.out hbc))); (try (with_reducible have HZc := qhZ (box_old HZa.out hbc))); (try (with_reducible have HZc := qhZ (box_old HZb.out hbc))); (try (have zz0 := (aA9 HZc.out.blk 0).trans rfl)); (try (have zz1 := (aA9 HZc.out.blk 1).trans rfl)); (try (have zzf := aE9 HZc.out.blk)); clear hbc HQc))
   all_goals
     go_wp2_with fail
     go_meet
     first
       | (have hq := HZc; exact ⟨_, _, _, rfl, rfl, rfl, HPc.out, ans_set HZc.out HOc.out HJc.out, aP9 HKc.out HZc.out.ge⟩)
       | exact ⟨_, _, _, rfl, rfl, rfl, HPc.out, ans_new HOc.out HJc.out HBWc.out, aH9 HKc.out⟩
 case rest =>
   revert wc
   intro w7 hcut
   obtain ⟨G1, nv1, ps1, rfl, rfl, rfl, hp1, hA1, hk1⟩ := hcut
   have HP1 := qhZ hp1
   have HN1 := qhZ hA1
   have P7A := qhZ (aD9 hk1 P1A.out)
   have P7C := qhZ (aD9 hk1 P1C.out)
   have HB7 := qhZ (aL9 HB1.out hk1)
   have HR7 := qhZ (HR1.out.below hk1)
   have HE7 := qhZ (HE1.out.below hk1 HE1.out.1)
   have xa0 : w7.cell? ⟨w.heap.size, 0, none⟩ = some (.slice o f.nodes.length c) := aA9 P7A.out 0
   have xa1 : w7.cell? ⟨w.heap.size, 1, none⟩ = some (.int .i64 f.room) := aA9 P7A.out 1
   obtain ⟨on1, cn1, rfl⟩ : ∃ o9 c9, nv1 = .slice o9 ps1.length c9 := by
     obtain ⟨R9, E9, -, hO9, -⟩ := HN1.out.own
     obtain ⟨o9, c9, e9, -⟩ := aM9 hO9.row
     exact ⟨o9, c9, e9⟩
   clear hp1 hA1 hk1 HK0 KS
   go_wp2_with fail
   refine (toFs_any f _ _ HR7.out HSZ.out).mono ?_
   rintro e w4 ⟨u4, rfl, hO4, hb4⟩
   have HOX := qhZ hO4
   have HA4 := qhZ (hO4.read HFIT.out)
   obtain ⟨nv4, rfl, hN4⟩ := hO4
   obtain ⟨G4, c4, ps4, rfl, -⟩ := hN4
   have hbx : Below w4.heap.size w4 (w4.alloc (.cells #[.slice (some ⟨G4, 0, none⟩) f.nodes.length c4, .int .i64 f.room] 30)) := (Below.refl _ _).alloc (Nat.le_refl _) _
   have hb8 : Below w7.heap.size w7 (w4.alloc (.cells #[.slice (some ⟨G4, 0, none⟩) f.nodes.length c4, .int .i64 f.room] 30)) := aL9 hb4 hbx
   have PxA := qhZ (aD9 hb8 P7A.out)
   have PxC := qhZ (aD9 hb8 P7C.out)
   have PxX := qhZ (heap_alloc_new w4 (.cells #[.slice (some ⟨G4, 0, none⟩) f.nodes.length c4, .int .i64 f.room] 30))
   have HB4 := qhZ (aL9 HB7.out hb4)
   have HBx := qhZ (aL9 HB7.out hb8)
   have HAx := qhZ (HA4.out.below hbx)
   have HRx := qhZ (HR7.out.below hb8)
   have HEx := qhZ (HE7.out.below hb8 HE7.out.1)
   have HNx := qhZ (HN1.out.below hb8)
   have H47 := qhZ hb4.size
   have H4x := qhZ hbx
   have H7x := qhZ hb8
   obtain ⟨wx, hwx⟩ : ∃ wx, w4.alloc (.cells #[.slice (some ⟨G4, 0, none⟩) f.nodes.length c4, .int .i64 f.room] 30) = wx := ⟨_, rfl⟩
   have HWX := qhZ hwx
   rw [hwx] at PxA PxC PxX HBx HAx HRx HEx HNx H4x H7x
   clear hb4 hbx hb8 hwx xa0 xa1
   have xx0 : wx.cell? ⟨w4.heap.size, 0, none⟩ = some (.slice (some ⟨G4, 0, none⟩) f.nodes.length c4) := aA9 PxX.out 0
   have xx1 : wx.cell? ⟨w4.heap.size, 1, none⟩ = some (.int .i64 f.room) := aA9 PxX.out 1
   have xc0 : wx.cell? ⟨w.heap.size + 1, 0, none⟩ = some (.int .i64 u) := aA9 PxC.out 0
   have xc1 : wx.cell? ⟨w.heap.size + 1, 1, none⟩ = some (.int .i64 g) := aA9 PxC.out 1
   go_wp2
   rw [HWX.out]
   have HLEx := qhZ HEx.out.1
   have HK0 : Hid (Below wx.heap.size wx wx) := qhZ (Below.refl _ _)
   have KS : Hid (∀ W, Below wx.heap.size wx W → (fun w' => w'.cell? ⟨w.heap.size, 0, none⟩ = some (.slice o f.nodes.length c) ∧ w'.cell? ⟨w.heap.size, 1, none⟩ = some (.int .i64 f.room) ∧ w'.cell? ⟨w.heap.size + 1, 0, none⟩ = some (.int .i64 u) ∧ w'.cell? ⟨w.heap.size + 1, 1, none⟩ = some (.int .i64 g) ∧ w'.cell? ⟨w4.heap.size, 0, none⟩ = some (.slice (some ⟨G4, 0, none⟩) f.nodes.length c4) ∧ w'.cell? ⟨w4.heap.size, 1, none⟩ = some (.int .i64 f.room)) W) := qhZ (fun W h => ⟨(h.cell (p := ⟨w.heap.size, 0, none⟩) (aB9 PxA.out)).trans (aA9 PxA.out 0), (h.cell (p := ⟨w.heap.size, 1, none⟩) (aB9 PxA.out)).trans (aA9 PxA.out 1), (h.cell (p := ⟨w.heap.size + 1, 0, none⟩) (aB9 PxC.out)).trans (aA9 PxC.out 0), (h.cell (p := ⟨w.heap.size + 1, 1, none⟩) (aB9 PxC.out)).trans (aA9 PxC.out 1), (h.cell (p := ⟨w4.heap.size, 0, none⟩) (aB9 PxX.out)).trans (aA9 PxX.out 0), (h.cell (p := ⟨w4.heap.size, 1, none⟩) (aB9 PxX.out)).trans (aA9 PxX.out 1)⟩)
   go_upto_region 9 with fail
   go_cut [14, 15, 16] from 44 to 53 (fun t14 t15 t16 wy => ∃ (G : Nat) (nvz : Value) (psz : List (Nod × Value)), t14 = .pointer (some ⟨G, 0, none⟩) ∧ t15 = .int .i64 cd ∧ t16 = .bool ak ∧ psz.map Prod.fst = F.nodes ∧ Ans wy wx.heap.size G nvz psz F.room ∧ Below wx.heap.size wx wy)
   case first =>
     go_region_held3 (fun w' => w'.cell? ⟨w.heap.size, 0, none⟩ = some (.slice o f.nodes.length c) ∧ w'.cell? ⟨w.heap.size, 1, none⟩ = some (.int .i64 f.room) ∧ w'.cell? ⟨w.heap.size + 1, 0, none⟩ = some (.int .i64 u) ∧ w'.cell? ⟨w.heap.size + 1, 1, none⟩ = some (.int .i64 g) ∧ w'.cell? ⟨w4.heap.size, 0, none⟩ = some (.slice (some ⟨G4, 0, none⟩) f.nodes.length c4) ∧ w'.cell? ⟨w4.heap.size, 1, none⟩ = some (.int .i64 f.room)) (first | exact KS.out _ (by (first | (with_reducible exact HK0.out) | (with_reducible exact aH9 HK0.out) | (with_reducible exact aF9 HK0.out) | (with_reducible exact aJ9 HK0.out) | (with_reducible exact HKb.out) | (with_reducible exact aH9 HKb.out) | (with_reducible exact aF9 HKb.out) | (with_reducible exact aJ9 HKb.out) | (with_reducible exact HKc.out) | (with_reducible exact aH9 HKc.out) | (with_reducible exact aF9 HKc.out) | (with_reducible exact aJ9 HKc.out))) | exact KS.out _ (aP9 HKc.out HZc.out.ge))
       (first
         | (go_at_call 14; (with_reducible refine (toCred_any u g _).mono ?_); rintro e wb ⟨rfl, hbb⟩; have HQb := qhZ (aZ9 (w := wx) (by (first | (with_reducible exact HK0.out) | (with_reducible exact aH9 HK0.out) | (with_reducible exact aF9 HK0.out) | (with_reducible exact aJ9 HK0.out))) hbb); have HJb := qhZ HQb.out.1; have HKb := qhZ HQb.out.2; (try (with_reducible have HZb := qhZ (aT9 (w := wx) HK0.out hbb))); (try (with_reducible have HZb := qhZ (aQ9 (w := wx) HK0.out hbb))); (try (have zz0 := (aA9 HZb.out.blk 0).trans rfl)); (try (have zz1 := (aA9 HZb.out.blk 1).trans rfl)); (try (have zzf := aE9 HZb.out.blk)); clear hbb HQb)
         | (go_at_call 28; (with_reducible refine (HIM.out _ _ (HAx.out.below (by (first | (with_reducible exact HK0.out) | (with_reducible exact aH9 HK0.out) | (with_reducible exact aF9 HK0.out) | (with_reducible exact aJ9 HK0.out) | (with_reducible exact HKb.out) | (with_reducible exact aH9 HKb.out) | (with_reducible exact aF9 HKb.out) | (with_reducible exact aJ9 HKb.out)))) (HEx.out.below (by (first | (with_reducible exact HK0.out) | (with_reducible exact aH9 HK0.out) | (with_reducible exact aF9 HK0.out) | (with_reducible exact aJ9 HK0.out) | (with_reducible exact HKb.out) | (with_reducible exact aH9 HKb.out) | (with_reducible exact aF9 HKb.out) | (with_reducible exact aJ9 HKb.out))) HLEx.out)).mono ?_); rintro e wc ⟨nvc, psc, rfl, hpc, hOc, hbc⟩; have HQc := qhZ (aZ9 (w := wx) (by (first | (with_reducible exact HK0.out) | (with_reducible exact aH9 HK0.out) | (with_reducible exact aF9 HK0.out) | (with_reducible exact aJ9 HK0.out) | (with_reducible exact HKb.out) | (with_reducible exact aH9 HKb.out) | (with_reducible exact aF9 HKb.out) | (with_reducible exact aJ9 HKb.out))) hbc); have HJc := qhZ HQc.out.1; have HKc := qhZ HQc.out.2; have HPc := qhZ hpc; have HOc := qhZ hOc; have HBWc := qhZ hbc; obtain ⟨ooc, ccc, rfl, -⟩ := aM9 hOc.row; clear hpc hOc; (try (with_reducible have HZc := qhZ (aT9 (w := wx) HK0.out hbc))); (try (with_reducible have HZc := qhZ (aT9 (w := wx) HKb.out hbc))); (try (with_reducible have HZc := qhZ (aQ9 (w := wx) HK0.out hbc))); (try (with_reducible have HZc := qhZ (aQ9 (w := wx) HKb.out hbc))); (try (with_reducible have HZc := qhZ (box_old HZb.out hbc))); (try (have zz0 := (aA9 HZc.out.blk 0).trans rfl)); (try (have zz1 := (aA9 HZc.out.blk 1).trans rfl)); (try (have zzf := aE9 HZc.out.blk)); clear hbc HQc))
     all_goals
       go_wp2_with fail
       go_meet
       first
         | (have hq := HZc; exact ⟨_, _, _, rfl, rfl, rfl, HPc.out, ans_set HZc.out HOc.out HJc.out, aP9 HKc.out HZc.out.ge⟩)
         | exact ⟨_, _, _, rfl, rfl, rfl, HPc.out, ans_new HOc.out HJc.out HBWc.out, aH9 HKc.out⟩
   case rest =>
     revert wc
     intro w9 hcut
     obtain ⟨G2, nv2, ps2, rfl, rfl, rfl, hp2, hA2, hk2⟩ := hcut
     have HP2 := qhZ hp2
     have HM2 := qhZ hA2
     have P9A := qhZ (aD9 hk2 PxA.out)
     have P9C := qhZ (aD9 hk2 PxC.out)
     have P9X := qhZ (aD9 hk2 PxX.out)
     have HN9 := qhZ (HNx.out.below hk2)
     have HB9 := qhZ (aL9 HBx.out hk2)
     have HR9 := qhZ (HRx.out.below hk2)
     have HE9 := qhZ (HEx.out.below hk2 HEx.out.1)
     have HA9 := qhZ (HAx.out.below hk2)
     have H49 := qhZ (aL9 H4x.out hk2)
     have H79 := qhZ (aL9 H7x.out hk2)
     have H9x := qhZ hk2
     obtain ⟨on2, cn2, rfl⟩ : ∃ o9 c9, nv2 = .slice o9 ps2.length c9 := by
       obtain ⟨R9, E9, -, hO9, -⟩ := HM2.out.own
       obtain ⟨o9, c9, e9, -⟩ := aM9 hO9.row
       exact ⟨o9, c9, e9⟩
     have xa0 : w9.cell? ⟨G1, 0, none⟩ = some (.slice on1 ps1.length cn1) := aA9 HN9.out.box 0
     have xa1 : w9.cell? ⟨G1, 1, none⟩ = some (.int .i64 F.room) := aA9 HN9.out.box 1
     have xb0 : w9.cell? ⟨G2, 0, none⟩ = some (.slice on2 ps2.length cn2) := aA9 HM2.out.box 0
     have xb1 : w9.cell? ⟨G2, 1, none⟩ = some (.int .i64 F.room) := aA9 HM2.out.box 1
     clear hp2 hA2 hk2 HK0 KS xx0 xx1 xc0 xc1
     go_wp2_with fail
     refine (eqFs_same F _ _ _ (HM2.out.read HP2.out HFT.out) (HN9.out.read HP1.out HFT.out)).mono ?_
     rintro e w10 ⟨rfl, hb10⟩
     have PtA := qhZ (aD9 hb10 P9A.out)
     have PtC := qhZ (aD9 hb10 P9C.out)
     have PtX := qhZ (aD9 hb10 P9X.out)
     have HNt := qhZ (HN9.out.below hb10)
     have HMt := qhZ (HM2.out.below hb10)
     have HBt := qhZ (aL9 HB9.out hb10)
     have HRt := qhZ (HR9.out.below hb10)
     have HEt := qhZ (HE9.out.below hb10 HE9.out.1)
     have HAt := qhZ (HA9.out.below hb10)
     have H4t := qhZ (aL9 H49.out hb10)
     have H7t := qhZ (aL9 H79.out hb10)
     have H9t := qhZ hb10.size
     have HK0 : Hid (Below w10.heap.size w10 w10) := qhZ (Below.refl _ _)
     have KS : Hid (∀ W, Below w10.heap.size w10 W → (fun w' => w'.cell? ⟨w.heap.size, 0, none⟩ = some (.slice o f.nodes.length c) ∧ w'.cell? ⟨w.heap.size, 1, none⟩ = some (.int .i64 f.room) ∧ w'.cell? ⟨w.heap.size + 1, 0, none⟩ = some (.int .i64 u) ∧ w'.cell? ⟨w.heap.size + 1, 1, none⟩ = some (.int .i64 g) ∧ w'.cell? ⟨w4.heap.size, 0, none⟩ = some (.slice (some ⟨G4, 0, none⟩) f.nodes.length c4) ∧ w'.cell? ⟨w4.heap.size, 1, none⟩ = some (.int .i64 f.room)) W) := qhZ (fun W h => ⟨(h.cell (p := ⟨w.heap.size, 0, none⟩) (aB9 PtA.out)).trans (aA9 PtA.out 0), (h.cell (p := ⟨w.heap.size, 1, none⟩) (aB9 PtA.out)).trans (aA9 PtA.out 1), (h.cell (p := ⟨w.heap.size + 1, 0, none⟩) (aB9 PtC.out)).trans (aA9 PtC.out 0), (h.cell (p := ⟨w.heap.size + 1, 1, none⟩) (aB9 PtC.out)).trans (aA9 PtC.out 1), (h.cell (p := ⟨w4.heap.size, 0, none⟩) (aB9 PtX.out)).trans (aA9 PtX.out 0), (h.cell (p := ⟨w4.heap.size, 1, none⟩) (aB9 PtX.out)).trans (aA9 PtX.out 1)⟩)
     clear hb10 xa0 xa1 xb0 xb1
     go_wp2
     go_region_held3 (fun w' => w'.cell? ⟨w.heap.size, 0, none⟩ = some (.slice o f.nodes.length c) ∧ w'.cell? ⟨w.heap.size, 1, none⟩ = some (.int .i64 f.room) ∧ w'.cell? ⟨w.heap.size + 1, 0, none⟩ = some (.int .i64 u) ∧ w'.cell? ⟨w.heap.size + 1, 1, none⟩ = some (.int .i64 g) ∧ w'.cell? ⟨w4.heap.size, 0, none⟩ = some (.slice (some ⟨G4, 0, none⟩) f.nodes.length c4) ∧ w'.cell? ⟨w4.heap.size, 1, none⟩ = some (.int .i64 f.room)) (first | exact KS.out _ (by (first | (with_reducible exact HK0.out) | (with_reducible exact aH9 HK0.out) | (with_reducible exact aF9 HK0.out) | (with_reducible exact aJ9 HK0.out) | (with_reducible exact HKi.out) | (with_reducible exact aH9 HKi.out) | (with_reducible exact aF9 HKi.out) | (with_reducible exact aJ9 HKi.out) | (with_reducible exact HKj.out) | (with_reducible exact aH9 HKj.out) | (with_reducible exact aF9 HKj.out) | (with_reducible exact aJ9 HKj.out))))
       (first
         | (go_at_call 13; (with_reducible refine (toFs_any f _ _ (HRt.out.below (by (first | (with_reducible exact HK0.out) | (with_reducible exact aH9 HK0.out) | (with_reducible exact aF9 HK0.out) | (with_reducible exact aJ9 HK0.out) | (with_reducible exact HKi.out) | (with_reducible exact aH9 HKi.out) | (with_reducible exact aF9 HKi.out) | (with_reducible exact aJ9 HKi.out) | (with_reducible exact HKj.out) | (with_reducible exact aH9 HKj.out) | (with_reducible exact aF9 HKj.out) | (with_reducible exact aJ9 HKj.out)))) HSZ.out).mono ?_); rintro e wi ⟨ui, rfl, hOi, hbi⟩; have HKi := qhZ (aZ9 (w := w10) (by (first | (with_reducible exact HK0.out) | (with_reducible exact aH9 HK0.out) | (with_reducible exact aF9 HK0.out) | (with_reducible exact aJ9 HK0.out) | (with_reducible exact HKi.out) | (with_reducible exact aH9 HKi.out) | (with_reducible exact aF9 HKi.out) | (with_reducible exact aJ9 HKi.out) | (with_reducible exact HKj.out) | (with_reducible exact aH9 HKj.out) | (with_reducible exact aF9 HKj.out) | (with_reducible exact aJ9 HKj.out))) hbi).2; have HDi := qhZ (hOi.read HFIT.out); clear hOi hbi)
         | (go_at_call 16; (with_reducible refine (eqFs_same f _ _ _ (HAt.out.below HKi.out) HDi.out).mono ?_); rintro e wj ⟨rfl, hbj⟩; have HKj := qhZ (aL9 HKi.out hbj); clear hbj))
     have PjA := qhZ (aD9 HKj.out PtA.out)
     have PjC := qhZ (aD9 HKj.out PtC.out)
     have PjX := qhZ (aD9 HKj.out PtX.out)
     have HNj := qhZ (HNt.out.below HKj.out)
     have HMj := qhZ (HMt.out.below HKj.out)
     have HBj := qhZ (aL9 HBt.out HKj.out)
     have HEj := qhZ (HEt.out.below HKj.out HEt.out.1)
     have H4j := qhZ (aL9 H4t.out HKj.out)
     have H7j := qhZ (aL9 H7t.out HKj.out)
     have xx0 : wj.cell? ⟨w4.heap.size, 0, none⟩ = some (.slice (some ⟨G4, 0, none⟩) f.nodes.length c4) := aA9 PjX.out 0
     have xx1 : wj.cell? ⟨w4.heap.size, 1, none⟩ = some (.int .i64 f.room) := aA9 PjX.out 1
     clear HK0 KS HKi
     go_wp2_with fail
     refine (markFs_own f _ w7.heap.size w4 _ HOX.out H4j.out H47.out HSZ.out).mono ?_
     rintro e wm ⟨km, km0, km1, rfl, hbm, hum⟩
     have H7m : Hid (Below w7.heap.size w7 wm) := qhZ (H7j.out.trans hbm)
     have PmA := qhZ (aD9 H7m.out P7A.out)
     have PmC := qhZ (aD9 H7m.out P7C.out)
     have HNm := qhZ (HN1.out.below H7m.out)
     have HMm := qhZ (HMj.out.up hbm.size (fun i h1 h2 => hum i (Nat.le_trans H4x.out.size h1) h2))
     have HBm := qhZ (aL9 HB7.out H7m.out)
     have HEm := qhZ (HE7.out.below H7m.out HE7.out.1)
     have hkm : ¬ (km < 0) := by omega
     have xa0 : wm.cell? ⟨G1, 0, none⟩ = some (.slice on1 ps1.length cn1) := aA9 HNm.out.box 0
     have xa1 : wm.cell? ⟨G1, 1, none⟩ = some (.int .i64 F.room) := aA9 HNm.out.box 1
     have xb0 : wm.cell? ⟨G2, 0, none⟩ = some (.slice on2 ps2.length cn2) := aA9 HMm.out.box 0
     have xb1 : wm.cell? ⟨G2, 1, none⟩ = some (.int .i64 F.room) := aA9 HMm.out.box 1
     have HMS : Hid (w9.heap.size ≤ wm.heap.size) := qhZ (Nat.le_trans (Nat.le_trans H9t.out HKj.out.size) hbm.size)
     clear hbm hum xx0 xx1
     go_wp2_with fail
     refine (eqFs_same F _ _ _ (HMm.out.read HP2.out HFT.out) (HNm.out.read HP1.out HFT.out)).mono ?_
     rintro e wn ⟨rfl, hbn⟩
     have PnA := qhZ (aD9 hbn PmA.out)
     have PnC := qhZ (aD9 hbn PmC.out)
     have HNn := qhZ (HNm.out.below hbn)
     have HMn := qhZ (HMm.out.below hbn)
     have HBn := qhZ (aL9 HBm.out hbn)
     have HNB := qhZ hbn
     have HEn := qhZ (HEm.out.below hbn HEm.out.1)
     have Hnx : Hid (wx.heap.size ≤ wn.heap.size) := qhZ (Nat.le_trans (Nat.le_trans (H9x.out).size HMS.out) hbn.size)
     have yb0 : wn.cell? ⟨G2, 0, none⟩ = some (.slice on2 ps2.length cn2) := aA9 HMn.out.box 0
     have yb1 : wn.cell? ⟨G2, 1, none⟩ = some (.int .i64 F.room) := aA9 HMn.out.box 1
     clear hbn xa0 xa1 xb0 xb1
     go_wp2_with fail
     refine (markFs_ans HMn.out (by have h := HCN.out; rw [← HP2.out, List.map_map] at h; exact h)).mono ?_
     rintro e wo ⟨mk, mk1, mk2, rfl, hMo, hbo, hGo⟩
     have HMo := qhZ hMo
     have PoA := qhZ ((hbo.block _ (Nat.lt_of_lt_of_le (aB9 PxA.out) (Nat.le_refl _))).trans PnA.out)
     have PoC := qhZ ((hbo.block _ (Nat.lt_of_lt_of_le (aB9 PxC.out) (Nat.le_refl _))).trans PnC.out)
     have Hxo : Hid (Below wx.heap.size wn wo) := qhZ hbo
     have HBo : Hid (Below w.heap.size w wo) := qhZ (HBn.out.trans (hbo.mono HBx.out.size))
     have HEo := qhZ (HET.out.below HBo.out HET.out.1)
     have H7o : Hid (Below w7.heap.size w7 wo) := qhZ ((H7m.out.trans (HNB.out.mono H7m.out.size)).trans (hbo.mono H7x.out.size))
     have HNo := qhZ (HN1.out.below H7o.out)
     have HGo := qhZ hGo
     have zb0 : wo.cell? ⟨G2, 0, none⟩ = some (.slice on2 ps2.length cn2) := aA9 hGo 0
     have zb1 : wo.cell? ⟨G2, 1, none⟩ = some (.int .i64 F.room) := aA9 hGo 1
     clear hMo hbo hGo yb0 yb1
     go_wp2_with fail
     refine (heldFs_of _ mk _ HMo.out).mono ?_
     rintro e wp ⟨rfl, hbp⟩
     have PpA := qhZ (aD9 hbp PoA.out)
     have PpC := qhZ (aD9 hbp PoC.out)
     have HBp := qhZ (aL9 HBo.out hbp)
     have HEp := qhZ (HEo.out.below hbp HEo.out.1)
     have HNp := qhZ (HNo.out.below hbp)
     have HGp := qhZ (aD9 hbp HGo.out)
     have HMp := qhZ (HMo.out.below hbp)
     have HRp := qhZ (HR.out.below HBp.out)
     have hmz : ¬ ((mk : Int) < 0) := by omega
     clear hbp zb0 zb1
     have HLEp := qhZ HEp.out.1
     have HK0 : Hid (Below wp.heap.size wp wp) := qhZ (Below.refl _ _)
     have KS : Hid (∀ W, Below wp.heap.size wp W → (fun w' => w'.cell? ⟨w.heap.size, 0, none⟩ = some (.slice o f.nodes.length c) ∧ w'.cell? ⟨w.heap.size, 1, none⟩ = some (.int .i64 f.room) ∧ w'.cell? ⟨w.heap.size + 1, 0, none⟩ = some (.int .i64 u) ∧ w'.cell? ⟨w.heap.size + 1, 1, none⟩ = some (.int .i64 g)) W) := qhZ (fun W h => ⟨(h.cell (p := ⟨w.heap.size, 0, none⟩) (aB9 PpA.out)).trans (aA9 PpA.out 0), (h.cell (p := ⟨w.heap.size, 1, none⟩) (aB9 PpA.out)).trans (aA9 PpA.out 1), (h.cell (p := ⟨w.heap.size + 1, 0, none⟩) (aB9 PpC.out)).trans (aA9 PpC.out 0), (h.cell (p := ⟨w.heap.size + 1, 1, none⟩) (aB9 PpC.out)).trans (aA9 PpC.out 1)⟩)
     go_upto_region 26 with fail
     go_cut [20, 21, 22] from 105 to 115 (fun t20 t21 t22 wy => ∃ (G : Nat) (nvz : Value) (psz : List (Nod × Value)), t20 = .pointer (some ⟨G, 0, none⟩) ∧ t21 = .int .i64 cd ∧ t22 = .bool ak ∧ psz.map Prod.fst = F.nodes ∧ Ans wy wp.heap.size G nvz psz F.room ∧ Below wp.heap.size wp wy)
     case first =>
       go_region_held3 (fun w' => w'.cell? ⟨w.heap.size, 0, none⟩ = some (.slice o f.nodes.length c) ∧ w'.cell? ⟨w.heap.size, 1, none⟩ = some (.int .i64 f.room) ∧ w'.cell? ⟨w.heap.size + 1, 0, none⟩ = some (.int .i64 u) ∧ w'.cell? ⟨w.heap.size + 1, 1, none⟩ = some (.int .i64 g)) (first | exact KS.out _ (by (first | (with_reducible exact HK0.out) | (with_reducible exact aH9 HK0.out) | (with_reducible exact aF9 HK0.out) | (with_reducible exact aJ9 HK0.out) | (with_reducible exact HKa.out) | (with_reducible exact aH9 HKa.out) | (with_reducible exact aF9 HKa.out) | (with_reducible exact aJ9 HKa.out) | (with_reducible exact HKb.out) | (with_reducible exact aH9 HKb.out) | (with_reducible exact aF9 HKb.out) | (with_reducible exact aJ9 HKb.out) | (with_reducible exact HKc.out) | (with_reducible exact aH9 HKc.out) | (with_reducible exact aF9 HKc.out) | (with_reducible exact aJ9 HKc.out))) | exact KS.out _ (aP9 HKc.out HZc.out.ge))
         (first
           | (go_at_call 13; (with_reducible refine (toFs_any f _ _ (HRp.out.below (by (first | (with_reducible exact HK0.out) | (with_reducible exact aH9 HK0.out) | (with_reducible exact aF9 HK0.out) | (with_reducible exact aJ9 HK0.out)))) HSZ.out).mono ?_); rintro e wa ⟨ua, rfl, hOa, hba⟩; have HQa := qhZ (aZ9 (w := wp) (by (first | (with_reducible exact HK0.out) | (with_reducible exact aH9 HK0.out) | (with_reducible exact aF9 HK0.out) | (with_reducible exact aJ9 HK0.out))) hba); have HJa := qhZ HQa.out.1; have HKa := qhZ HQa.out.2; have HAa := qhZ (hOa.read HFIT.out); obtain ⟨nva, rfl, hNa⟩ := hOa; obtain ⟨Ga, ca, psa, rfl, -⟩ := hNa; (try (with_reducible have HZa := qhZ (aT9 (w := wp) HK0.out hba))); (try (with_reducible have HZa := qhZ (aQ9 (w := wp) HK0.out hba))); (try (have zz0 := (aA9 HZa.out.blk 0).trans rfl)); (try (have zz1 := (aA9 HZa.out.blk 1).trans rfl)); (try (have zzf := aE9 HZa.out.blk)); clear hba HQa)
           | (go_at_call 14; (with_reducible refine (toCred_any u g _).mono ?_); rintro e wb ⟨rfl, hbb⟩; have HQb := qhZ (aZ9 (w := wp) (by (first | (with_reducible exact HK0.out) | (with_reducible exact aH9 HK0.out) | (with_reducible exact aF9 HK0.out) | (with_reducible exact aJ9 HK0.out) | (with_reducible exact HKa.out) | (with_reducible exact aH9 HKa.out) | (with_reducible exact aF9 HKa.out) | (with_reducible exact aJ9 HKa.out))) hbb); have HJb := qhZ HQb.out.1; have HKb := qhZ HQb.out.2; have HAb := qhZ (HAa.out.below (by first | (with_reducible exact hbb) | (with_reducible exact aL9 (aH9 (Below.refl _ _)) hbb) | (with_reducible exact aL9 (aF9 (Below.refl _ _)) hbb))); (try (with_reducible have HZb := qhZ (aT9 (w := wp) HK0.out hbb))); (try (with_reducible have HZb := qhZ (aT9 (w := wp) HKa.out hbb))); (try (with_reducible have HZb := qhZ (aQ9 (w := wp) HK0.out hbb))); (try (with_reducible have HZb := qhZ (aQ9 (w := wp) HKa.out hbb))); (try (with_reducible have HZb := qhZ (box_old HZa.out hbb))); (try (have zz0 := (aA9 HZb.out.blk 0).trans rfl)); (try (have zz1 := (aA9 HZb.out.blk 1).trans rfl)); (try (have zzf := aE9 HZb.out.blk)); clear hbb HQb)
           | (go_at_call 28; (with_reducible refine (HIM.out _ _ (by first | (with_reducible exact HAb.out) | exact HAb.out.below (aH9 (Below.refl _ _)) | exact HAb.out.below (aF9 (Below.refl _ _))) (HEp.out.below (by (first | (with_reducible exact HK0.out) | (with_reducible exact aH9 HK0.out) | (with_reducible exact aF9 HK0.out) | (with_reducible exact aJ9 HK0.out) | (with_reducible exact HKa.out) | (with_reducible exact aH9 HKa.out) | (with_reducible exact aF9 HKa.out) | (with_reducible exact aJ9 HKa.out) | (with_reducible exact HKb.out) | (with_reducible exact aH9 HKb.out) | (with_reducible exact aF9 HKb.out) | (with_reducible exact aJ9 HKb.out))) HLEp.out)).mono ?_); rintro e wc ⟨nvc, psc, rfl, hpc, hOc, hbc⟩; have HQc := qhZ (aZ9 (w := wp) (by (first | (with_reducible exact HK0.out) | (with_reducible exact aH9 HK0.out) | (with_reducible exact aF9 HK0.out) | (with_reducible exact aJ9 HK0.out) | (with_reducible exact HKa.out) | (with_reducible exact aH9 HKa.out) | (with_reducible exact aF9 HKa.out) | (with_reducible exact aJ9 HKa.out) | (with_reducible exact HKb.out) | (with_reducible exact aH9 HKb.out) | (with_reducible exact aF9 HKb.out) | (with_reducible exact aJ9 HKb.out))) hbc); have HJc := qhZ HQc.out.1; have HKc := qhZ HQc.out.2; have HPc := qhZ hpc; have HOc := qhZ hOc; have HBWc := qhZ hbc; obtain ⟨ooc, ccc, rfl, -⟩ := aM9 hOc.row; clear hpc hOc; (try (with_reducible have HZc := qhZ (aT9 (w := wp) HK0.out hbc))); (try (with_reducible have HZc := qhZ (aT9 (w := wp) HKa.out hbc))); (try (with_reducible have HZc := qhZ (aT9 (w := wp) HKb.out hbc))); (try (with_reducible have HZc := qhZ (aQ9 (w := wp) HK0.out hbc))); (try (with_reducible have HZc := qhZ (aQ9 (w := wp) HKa.out hbc))); (try (with_reducible have HZc := qhZ (aQ9 (w := wp) HKb.out hbc))); (try (with_reducible have HZc := qhZ (box_old HZa.out hbc))); (try (with_reducible have HZc := qhZ (box_old HZb.out hbc))); (try (have zz0 := (aA9 HZc.out.blk 0).trans rfl)); (try (have zz1 := (aA9 HZc.out.blk 1).trans rfl)); (try (have zzf := aE9 HZc.out.blk)); clear hbc HQc))
       all_goals
         go_wp2_with fail
         go_meet
         first
           | (have hq := HZc; exact ⟨_, _, _, rfl, rfl, rfl, HPc.out, ans_set HZc.out HOc.out HJc.out, aP9 HKc.out HZc.out.ge⟩)
           | exact ⟨_, _, _, rfl, rfl, rfl, HPc.out, ans_new HOc.out HJc.out HBWc.out, aH9 HKc.out⟩
     case rest =>
       obtain ⟨G3, nv3, ps3, rfl, rfl, rfl, hp3, hA3, hk3⟩ := hcut
       have HP3 := qhZ hp3
       have HNq := qhZ (HNp.out.below hk3)
       have HMq := qhZ hA3
       have HGq := qhZ (aD9 hk3 HGp.out)
       have HMK := qhZ (HMp.out.below hk3)
       have HBq := qhZ (aL9 HBp.out hk3)
       obtain ⟨on3, cn3, rfl⟩ : ∃ o9 c9, nv3 = .slice o9 ps3.length c9 := by
         obtain ⟨R9, E9, -, hO9, -⟩ := HMq.out.own
         obtain ⟨o9, c9, e9, -⟩ := aM9 hO9.row
         exact ⟨o9, c9, e9⟩
       have xa0 : wc.cell? ⟨G1, 0, none⟩ = some (.slice on1 ps1.length cn1) := aA9 HNq.out.box 0
       have xa1 : wc.cell? ⟨G1, 1, none⟩ = some (.int .i64 F.room) := aA9 HNq.out.box 1
       have xb0 : wc.cell? ⟨G3, 0, none⟩ = some (.slice on3 ps3.length cn3) := aA9 HMq.out.box 0
       have xb1 : wc.cell? ⟨G3, 1, none⟩ = some (.int .i64 F.room) := aA9 HMq.out.box 1
       clear hp3 hA3 hk3 HK0 KS
       go_wp2_with fail
       refine (eqFs_same F _ _ _ (HMq.out.read HP3.out HFT.out) (HNq.out.read HP1.out HFT.out)).mono ?_
       rintro e wr ⟨rfl, hbr⟩
       have HGr := qhZ (aD9 hbr HGq.out)
       have HMr := qhZ (HMK.out.below hbr)
       have HBr := qhZ (aL9 HBq.out hbr)
       have zb0 : wr.cell? ⟨G2, 0, none⟩ = some (.slice on2 ps2.length cn2) := aA9 HGr.out 0
       have zb1 : wr.cell? ⟨G2, 1, none⟩ = some (.int .i64 F.room) := aA9 HGr.out 1
       clear hbr xa0 xa1 xb0 xb1
       go_wp2_with fail
       refine (heldFs_of _ mk _ HMr.out).mono ?_
       rintro e ws ⟨rfl, hbs⟩
       have HBs := qhZ (aL9 HBr.out hbs)
       clear hbs
       go_wp2
       go_ret
       exact ⟨rfl, HBs.out⟩
theorem walk (f : FsD) (v : Value) (u g : Int) (s : ByteArray) (hls : s.size ≤ maxLen) (t : Int) (w : World) (hR : FsA w v f) (hE : ErrT w) : Calls Tryz.prog 8 #[v, .agg #[.int .i64 u, .int .i64 g], .string s, .int .i64 t] w fun e w' => e = .returned (.bool true) ∧ Below w.heap.size w w' :=
 walkG f v u g s hls t w (makF (askT f u g t) (cutC f u g s.data.toList true) (cutG f u g s.data.toList t) f) (makC (askT f u g t) (cutC f u g s.data.toList true)) (askT f u g t) hR hE (fun hs ps => ⟨makF_fit (show aV9 f.nodes by obtain ⟨nv, rfl, hN⟩ := hR; exact hN.fit) (fun ha h0 => (cutG_facts (show bC9 f u g = true by simp only [askT, Bool.and_eq_true] at ha; first | exact ha.1 | exact ha.1.1) hs (show aV9 f.nodes by obtain ⟨nv, rfl, hN⟩ := hR; exact hN.fit) h0).2), makF_cnt hs (fun ha h0 => (cutG_facts (show bC9 f u g = true by simp only [askT, Bool.and_eq_true] at ha; first | exact ha.1 | exact ha.1.1) hs (show aV9 f.nodes by obtain ⟨nv, rfl, hN⟩ := hR; exact hN.fit) h0).1), fun v9 w9 h9 => specRemoveDir_any f v9 u g s t w9 h9 hs ps (show aV9 f.nodes by obtain ⟨nv, rfl, hN⟩ := hR; exact hN.fit), fun v9 w9 h9 e9 => removeDir_any f v9 u g s t w9 h9 hs ps e9⟩)
set_option maxRecDepth 100000 in
theorem contract (H : Type) (enc : TypeId × Value → H) (W : World) (base : Nat) (args : Array Value) (ds gs : List (DataW H)) (before : List MemPlace)
   (hval : ∀ (j : Nat) t v, Tryz.f8.params[j]? = some t → args[j]? = some v → Value.okWide Tryz.prog W .any base t v)
   (hW : DataW.Whole enc Tryz.prog Tryz.f8.params.toList Rows.fnExactRemoveDirSpec.vars false W args.toList ds gs before) (hL : laidMetH Tryz.prog Rows.fnExactRemoveDirRow.laid W) :
   Calls Tryz.prog 8 args W fun e W' => ∃ v, e = .returned v ∧ Rows.fnExactRemoveDirSpec.post enc Tryz.prog Tryz.f8 false true false false W args v W' := by
 have hW' := hW
 obtain ⟨p, q, hA0, hV, rfl, hfz, hnd⟩ := hW
 have hA : DataW.TrodAll enc Tryz.prog W 0 (fun _ => true) true Tryz.f8.params.toList args.toList ds p := hA0
 rw [Tryz.params8] at hA hval
 obtain ⟨v0, vs0, d0, ds0, p0, q0, hargs, rfl, rfl, h0, r0⟩ := trodAll_cons hA
 obtain ⟨v1, vs1, d1, ds1, p1, q1, rfl, rfl, rfl, h1, r1⟩ := trodAll_cons r0
 obtain ⟨v2, vs2, d2, ds2, p2, q2, rfl, rfl, rfl, h2, r2⟩ := trodAll_cons r1
 obtain ⟨v3, vs3, d3, ds3, p3, q3, rfl, rfl, rfl, h3, r3⟩ := trodAll_cons r2
 obtain ⟨rfl, rfl, rfl⟩ := trodAll_nil r3
 obtain rfl : args = #[v0, v1, v2, v3] := by cases args; simp_all
 obtain ⟨rfl, rfl⟩ := trodVars_none hV
 obtain ⟨f0, hR0, hF0⟩ := open_fsA (hval 0 24 v0 rfl rfl) h0
 obtain ⟨c1, k1, y1, z1, m1, rfl, rfl, rfl, hy1, hz1⟩ := open_agg2 Tryz.underlying26 (by kernel_rfl) (by kernel_rfl) (hval 1 26 v1 rfl rfl) h1
 obtain ⟨a1, e1, ey1, wa1⟩ := DataW.trod_int Tryz.underlying3 hy1
 obtain ⟨b1, f1, ez1, wb1⟩ := DataW.trod_int Tryz.underlying3 hz1
 simp at e1 f1
 subst e1 f1
 obtain ⟨a2, rfl, rfl, rfl, w2⟩ := Go.ChangeMaps.open_string Tryz.underlying9 (hval 2 9 v2 rfl rfl) h2
 obtain ⟨a3, rfl, rfl, rfl, w3⟩ := open_int Tryz.underlying3 (hval 3 3 v3 rfl rfl) h3
 refine (walk f0 v0 a1 b1 a2 w2 a3 W hR0 (errT_of hL)).mono fun e W' ⟨he, hb⟩ => ?_
 subst he
 exact ⟨_, rfl, law_post laidOut (by kernel_rfl) (by kernel_rfl) (by kernel_rfl) Tryz.underlying4 hW' rfl hb⟩
theorem laid_met (os : Os) : laidMetH Tryz.prog Rows.fnExactRemoveDirRow.laid ((laidWorld os).forCall (fun _ _ => 0) ⟨#[], #[.agg #[.slice none 0 0, .int .i64 0], .agg #[.int .i64 0, .int .i64 0], .string ⟨#[]⟩, .int .i64 0], []⟩).memory :=
 laidMetH_of_parts (laidMet_nil _ _) (by kernel_rfl)
theorem reads (os : Os) {H : Type} (enc : TypeId × Value → H) : ∃ places, DataW.whole enc Tryz.prog ((laidWorld os).forCall (fun _ _ => 0) ⟨#[], #[.agg #[.slice none 0 0, .int .i64 0], .agg #[.int .i64 0, .int .i64 0], .string ⟨#[]⟩, .int .i64 0], []⟩).memory Tryz.f8.params.toList Rows.fnExactRemoveDirSpec.vars false (#[.agg #[.slice none 0 0, .int .i64 0], .agg #[.int .i64 0, .int .i64 0], .string ⟨#[]⟩, .int .i64 0] : Array Value).toList 8 = some ([.agg [.nil, .lit (.int .i64 0)], .agg [.lit (.int .i64 0), .lit (.int .i64 0)], .lit (.string []), .lit (.int .i64 0)], [], places) :=
 ⟨[], by kernel_rfl⟩
set_option maxRecDepth 100000 in
theorem lifted (os : Os) (started : os.Started) (H : Type) (enc : TypeId × Value → H) (F : Stop.Interp) :
   ReturnsInHanded {} Tryz.checked os 8 .any ((OpenSpec.ofChange Rows.fnExactRemoveDirSpec).preRow enc Tryz.prog Tryz.f8 Rows.fnExactRemoveDirRow.domain false Rows.fnExactRemoveDirRow.laid) (((OpenSpec.ofChange Rows.fnExactRemoveDirSpec).at F).post enc Tryz.prog Tryz.f8 false true false false) := by
 obtain ⟨places, hx⟩ := reads os enc
 refine returnsInHanded_of_row (C := Tryz.checked) (s := OpenSpec.ofChange Rows.fnExactRemoveDirSpec) own started (by kernel_rfl) Tryz.func8
   (witness_row_at (enc := enc) (C := Tryz.checked) false (laidWorld os) #[.agg #[.slice none 0 0, .int .i64 0], .agg #[.int .i64 0, .int .i64 0], .string ⟨#[]⟩, .int .i64 0] rfl (by kernel_rfl) (by kernel_rfl) (by kernel_rfl)
     (OpenSpec.preRow_of_cond 8 hx (by kernel_rfl) (fun k hk => by cases hk) (by kernel_rfl) (laid_met os))) ?_
 intro W base args ds gs before hval hW _ _ _ hL _ _
 exact contract H enc W base args ds gs before hval hW hL
theorem said : Rows.FnExactRemoveDirSaid :=
 OpenClaim.holds_of_cond 8 Tryz.f8 rfl rfl rfl rfl rfl rfl rfl ⟨rfl, rfl, rfl, rfl, rfl⟩ rfl rfl rfl rfl rfl (by kernel_rfl) Tryz.func8 (by kernel_rfl)
   (of_decide_eq_true (by kernel_rfl)) (by unfold Func.isWrapper; first | (rw [if_pos (by decide +kernel)]; kernel_rfl) | (rw [if_neg (by decide +kernel)]; exact ⟨rfl, rfl⟩))
   (fun os started H enc _ F => by rw [OpenClaim.pre_eq_preRow]; exact lifted os started H enc F)
theorem plain (f : FuncId) (fn : Func) (hf : Tryz.pinned.checked.prog.funcNamed "loop.example/g00756/laws.FnExactRemoveDir" = some f) (hfn : Tryz.pinned.checked.prog.funcs[f]? = some fn) :
   true = Tryz.pinned.checked.prog.looks [] ∧ ∀ (j : Nat) t, fn.params[j]? = some t → Tryz.pinned.checked.prog.wantsStandIn t = false := by
 obtain rfl : f = 8 := Option.some.inj ((show Tryz.prog.funcNamed "loop.example/g00756/laws.FnExactRemoveDir" = some 8 by kernel_rfl).symm.trans hf) |>.symm
 obtain rfl : fn = Tryz.f8 := (Option.some.inj (Tryz.func8.symm.trans hfn)).symm
 refine ⟨by kernel_rfl, fun j t ht => ?_⟩
 rw [Tryz.params8] at ht
 have hm : t = 24 ∨ t = 26 ∨ t = 9 ∨ t = 3 := by first | (simpa using Array.mem_of_getElem? ht) | (have h9 := Array.mem_of_getElem? ht; simp at h9; rcases h9 with h | h | h | h <;> simp [h])
 rcases hm with rfl | rfl | rfl | rfl
 · exact (show Tryz.prog.wantsStandIn 24 = false by kernel_rfl)
 · exact (show Tryz.prog.wantsStandIn 26 = false by kernel_rfl)
 · exact (show Tryz.prog.wantsStandIn 9 = false by kernel_rfl)
 · exact (show Tryz.prog.wantsStandIn 3 = false by kernel_rfl)
theorem card : Rows.FnExactRemoveDirCardSaid :=
 Claim7.holds_tied_plain_at .later [] _ _ _ _ said (fun _ h => by cases h) (by kernel_rfl) (fun _ h => by cases h) fnExactRemoveDir_row_tie rfl ⟨rfl, rfl⟩ (by kernel_rfl) rfl plain (by kernel_rfl)
#print axioms card
end Go.Proofs.YtknhacblialboaaGreatDoor.fnExactRemoveDir
