/-
  Joined: PlaceC CleanS.
  Conditions: as each states.
-/
import Derived.Test.YtknhacblialboaaGreatDoorLib3
import Derived.Test.YtknhacblialboaaGreatDoorLib4
import Derived.Test.YtknhacblialboaaGreatDoorLib15
namespace Go.Proofs.YtknhacblialboaaGreatDoor
open Go.ChangeShapes Go.WideShapes Go.ChangeAt Go.RowKit Go.Joins
set_option linter.unusedVariables false
set_option linter.unusedSimpArgs false
set_option maxHeartbeats 16000000
theorem byte_at {s : ByteArray} {D p : List UInt8} (hs : s.data.toList = D ++ 47 :: p) (hp : 47 ∉ p) (m : Nat) (hm : m < s.size) : (D.length < m → (s[m]'hm).toNat ≠ 47) ∧ (m = D.length → (s[m]'hm).toNat = 47) := by
 have hl : m < s.data.toList.length := by rw [aW9]; exact hm
 have e : s[m]'hm = s.data.toList[m]'hl := rfl
 have e2 : s.data.toList[m]'hl = (D ++ 47 :: p)[m]'(by rw [← hs]; exact hl) := by congr 1
 rw [e, e2]
 constructor
 · intro h h47
   rw [List.getElem_append_right (by omega)] at h47
   obtain ⟨j, hj⟩ : ∃ j, m - D.length = j + 1 := ⟨m - D.length - 1, by omega⟩
   have hjl : j < p.length := by
     have : s.data.toList.length = (D ++ 47 :: p).length := by rw [hs]
     simp at this hl
     omega
   have h5 : ((47 :: p)[m - D.length]'(by simp; omega)) = p[j] := by
     simp only [hj, List.getElem_cons_succ]
   rw [h5] at h47
   have : p[j] = 47 := UInt8.toNat_inj.1 (by rw [h47]; rfl)
   exact hp (this ▸ List.getElem_mem hjl)
 · intro h
   subst h
   simp
theorem lastB_some (D p : List UInt8) (s : ByteArray) (w : World) (hs : s.data.toList = D ++ 47 :: p) (hp : 47 ∉ p) (hz : s.size ≤ 1073741824) :
   Calls Tryz.prog 178 #[.string s, .int .u8 47] w fun e w' => e = .returned (.int .i64 (D.length : Nat)) ∧ w = w' := by
 have HA := qhZ (byte_at hs hp)
 have hsz : s.size = D.length + 1 + p.length := by rw [← aW9, hs]; simp; omega
 clear hs hp
 go_enter Tryz.func178, Tryz.ntmps178
 go_wp2
 go_loop [5] (fun i => ∃ m : Nat, D.length ≤ m ∧ m < s.size ∧ i = .int .i64 m) (fun i => (intOf i).toNat)
 case atStart => exact ⟨s.size - 1, by omega, by omega, by congr 1; omega⟩
 case round =>
   obtain ⟨m, hm0, hm1, rfl⟩ := hrel
   obtain ⟨h1, h2⟩ := HA.out m hm1
   by_cases hmD : m = D.length
   · have h47 := h2 hmD
     have h47b : (((s[m]'hm1).toNat : Int) == 47) = true := by rw [h47]; rfl
     subst hmD
     clear h1 h2
     go_wp2
     go_ret
     exact ⟨rfl, rfl⟩
   · have hgt : D.length < m := by omega
     have hne := h1 hgt
     have hne2 : (((s[m]'hm1).toNat : Int) == 47) = false := by rw [beq_eq_false_iff_ne]; omega
     clear h1 h2
     go_wp2
     go_round
     case rel => exact ⟨m - 1, by omega, by omega, by congr 1; omega⟩
     case measure => simp [intOf]; omega
theorem lastB_none (s : ByteArray) (w : World) (hs : 47 ∉ s.data.toList) (hz : s.size ≤ 1073741824) :
   Calls Tryz.prog 178 #[.string s, .int .u8 47] w fun e w' => e = .returned (.int .i64 (-1)) ∧ w = w' := by
 have HA : Hid (∀ m (hm : m < s.size), (s[m]'hm).toNat ≠ 47) := qhZ (by
   intro m hm h
   have hl : m < s.data.toList.length := by rw [aW9]; exact hm
   have e : s[m]'hm = s.data.toList[m]'hl := rfl
   have : s[m]'hm = 47 := UInt8.toNat_inj.1 (by rw [h]; rfl)
   rw [e] at this
   exact hs (this ▸ List.getElem_mem hl))
 clear hs
 go_enter Tryz.func178, Tryz.ntmps178
 go_wp2
 go_loop [5] (fun i => ∃ m : Int, -1 ≤ m ∧ m < s.size ∧ i = .int .i64 m) (fun i => (intOf i + 1).toNat)
 case atStart => exact ⟨(s.size : Int) - 1, by omega, by omega, rfl⟩
 case round =>
   obtain ⟨m, hm0, hm1, rfl⟩ := hrel
   by_cases hm : m = -1
   · subst hm
     go_wp2
     go_ret
     exact ⟨rfl, rfl⟩
   · obtain ⟨k, rfl⟩ : ∃ k : Nat, m = k := ⟨m.toNat, by omega⟩
     have hk : k < s.size := by omega
     have h1 := HA.out k hk
     go_wp2
     all_goals first
       | (exfalso; simp at *; omega)
       | (go_round
          case rel => exact ⟨(k : Int) - 1, by omega, by omega, by congr 1⟩
          case measure => (simp [intOf]) <;> omega)
theorem lastI_some {D p : List UInt8} {s : ByteArray} {w : World} (hs : s.data.toList = D ++ 47 :: p) (hp : 47 ∉ p) (hz : s.size ≤ 1073741824) :
   Calls Tryz.prog 161 #[.string s, .int .u8 47] w fun e w' => e = .returned (.int .i64 (D.length : Nat)) ∧ w = w' := by
 have H := qhZ (lastB_some D p s w hs hp hz)
 clear hs hp
 go_enter Tryz.func161, Tryz.ntmps161
 go_wp2_with fail
 refine H.out.mono ?_
 rintro e w1 ⟨rfl, rfl⟩
 go_wp2
 go_ret
 exact ⟨rfl, rfl⟩
theorem lastI_none {s : ByteArray} {w : World} (hs : 47 ∉ s.data.toList) (hz : s.size ≤ 1073741824) :
   Calls Tryz.prog 161 #[.string s, .int .u8 47] w fun e w' => e = .returned (.int .i64 (-1)) ∧ w = w' := by
 have H := qhZ (lastB_none s w hs hz)
 clear hs
 go_enter Tryz.func161, Tryz.ntmps161
 go_wp2_with fail
 refine H.out.mono ?_
 rintro e w1 ⟨rfl, rfl⟩
 go_wp2
 go_ret
 exact ⟨rfl, rfl⟩
theorem cut_tail {D p : List UInt8} {s : ByteArray} (hs : s.data.toList = D ++ 47 :: p) : s.extract (D.length + 1) s.size = bs p := by
 rw [bs_ext, ← aW9, List.take_length, hs]
 congr 1
 have e : D ++ 47 :: p = (D ++ [47]) ++ p := by simp
 rw [e, List.drop_append_of_le_length (by simp)]
 simp
theorem cut_front {D p : List UInt8} {s : ByteArray} (hs : s.data.toList = D ++ 47 :: p) : s.extract 0 D.length = bs D := by
 rw [bs_ext, hs]; simp
theorem cut_root {p : List UInt8} {s : ByteArray} (hs : s.data.toList = 47 :: p) : s.extract 0 1 = bs [47] := by
 rw [bs_ext, hs]; simp
theorem placeAt_no (f : FsD) (v : Value) (u g : Int) (s : ByteArray) (w : World) (hR : FsA w v f) (hs : szF f ≤ 1048576) (hss : s.size ≤ 1048576) (hw : wgB s.data.toList = false) :
   Calls Tryz.prog 125 #[v, .agg #[.int .i64 u, .int .i64 g], .string s] w fun e w' => e = .returned (.tuple #[.int .i64 0, .string ⟨#[]⟩, faultV s 1]) ∧ Below w.heap.size w w' := by
 have HR := qhZ hR
 obtain ⟨nv, rfl, hN⟩ := hR
 have HN := qhZ hN
 obtain ⟨o, c, rfl, hm, hH⟩ := hN
 unfold maxLen at hm
 have HS := qhZ hs
 have hl : f.nodes.length ≤ 1048576 := (aG9 hs).1
 have HB0 : Hid (Below w.heap.size w ((w.alloc (.cells #[.slice o f.nodes.length c, .int .i64 f.room] 30)).alloc (.cells #[.int .i64 u, .int .i64 g] 34))) := qhZ (((Below.refl _ _).alloc (Nat.le_refl _) _).alloc (by simp) _)
 have KA0 := qhZ (alloc3_fst' w (.cells #[.slice o f.nodes.length c, .int .i64 f.room] 30) (.cells #[.int .i64 u, .int .i64 g] 34))
 have KB0 := qhZ (alloc3_snd' w (.cells #[.slice o f.nodes.length c, .int .i64 f.room] 30) (.cells #[.int .i64 u, .int .i64 g] 34))
 clear hH
 have HW := qhZ hw
 clear hs hw
 by_cases h47 : 47 ∈ s.data.toList
 · obtain ⟨D, p, hDp, hp⟩ := cut_slash _ h47
   have hsz : D.length + 1 ≤ s.size := by rw [← aW9, hDp]; simp
   have HDP := qhZ hDp
   have HP := qhZ hp
   clear hDp hp h47
   go_enter Tryz.func125, Tryz.ntmps125
   go_wp2_with fail
   refine (lastI_some HDP.out HP.out (by omega)).mono ?_
   rintro e w0 ⟨rfl, rfl⟩
   go_wp2_with fail
   refine (isWholePath_is HW.out (by omega)).mono ?_
   rintro e w1 ⟨rfl, hb1⟩
   have HB1 := qhZ (HB0.out.trans (hb1.mono HB0.out.size))
   have KA1 := qhZ ((hb1.block w.heap.size (aB9 KA0.out)).trans KA0.out)
   have KB1 := qhZ ((hb1.block (w.heap.size + 1) (aB9 KB0.out)).trans KB0.out)
   have x1a : w1.cell? ⟨w.heap.size, 0, none⟩ = some (.slice o f.nodes.length c) := aA9 KA1.out 0
   have x1b : w1.cell? ⟨w.heap.size, 1, none⟩ = some (.int .i64 f.room) := aA9 KA1.out 1
   have y1a : w1.cell? ⟨w.heap.size + 1, 0, none⟩ = some (.int .i64 u) := aA9 KB1.out 0
   have y1b : w1.cell? ⟨w.heap.size + 1, 1, none⟩ = some (.int .i64 g) := aA9 KB1.out 1
   clear hb1
   go_wp2
   go_ret3
   exact ⟨rfl, HB1.out⟩
 · have HN := qhZ h47
   clear h47
   go_enter Tryz.func125, Tryz.ntmps125
   go_wp2_with fail
   refine (lastI_none HN.out (by omega)).mono ?_
   rintro e w0 ⟨rfl, rfl⟩
   go_wp2_with fail
   refine (isWholePath_is HW.out (by omega)).mono ?_
   rintro e w1 ⟨rfl, hb1⟩
   have HB1 := qhZ (HB0.out.trans (hb1.mono HB0.out.size))
   have KA1 := qhZ ((hb1.block w.heap.size (aB9 KA0.out)).trans KA0.out)
   have KB1 := qhZ ((hb1.block (w.heap.size + 1) (aB9 KB0.out)).trans KB0.out)
   have x1a : w1.cell? ⟨w.heap.size, 0, none⟩ = some (.slice o f.nodes.length c) := aA9 KA1.out 0
   have x1b : w1.cell? ⟨w.heap.size, 1, none⟩ = some (.int .i64 f.room) := aA9 KA1.out 1
   have y1a : w1.cell? ⟨w.heap.size + 1, 0, none⟩ = some (.int .i64 u) := aA9 KB1.out 0
   have y1b : w1.cell? ⟨w.heap.size + 1, 1, none⟩ = some (.int .i64 g) := aA9 KB1.out 1
   clear hb1
   go_wp2
   go_ret3
   exact ⟨rfl, HB1.out⟩
theorem placeAt_bad (f : FsD) (v : Value) (u g : Int) (s : ByteArray) (D p : List UInt8) (w : World) (hR : FsA w v f) (hs : szF f ≤ 1048576) (hss : s.size ≤ 1048576) (hw : wgB s.data.toList = true) (hDp : s.data.toList = D ++ 47 :: p) (hp : 47 ∉ p) (hn : nameB p = false) :
   Calls Tryz.prog 125 #[v, .agg #[.int .i64 u, .int .i64 g], .string s] w fun e w' => e = .returned (.tuple #[.int .i64 0, .string ⟨#[]⟩, faultV s 1]) ∧ Below w.heap.size w w' := by
 have HR := qhZ hR
 obtain ⟨nv, rfl, hN⟩ := hR
 have HN := qhZ hN
 obtain ⟨o, c, rfl, hm, hH⟩ := hN
 unfold maxLen at hm
 have HS := qhZ hs
 have hl : f.nodes.length ≤ 1048576 := (aG9 hs).1
 have HB0 : Hid (Below w.heap.size w ((w.alloc (.cells #[.slice o f.nodes.length c, .int .i64 f.room] 30)).alloc (.cells #[.int .i64 u, .int .i64 g] 34))) := qhZ (((Below.refl _ _).alloc (Nat.le_refl _) _).alloc (by simp) _)
 have KA0 := qhZ (alloc3_fst' w (.cells #[.slice o f.nodes.length c, .int .i64 f.room] 30) (.cells #[.int .i64 u, .int .i64 g] 34))
 have KB0 := qhZ (alloc3_snd' w (.cells #[.slice o f.nodes.length c, .int .i64 f.room] 30) (.cells #[.int .i64 u, .int .i64 g] 34))
 clear hH
 have HW := qhZ hw
 have HCT := qhZ (cut_tail hDp)
 have HNM : Hid (nameB p = false) := qhZ hn
 have hsz : D.length + 1 ≤ s.size := by rw [← aW9, hDp]; simp
 have HDP := qhZ hDp
 have HP := qhZ hp
 clear hs hw hn hDp hp
 go_enter Tryz.func125, Tryz.ntmps125
 go_wp2_with fail
 refine (lastI_some HDP.out HP.out (by omega)).mono ?_
 rintro e w0 ⟨rfl, rfl⟩
 go_wp2_with fail
 refine (isWholePath_is HW.out (by omega)).mono ?_
 rintro e w1 ⟨rfl, hb1⟩
 have HB1 := qhZ (HB0.out.trans (hb1.mono HB0.out.size))
 have KA1 := qhZ ((hb1.block w.heap.size (aB9 KA0.out)).trans KA0.out)
 have KB1 := qhZ ((hb1.block (w.heap.size + 1) (aB9 KB0.out)).trans KB0.out)
 have x1a : w1.cell? ⟨w.heap.size, 0, none⟩ = some (.slice o f.nodes.length c) := aA9 KA1.out 0
 have x1b : w1.cell? ⟨w.heap.size, 1, none⟩ = some (.int .i64 f.room) := aA9 KA1.out 1
 have y1a : w1.cell? ⟨w.heap.size + 1, 0, none⟩ = some (.int .i64 u) := aA9 KB1.out 0
 have y1b : w1.cell? ⟨w.heap.size + 1, 1, none⟩ = some (.int .i64 g) := aA9 KB1.out 1
 clear hb1
 go_wp2_with fail
 rw [HCT.out]
 refine (goodName_is HNM.out _ rfl _).mono ?_
 rintro e w2 ⟨rfl, hb2⟩
 have HB2 := qhZ (HB1.out.trans (hb2.mono HB1.out.size))
 clear hb2
 go_wp2
 go_ret3
 exact ⟨rfl, HB2.out⟩
theorem dirW_zero {ns : List Nod} {u g : Int} {l : List UInt8} {want : Int} (h : (dirW ns u g l want).1 ≠ 0) : (dirW ns u g l want).2 = 0 := by
 unfold dirW at h ⊢
 by_cases h1 : (bK9 ns u g l true).1 ≠ 0
 · rw [if_pos h1]
 · rw [if_neg h1] at h ⊢
   by_cases h2 : dirC (aC9 ns (bK9 ns u g l true).2) u g want ≠ 0
   · rw [if_pos h2]
   · rw [if_neg h2] at h; exact absurd rfl h
theorem placeAt_D (f : FsD) (v : Value) (u g : Int) (s : ByteArray) (D p : List UInt8) (w : World) (hR : FsA w v f) (hs : szF f ≤ 1048576) (hk : bC9 f u g = true) (hss : s.size ≤ 1048576) (hw : wgB s.data.toList = true) (hDp : s.data.toList = D ++ 47 :: p) (hp : 47 ∉ p) (hn : nameB p = true) (hD : D ≠ []) :
   Calls Tryz.prog 125 #[v, .agg #[.int .i64 u, .int .i64 g], .string s] w fun e w' => e = .returned (.tuple #[.int .i64 ((dirW f.nodes u g D 1).2 : Nat), .string (bs (if (dirW f.nodes u g D 1).1 = 0 then p else [])), errV (bs D) (dirW f.nodes u g D 1).1]) ∧ Below w.heap.size w w' := by
 have HR := qhZ hR
 obtain ⟨nv, rfl, hN⟩ := hR
 have HN := qhZ hN
 obtain ⟨o, c, rfl, hm, hH⟩ := hN
 unfold maxLen at hm
 have HS := qhZ hs
 have hl : f.nodes.length ≤ 1048576 := (aG9 hs).1
 have HB0 : Hid (Below w.heap.size w ((w.alloc (.cells #[.slice o f.nodes.length c, .int .i64 f.room] 30)).alloc (.cells #[.int .i64 u, .int .i64 g] 34))) := qhZ (((Below.refl _ _).alloc (Nat.le_refl _) _).alloc (by simp) _)
 have KA0 := qhZ (alloc3_fst' w (.cells #[.slice o f.nodes.length c, .int .i64 f.room] 30) (.cells #[.int .i64 u, .int .i64 g] 34))
 have KB0 := qhZ (alloc3_snd' w (.cells #[.slice o f.nodes.length c, .int .i64 f.room] 30) (.cells #[.int .i64 u, .int .i64 g] 34))
 clear hH
 have HK := qhZ hk
 have HW := qhZ hw
 have HCT := qhZ (cut_tail hDp)
 have HFR : Hid (s.extract 0 D.length = bs D) := qhZ (cut_front hDp)
 have HNM : Hid (nameB p = true) := qhZ hn
 have hsz : D.length + 1 ≤ s.size := by rw [← aW9, hDp]; simp
 have hD0 : 1 ≤ D.length := by cases D with | nil => exact absurd rfl hD | cons => simp
 have HDP := qhZ hDp
 have HP := qhZ hp
 obtain ⟨⟨cd, nd⟩, hfd⟩ : ∃ q, dirW f.nodes u g D 1 = q := ⟨_, rfl⟩
 have HFD : Hid (dirW f.nodes u g (bs D).data.toList 1 = (cd, nd)) := qhZ (by rw [aY9]; exact hfd)
 rw [hfd]
 have HZ : Hid (cd ≠ 0 → nd = 0) := qhZ (fun h => by have := dirW_zero (ns := f.nodes) (u := u) (g := g) (l := D) (want := 1) (by rw [hfd]; exact h); rw [hfd] at this; exact this)
 have hsa : (bs D).size ≤ 1048576 := by rw [bs_size]; omega
 clear hs hw hn hDp hp hk hfd hD
 go_enter Tryz.func125, Tryz.ntmps125
 go_wp2_with fail
 refine (lastI_some HDP.out HP.out (by omega)).mono ?_
 rintro e w0 ⟨rfl, rfl⟩
 go_wp2_with fail
 refine (isWholePath_is HW.out (by omega)).mono ?_
 rintro e w1 ⟨rfl, hb1⟩
 have HB1 := qhZ (HB0.out.trans (hb1.mono HB0.out.size))
 have KA1 := qhZ ((hb1.block w.heap.size (aB9 KA0.out)).trans KA0.out)
 have KB1 := qhZ ((hb1.block (w.heap.size + 1) (aB9 KB0.out)).trans KB0.out)
 have x1a : w1.cell? ⟨w.heap.size, 0, none⟩ = some (.slice o f.nodes.length c) := aA9 KA1.out 0
 have x1b : w1.cell? ⟨w.heap.size, 1, none⟩ = some (.int .i64 f.room) := aA9 KA1.out 1
 have y1a : w1.cell? ⟨w.heap.size + 1, 0, none⟩ = some (.int .i64 u) := aA9 KB1.out 0
 have y1b : w1.cell? ⟨w.heap.size + 1, 1, none⟩ = some (.int .i64 g) := aA9 KB1.out 1
 clear hb1
 go_wp2_with fail
 rw [HCT.out]
 refine (goodName_is HNM.out _ rfl _).mono ?_
 rintro e w2 ⟨rfl, hb2⟩
 have HB2 := qhZ (HB1.out.trans (hb2.mono HB1.out.size))
 have KA2 := qhZ ((hb2.block w.heap.size (aB9 KA1.out)).trans KA1.out)
 have KB2 := qhZ ((hb2.block (w.heap.size + 1) (aB9 KB1.out)).trans KB1.out)
 have x2a : w2.cell? ⟨w.heap.size, 0, none⟩ = some (.slice o f.nodes.length c) := aA9 KA2.out 0
 have x2b : w2.cell? ⟨w.heap.size, 1, none⟩ = some (.int .i64 f.room) := aA9 KA2.out 1
 have y2a : w2.cell? ⟨w.heap.size + 1, 0, none⟩ = some (.int .i64 u) := aA9 KB2.out 0
 have y2b : w2.cell? ⟨w.heap.size + 1, 1, none⟩ = some (.int .i64 g) := aA9 KB2.out 1
 clear hb2
 have z0 := fun d os => cell_regrown (w := w2) x2a d os
 have z1 := fun d os => cell_regrown (w := w2) x2b d os
 have z2 := fun d os => cell_regrown (w := w2) y2a d os
 have z3 := fun d os => cell_regrown (w := w2) y2b d os
 have HR2 := qhZ (HR.out.below HB2.out)
 by_cases hc : cd = 0
 · subst hc
   go_wp2
   refine wp_region_quiet_below (by kernel_rfl) (by kernel_rfl) ?_
   repeat (first | go_big_quiet_step ((go_at_call 163; rw [HFR.out]; exact Calls.regrown_of (dirAt_is HFD.out (HR2.out.below (below_regrown _ _ _)) HS.out HK.out (by decide) hsa))) | quiet_step ((go_at_call 163; rw [HFR.out]; exact Calls.regrown_of (dirAt_is HFD.out (HR2.out.below (below_regrown _ _ _)) HS.out HK.out (by decide) hsa))))
   refine wpQuiet_nil ?_
   intro w6 hwq
   have hb6 : Below w2.heap.size w2 w6 := by
     obtain ⟨pp, rfl⟩ := hwq
     exact below_regrown _ _ _
   have HB6 := qhZ (HB2.out.trans (hb6.mono HB2.out.size))
   clear hwq hb6 z0 z1 z2 z3
   rw [errV_ok]
   go_wp2
   go_ret3
   exact ⟨by simp [errV_ok], HB6.out⟩
 · have HE := qhZ (errV_not (bs D) hc)
   have HND := qhZ (HZ.out hc)
   go_wp2
   refine wp_region_quiet_below (by kernel_rfl) (by kernel_rfl) ?_
   repeat (first | go_big_quiet_step ((go_at_call 163; rw [HFR.out]; exact Calls.regrown_of (dirAt_is HFD.out (HR2.out.below (below_regrown _ _ _)) HS.out HK.out (by decide) hsa))) | quiet_step ((go_at_call 163; rw [HFR.out]; exact Calls.regrown_of (dirAt_is HFD.out (HR2.out.below (below_regrown _ _ _)) HS.out HK.out (by decide) hsa))))
   refine wpQuiet_nil ?_
   intro w6 hwq
   have hb6 : Below w2.heap.size w2 w6 := by
     obtain ⟨pp, rfl⟩ := hwq
     exact below_regrown _ _ _
   have HB6 := qhZ (HB2.out.trans (hb6.mono HB2.out.size))
   clear hwq hb6 z0 z1 z2 z3
   rw [HE.out]
   go_wp2
   go_ret3
   exact ⟨by rw [HND.out, HE.out]; rfl, HB6.out⟩
theorem placeAt_E (f : FsD) (v : Value) (u g : Int) (s : ByteArray) (p : List UInt8) (w : World) (hR : FsA w v f) (hs : szF f ≤ 1048576) (hk : bC9 f u g = true) (hss : s.size ≤ 1048576) (hw : wgB s.data.toList = true) (hDp : s.data.toList = 47 :: p) (hp : 47 ∉ p) (hn : nameB p = true) :
   Calls Tryz.prog 125 #[v, .agg #[.int .i64 u, .int .i64 g], .string s] w fun e w' => e = .returned (.tuple #[.int .i64 ((dirW f.nodes u g [47] 1).2 : Nat), .string (bs (if (dirW f.nodes u g [47] 1).1 = 0 then p else [])), errV (bs [47]) (dirW f.nodes u g [47] 1).1]) ∧ Below w.heap.size w w' := by
 have HR := qhZ hR
 obtain ⟨nv, rfl, hN⟩ := hR
 have HN := qhZ hN
 obtain ⟨o, c, rfl, hm, hH⟩ := hN
 unfold maxLen at hm
 have HS := qhZ hs
 have hl : f.nodes.length ≤ 1048576 := (aG9 hs).1
 have HB0 : Hid (Below w.heap.size w ((w.alloc (.cells #[.slice o f.nodes.length c, .int .i64 f.room] 30)).alloc (.cells #[.int .i64 u, .int .i64 g] 34))) := qhZ (((Below.refl _ _).alloc (Nat.le_refl _) _).alloc (by simp) _)
 have KA0 := qhZ (alloc3_fst' w (.cells #[.slice o f.nodes.length c, .int .i64 f.room] 30) (.cells #[.int .i64 u, .int .i64 g] 34))
 have KB0 := qhZ (alloc3_snd' w (.cells #[.slice o f.nodes.length c, .int .i64 f.room] 30) (.cells #[.int .i64 u, .int .i64 g] 34))
 clear hH
 have HK := qhZ hk
 have HW := qhZ hw
 have hDp9 : s.data.toList = [] ++ 47 :: p := hDp
 have HCT : Hid (s.extract 1 s.size = bs p) := qhZ (cut_tail hDp9)
 have HFR : Hid (s.extract 0 1 = bs [47]) := qhZ (cut_root hDp)
 have HNM : Hid (nameB p = true) := qhZ hn
 have hsz : 1 ≤ s.size := by rw [← aW9, hDp]; simp
 have HDP := qhZ hDp9
 have HP := qhZ hp
 obtain ⟨⟨cd, nd⟩, hfd⟩ : ∃ q, dirW f.nodes u g [47] 1 = q := ⟨_, rfl⟩
 have HFD : Hid (dirW f.nodes u g (bs [47]).data.toList 1 = (cd, nd)) := qhZ (by rw [aY9]; exact hfd)
 rw [hfd]
 have HZ : Hid (cd ≠ 0 → nd = 0) := qhZ (fun h => by have := dirW_zero (ns := f.nodes) (u := u) (g := g) (l := [47]) (want := 1) (by rw [hfd]; exact h); rw [hfd] at this; exact this)
 have hsa : (bs [47]).size ≤ 1048576 := by rw [bs_size]; simp
 clear hs hw hn hDp hp hk hfd hDp9
 have hlen0 : (([] : List UInt8).length : Int) = 0 := rfl
 go_enter Tryz.func125, Tryz.ntmps125
 go_wp2_with fail
 refine (lastI_some HDP.out HP.out (by omega)).mono ?_
 rintro e w0 ⟨rfl, rfl⟩
 go_wp2_with fail
 refine (isWholePath_is HW.out (by omega)).mono ?_
 rintro e w1 ⟨rfl, hb1⟩
 have HB1 := qhZ (HB0.out.trans (hb1.mono HB0.out.size))
 have KA1 := qhZ ((hb1.block w.heap.size (aB9 KA0.out)).trans KA0.out)
 have KB1 := qhZ ((hb1.block (w.heap.size + 1) (aB9 KB0.out)).trans KB0.out)
 have x1a : w1.cell? ⟨w.heap.size, 0, none⟩ = some (.slice o f.nodes.length c) := aA9 KA1.out 0
 have x1b : w1.cell? ⟨w.heap.size, 1, none⟩ = some (.int .i64 f.room) := aA9 KA1.out 1
 have y1a : w1.cell? ⟨w.heap.size + 1, 0, none⟩ = some (.int .i64 u) := aA9 KB1.out 0
 have y1b : w1.cell? ⟨w.heap.size + 1, 1, none⟩ = some (.int .i64 g) := aA9 KB1.out 1
 clear hb1
 go_wp2_with fail
 rw [HCT.out]
 refine (goodName_is HNM.out _ rfl _).mono ?_
 rintro e w2 ⟨rfl, hb2⟩
 have HB2 := qhZ (HB1.out.trans (hb2.mono HB1.out.size))
 have KA2 := qhZ ((hb2.block w.heap.size (aB9 KA1.out)).trans KA1.out)
 have KB2 := qhZ ((hb2.block (w.heap.size + 1) (aB9 KB1.out)).trans KB1.out)
 have x2a : w2.cell? ⟨w.heap.size, 0, none⟩ = some (.slice o f.nodes.length c) := aA9 KA2.out 0
 have x2b : w2.cell? ⟨w.heap.size, 1, none⟩ = some (.int .i64 f.room) := aA9 KA2.out 1
 have y2a : w2.cell? ⟨w.heap.size + 1, 0, none⟩ = some (.int .i64 u) := aA9 KB2.out 0
 have y2b : w2.cell? ⟨w.heap.size + 1, 1, none⟩ = some (.int .i64 g) := aA9 KB2.out 1
 clear hb2
 have z0 := fun d os => cell_regrown (w := w2) x2a d os
 have z1 := fun d os => cell_regrown (w := w2) x2b d os
 have z2 := fun d os => cell_regrown (w := w2) y2a d os
 have z3 := fun d os => cell_regrown (w := w2) y2b d os
 have HR2 := qhZ (HR.out.below HB2.out)
 by_cases hc : cd = 0
 · subst hc
   go_wp2
   refine wp_region_quiet_below (by kernel_rfl) (by kernel_rfl) ?_
   repeat (first | go_big_quiet_step ((go_at_call 163; rw [HFR.out]; exact Calls.regrown_of (dirAt_is HFD.out (HR2.out.below (below_regrown _ _ _)) HS.out HK.out (by decide) hsa))) | quiet_step ((go_at_call 163; rw [HFR.out]; exact Calls.regrown_of (dirAt_is HFD.out (HR2.out.below (below_regrown _ _ _)) HS.out HK.out (by decide) hsa))))
   refine wpQuiet_nil ?_
   intro w6 hwq
   have hb6 : Below w2.heap.size w2 w6 := by
     obtain ⟨pp, rfl⟩ := hwq
     exact below_regrown _ _ _
   have HB6 := qhZ (HB2.out.trans (hb6.mono HB2.out.size))
   clear hwq hb6 z0 z1 z2 z3
   rw [errV_ok]
   go_wp2
   go_ret3
   exact ⟨by simp [errV_ok], HB6.out⟩
 · have HE := qhZ (errV_not (bs [47]) hc)
   have HND := qhZ (HZ.out hc)
   go_wp2
   refine wp_region_quiet_below (by kernel_rfl) (by kernel_rfl) ?_
   repeat (first | go_big_quiet_step ((go_at_call 163; rw [HFR.out]; exact Calls.regrown_of (dirAt_is HFD.out (HR2.out.below (below_regrown _ _ _)) HS.out HK.out (by decide) hsa))) | quiet_step ((go_at_call 163; rw [HFR.out]; exact Calls.regrown_of (dirAt_is HFD.out (HR2.out.below (below_regrown _ _ _)) HS.out HK.out (by decide) hsa))))
   refine wpQuiet_nil ?_
   intro w6 hwq
   have hb6 : Below w2.heap.size w2 w6 := by
     obtain ⟨pp, rfl⟩ := hwq
     exact below_regrown _ _ _
   have HB6 := qhZ (HB2.out.trans (hb6.mono HB2.out.size))
   clear hwq hb6 z0 z1 z2 z3
   rw [HE.out]
   go_wp2
   go_ret3
   exact ⟨by rw [HND.out, HE.out]; rfl, HB6.out⟩
theorem cut_row {W : World} {R g cap : Nat} {ps : List (List UInt8)} {p : List UInt8} (h : Lst W R (.slice (some ⟨g, 0, none⟩) (ps.length + 1) cap) (ps ++ [p])) : Lst W R (.slice (some ⟨g, 0, none⟩) ps.length cap) ps := by
 rcases h with ⟨hl, ⟨e, _⟩ | ⟨g', cap', cur, e, hB, hg, hn, hm, hs, ht⟩⟩
 · simp at e
 · simp only [Value.slice.injEq, Option.some.injEq, Addr.mk.injEq, and_true] at e
   obtain ⟨rfl, _, rfl⟩ := e
   refine ⟨by simp [strs], .inr ⟨_, _, cur, rfl, hB, hg, by simp at hn; omega, hm, hs, ?_⟩⟩
   have := congrArg (List.take ps.length) ht
   simp only [List.take_take, List.length_append, List.length_cons, List.length_nil, Nat.mul_one] at this
   rw [Nat.min_eq_left (by omega)] at this
   rw [Nat.mul_one, this]
   simp [strs]
theorem lst_last {W : World} {R : Nat} {v : Value} {ps : List (List UInt8)} {p : List UInt8} (h : Lst W R v (ps ++ [p])) : ∃ g cap, v = .slice (some ⟨g, 0, none⟩) (ps.length + 1) cap ∧ ps.length + 1 ≤ cap ∧ cap ≤ maxLen ∧ W.cell? ⟨g, ps.length, none⟩ = some (.string (bs p)) := by
 obtain ⟨o, c, e, hlc, hcm, hH⟩ := h.read
 obtain ⟨g, off, rfl, hg, hc⟩ := hH ps.length (by simp)
 rcases h.2 with ⟨e', _⟩ | ⟨g', cap, cur, e', _⟩
 · rw [e] at e'; cases e'
 · rw [e] at e'
   simp only [Value.slice.injEq, Option.some.injEq, Addr.mk.injEq, and_true] at e'
   obtain ⟨⟨rfl, rfl⟩, _, rfl⟩ := e'
   refine ⟨g, c, by rw [e]; simp, by simpa using hlc, hcm, ?_⟩
   simpa using hc
def keptOf (wh : Bool) (xs : List ByteArray) : List (List UInt8) := clean wh (xs.map fun x => x.data.toList)
theorem keptOf_parts (wh : Bool) (ps : List (List UInt8)) : keptOf wh (ps.map bs) = clean wh ps := by
 unfold keptOf
 rw [List.map_map]
 congr 1
 conv => rhs; rw [← List.map_id ps]
 exact List.map_congr_left fun p _ => aY9 p
theorem clStep_le (wh : Bool) (st : List (List UInt8)) (p : List UInt8) : (clStep wh st p).length ≤ st.length + 1 := by
 unfold clStep; repeat' split
 all_goals simp
 all_goals omega
theorem keptOf_le (wh : Bool) (xs : List ByteArray) : (keptOf wh xs).length ≤ xs.length := by
 unfold keptOf clean
 have : ∀ (l : List ByteArray) (st : List (List UInt8)), ((l.map fun x => x.data.toList).foldl (clStep wh) st).length ≤ st.length + l.length := by
   intro l
   induction l with
   | nil => intro st; simp
   | cons x l ih => intro st; have := ih (clStep wh st x.data.toList); have := clStep_le wh st x.data.toList; simp only [List.map_cons, List.foldl_cons, List.length_cons]; omega
 simpa using this xs []
theorem cl_dot (wh : Bool) (st : List (List UInt8)) : clStep wh st [46] = st := by simp [clStep]
theorem cl_name (wh : Bool) (st : List (List UInt8)) {p : List UInt8} (h1 : p ≠ [46]) (h2 : p ≠ [46, 46]) : clStep wh st p = st ++ [p] := by simp [clStep, h1, h2]
theorem cl_pop (wh : Bool) (st : List (List UInt8)) {p : List UInt8} (h : p ≠ [46, 46]) : clStep wh (st ++ [p]) [46, 46] = st := by simp [clStep, h]
theorem cl_stay (wh : Bool) (st : List (List UInt8)) : clStep wh (st ++ [[46, 46]]) [46, 46] = if wh then st ++ [[46, 46]] else st ++ [[46, 46]] ++ [[46, 46]] := by simp [clStep]
theorem cl_none (wh : Bool) : clStep wh [] [46, 46] = if wh then [] else [[46, 46]] := by simp [clStep]
theorem snoc_of {α : Type} (l : List α) : l = [] ∨ ∃ m x, l = m ++ [x] := by
 rcases List.eq_nil_or_concat l with h | ⟨m, x, h⟩
 · exact .inl h
 · exact .inr ⟨m, x, by simpa using h⟩
theorem clean_len (wh : Bool) (ps : List (List UInt8)) : (clean wh ps).length ≤ ps.length := by
 have h := keptOf_le wh (ps.map bs)
 rw [keptOf_parts] at h
 simpa using h
theorem clean_take (wh : Bool) {ps : List (List UInt8)} {k : Nat} (h : k < ps.length) : clean wh (ps.take (k + 1)) = clStep wh (clean wh (ps.take k)) ps[k] := by
 rw [List.take_succ_eq_append_getElem h, clean_snoc]
theorem l2Clean_any (s : ByteArray) (w : World) (hs : s.size ≤ 1073741824) (h0 : 0 < s.size) : Calls Tryz.prog 141 #[.string s] w fun e w' => ∃ v, e = .returned v ∧ Lst w' w.heap.size v (cleanOf s.data.toList) ∧ Below w.heap.size w w' := by
 obtain ⟨i0, hi, hz0, hz1, hz2⟩ := info_parts strInfo
 have hpl := parts_le s.data.toList
 rw [aW9] at hpl
 have HW := qhZ (whole_at h0)
 go_enter Tryz.func141, Tryz.ntmps141
 go_wp2_with fail
 refine (l2Parts_any s _ hs).mono ?_
 rintro e w1 ⟨v, rfl, hL, hb1⟩
 obtain ⟨ps, hps⟩ : ∃ ps, ps = parts s.data.toList := ⟨_, rfl⟩
 rw [← hps] at hL hpl
 obtain ⟨wh, hwh⟩ : ∃ wh, wh = wholeB s.data.toList := ⟨_, rfl⟩
 have HC : Hid (cleanOf s.data.toList = clean wh ps) := qhZ (by rw [hps, hwh]; rfl)
 rw [← hwh] at HW
 clear hps hwh
 obtain ⟨o, c, rfl, hlc, hcm, hH⟩ := hL.read
 have HH := qhZ hH
 clear hH hL
 unfold maxLen at hcm
 go_wp2
 go_loopw [3, 10] (fun out i wr => ∃ k : Nat, k ≤ ps.length ∧ i = .int .i64 k ∧ Lst wr w1.heap.size out (clean wh (ps.take k)) ∧ Below w1.heap.size w1 wr) (fun _ i _ => ps.length - (intOf i).toNat)
 case atStart => exact ⟨0, Nat.zero_le _, rfl, Lst.nil _ _, Below.refl _ _⟩
 case round =>
   obtain ⟨k, hk, rfl, hL, hB⟩ := hrel
   have hfl : (clean wh (ps.take k)).length ≤ k := Nat.le_trans (clean_len _ _) (List.length_take_le _ _)
   by_cases hlt : k < ps.length
   · obtain ⟨g, off, rfl, hg, hc⟩ := HH.out k hlt
     have hcell : wr.cell? ⟨g, off + k, none⟩ = some (.string (bs ps[k])) := (hB.cell (p := ⟨g, off + k, none⟩) hg).trans hc
     have HST := qhZ (clean_take wh hlt)
     clear hc
     obtain ⟨cs, hcs⟩ : ∃ cs, cs = clean wh (ps.take k) := ⟨_, rfl⟩
     rw [← hcs] at hL hfl HST
     clear hcs
     by_cases h1 : ps[k] = [46]
     · rw [h1] at hcell HST
       have HE : Hid (clean wh (ps.take (k + 1)) = cs) := qhZ (by rw [HST.out, cl_dot])
       have hcell' : wr.cell? ⟨g, off + k, none⟩ = some (.string ⟨#[46]⟩) := hcell
       obtain ⟨o2, c2, e2, _⟩ := hL.read
       subst e2
       clear hcell h1 HST
       go_wp2
       go_roundw
       case rel => exact ⟨k + 1, hlt, by go_num, by rw [HE.out]; exact hL, hB⟩
       case measure => simp [intOf]; omega
     · by_cases h2 : ps[k] = [46, 46]
       · rw [h2] at hcell HST
         have hcell' : wr.cell? ⟨g, off + k, none⟩ = some (.string ⟨#[46, 46]⟩) := hcell
         clear hcell h1 h2
         rcases snoc_of cs with rfl | ⟨ds, d, rfl⟩
         · obtain ⟨o2, c2, e2, _⟩ := hL.read
           simp only [List.length_nil] at e2
           subst e2
           have hL2 : wr.ownsRow w1.heap.size 9 1 (.slice o2 0 c2) 0 [] := hL
           by_cases hw : (s[0]'h0) = 47
           · have hw' : ((s[0]'h0).toNat : Int) = 47 := by rw [hw]; rfl
             have HE : Hid (clean wh (ps.take (k + 1)) = []) := qhZ (by rw [HST.out, cl_none, HW.out, hw]; rfl)
             clear hw HST
             go_wp2
             go_roundw
             case rel => exact ⟨k + 1, hlt, by go_num, by rw [HE.out]; exact hL, hB⟩
             case measure => simp [intOf]; omega
           · have hw' : (((s[0]'h0).toNat : Int) == 47) = false := by simpa using not47 hw
             have HE : Hid (clean wh (ps.take (k + 1)) = [] ++ [[46, 46]]) := qhZ (by rw [HST.out, cl_none, HW.out]; simp [hw])
             clear hw HST
             go_wp2_with (at_builtin; refine wpList_append_own _ rfl _ _ 97 rfl w1.heap.size 9 i0 (.string ⟨#[]⟩) 1 16 Tryz.underlying97 hi hz0 hz1 hz2 rfl (by decide) _ _ _ rfl (hL2.alloc _) ⟨wr.heap.size, 0, none⟩ 1 1 [.string ⟨#[46, 46]⟩] rfl rfl (cell_one_new _ _ _) (by simp [Value.oneCell']) (by unfold maxLen; omega) (by omega) (by have := hB.size; simp; omega) ?_)
             intro v' w2 hown' hgrow _
             have hb2 := below_app hB hB.size hL2 hgrow
             have HL := qhZ (Lst.snoc (ps := []) (p := [46, 46]) (x := ⟨#[46, 46]⟩) rfl hown')
             clear hown' hgrow hL hL2
             go_wp2
             go_roundw
             case rel => exact ⟨k + 1, hlt, by go_num, by rw [HE.out]; exact HL.out, hb2⟩
             case measure => simp [intOf]; omega
         · obtain ⟨g2, cap, rfl, hlc2, hcm2, hlast⟩ := lst_last hL
           unfold maxLen at hcm2
           simp only [List.length_append, List.length_cons, List.length_nil, Nat.zero_add] at hfl
           by_cases hd : d = [46, 46]
           · subst hd
             have hlast' : wr.cell? ⟨g2, ds.length, none⟩ = some (.string ⟨#[46, 46]⟩) := hlast
             clear hlast
             have hL2 : wr.ownsRow w1.heap.size 9 1 (.slice (some ⟨g2, 0, none⟩) (ds.length + 1) cap) (ds.length + 1) (strs (ds ++ [[46, 46]])) := by simpa [Lst] using hL
             by_cases hw : (s[0]'h0) = 47
             · have hw' : ((s[0]'h0).toNat : Int) = 47 := by rw [hw]; rfl
               have HE : Hid (clean wh (ps.take (k + 1)) = ds ++ [[46, 46]]) := qhZ (by rw [HST.out, cl_stay, HW.out, hw]; rfl)
               clear hw HST
               go_wp2
               go_roundw
               case rel => exact ⟨k + 1, hlt, by go_num, by rw [HE.out]; exact hL, hB⟩
               case measure => simp [intOf]; omega
             · have hw' : (((s[0]'h0).toNat : Int) == 47) = false := by simpa using not47 hw
               have HE : Hid (clean wh (ps.take (k + 1)) = ds ++ [[46, 46]] ++ [[46, 46]]) := qhZ (by rw [HST.out, cl_stay, HW.out]; simp [hw])
               clear hw HST
               go_wp2_with (at_builtin; refine wpList_append_own _ rfl _ _ 97 rfl w1.heap.size 9 i0 (.string ⟨#[]⟩) 1 16 Tryz.underlying97 hi hz0 hz1 hz2 rfl (by decide) _ _ _ rfl (hL2.alloc _) ⟨wr.heap.size, 0, none⟩ 1 1 [.string ⟨#[46, 46]⟩] rfl rfl (cell_one_new _ _ _) (by simp [Value.oneCell']) (by unfold maxLen; omega) (by omega) (by have := hB.size; simp; omega) ?_)
               intro v' w2 hown' hgrow _
               have hb2 := below_app hB hB.size hL2 hgrow
               have HL := qhZ (Lst.snoc (ps := ds ++ [[46, 46]]) (p := [46, 46]) (x := ⟨#[46, 46]⟩) rfl (by simpa using hown'))
               clear hown' hgrow hL hL2
               go_wp2
               go_roundw
               case rel => exact ⟨k + 1, hlt, by go_num, by rw [HE.out]; exact HL.out, hb2⟩
               case measure => simp [intOf]; omega
           · have HE : Hid (clean wh (ps.take (k + 1)) = ds) := qhZ (by rw [HST.out, cl_pop _ _ hd])
             have t1 := text_neq hd
             obtain ⟨y, hy⟩ : ∃ y, y = bs d := ⟨_, rfl⟩
             rw [← hy] at hlast t1
             have HL := qhZ (cut_row hL)
             clear hd HST hy hL
             go_wp2
             go_roundw
             case rel => exact ⟨k + 1, hlt, by go_num, by rw [HE.out]; exact HL.out, hB⟩
             case measure => simp [intOf]; omega
       · have HE : Hid (clean wh (ps.take (k + 1)) = cs ++ [ps[k]]) := qhZ (by rw [HST.out, cl_name _ _ h1 h2])
         have t1 := text_neq h1
         have t2 := text_neq h2
         obtain ⟨x, hx⟩ : ∃ x, x = bs ps[k] := ⟨_, rfl⟩
         rw [← hx] at hcell t1 t2
         have HX := qhZ hx
         obtain ⟨o2, c2, e2, _⟩ := hL.read
         subst e2
         clear h1 h2 HST hx
         go_wp2_with (at_builtin; refine wpList_append_own _ rfl _ _ 97 rfl w1.heap.size 9 i0 (.string ⟨#[]⟩) 1 16 Tryz.underlying97 hi hz0 hz1 hz2 rfl (by decide) _ _ _ rfl (hL.alloc _) ⟨wr.heap.size, 0, none⟩ 1 1 [.string x] rfl rfl (cell_one_new _ _ _) (by simp [Value.oneCell']) (by unfold maxLen; omega) (by omega) (by have := hB.size; simp; omega) ?_)
         intro v' w2 hown' hgrow _
         have hb2 := below_app hB hB.size hL hgrow
         have HL := qhZ (Lst.snoc HX.out hown')
         clear hown' hgrow hL
         go_wp2
         go_roundw
         case rel => exact ⟨k + 1, hlt, by go_num, by rw [HE.out]; exact HL.out, hb2⟩
         case measure => simp [intOf]; omega
   · have HF : Hid (clean wh (ps.take k) = cleanOf s.data.toList) := qhZ (by rw [HC.out, List.take_of_length_le (by omega)])
     go_wp2
     go_ret
     refine ⟨_, rfl, ?_, hb1.trans (hB.mono hb1.size)⟩
     rw [HF.out] at hL
     exact lst_mono hL hb1.size
def baseL (l : List UInt8) : List UInt8 := if (cleanOf l).getLast? = some [46, 46] then [] else (cleanOf l).getLast?.getD []
theorem baseL_snoc {l : List UInt8} {qs : List (List UInt8)} {p : List UInt8} (h : cleanOf l = qs ++ [p]) : baseL l = if p = [46, 46] then [] else p := by
 unfold baseL; rw [h]; simp
theorem l2Last_any (s : ByteArray) (w : World) (hs : s.size ≤ 1073741824) (h0 : 0 < s.size) : Calls Tryz.prog 103 #[.string s] w fun e w' => e = .returned (.string (bs (baseL s.data.toList))) ∧ Below w.heap.size w w' := by
 go_enter Tryz.func103, Tryz.ntmps103
 go_wp2_with fail
 refine (l2Clean_any _ _ hs h0).mono ?_
 rintro e w1 ⟨v, rfl, hL, hb1⟩
 rcases snoc_of (cleanOf s.data.toList) with hn | ⟨ds, d, hn⟩
 · have HB : Hid (baseL s.data.toList = []) := qhZ (by simp [baseL, hn])
   rw [hn] at hL
   obtain ⟨o, c, e0, _⟩ := hL.read
   simp only [List.length_nil] at e0
   subst e0
   clear hn hL
   go_wp2
   go_ret
   exact ⟨by rw [HB.out]; rfl, hb1⟩
 · have HB := qhZ (baseL_snoc hn)
   rw [hn] at hL
   obtain ⟨g, cap, rfl, hlc, hcm, hlast⟩ := lst_last hL
   unfold maxLen at hcm
   clear hn hL
   by_cases hd : d = [46, 46]
   · have HB2 : Hid (baseL s.data.toList = []) := qhZ (by rw [HB.out, if_pos hd])
     subst hd
     have hlast' : w1.cell? ⟨g, ds.length, none⟩ = some (.string ⟨#[46, 46]⟩) := hlast
     clear hlast HB
     go_wp2
     go_ret
     exact ⟨by rw [HB2.out]; rfl, hb1⟩
   · have HB2 : Hid (baseL s.data.toList = d) := qhZ (by rw [HB.out, if_neg hd])
     have t1 := text_neq hd
     obtain ⟨x, hx⟩ : ∃ x, x = bs d := ⟨_, rfl⟩
     rw [← hx] at hlast t1
     have HX := qhZ hx
     clear hd hx HB
     go_wp2
     go_ret
     exact ⟨by rw [HB2.out, ← HX.out]; rfl, hb1⟩
end Go.Proofs.YtknhacblialboaaGreatDoor
