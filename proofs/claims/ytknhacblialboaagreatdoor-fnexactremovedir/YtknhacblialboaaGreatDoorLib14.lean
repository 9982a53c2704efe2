/-
  Joined: SrcE SrcF.
  Conditions: as each states.
-/
import Derived.Deep.RegionHeld3
import Derived.Deep.MidRow
import Derived.Test.YtknhacblialboaaGreatDoorLib13
namespace Go.Proofs.YtknhacblialboaaGreatDoor
open Go.ChangeShapes Go.WideShapes Go.ChangeAt Go.RowKit Go.Joins
set_option linter.unusedVariables false
set_option linter.unusedSimpArgs false
set_option maxHeartbeats 16000000
theorem isWholePath_is {s : ByteArray} {b : Bool} {w : World} (h : wgB s.data.toList = b) (hs : s.size ≤ 1073741824) : Calls Tryz.prog 115 #[.string s] w fun e w' => e = .returned (.bool b) ∧ Below w.heap.size w w' := by
 rw [← h]; exact isWholePath_any s w hs
theorem hasSlash_is {s : ByteArray} {b : Bool} {w : World} (h : slashB s.data.toList = b) (h0 : 0 < s.size) (hs : s.size ≤ 1073741824) : Calls Tryz.prog 116 #[.string s, .string ⟨#[47]⟩] w fun e w' => e = .returned (.bool b) ∧ w = w' := by
 rw [← h]; exact hasSlash_any s w h0 hs
theorem setCells_only (b : Nat) : ∀ (vs : List Value) (o : Nat) (w : World), OnlyG w (w.setCells b o vs) b ∧ Below b w (w.setCells b o vs)
 | [], _, w => ⟨OnlyG.below b (Below.refl _ _), Below.refl _ _⟩
 | v :: vs, o, w => by
   obtain ⟨h1, h2⟩ := setCells_only b vs (o + 1) (w.setCell ⟨b, o, none⟩ v)
   exact ⟨((OnlyG.below b (Below.refl _ w)).set o v).trans h1, ((Below.refl b w).setCell (p := ⟨b, o, none⟩) (Nat.le_refl _) v).trans h2⟩
theorem setCells_8 (b : Nat) (T : TypeId) (w : World) (a0 a1 a2 a3 a4 a5 a6 a7 v0 v1 v2 v3 v4 v5 v6 v7 : Value) (h : w.heap[b]? = some (.cells #[a0, a1, a2, a3, a4, a5, a6, a7] T (0, 0))) :
   (w.setCells b 0 [v0, v1, v2, v3, v4, v5, v6, v7]).heap[b]? = some (.cells #[v0, v1, v2, v3, v4, v5, v6, v7] T (0, 0)) := by
 have h0 : (w.setCell ⟨b, 0, none⟩ v0).heap[b]? = some (.cells #[v0, a1, a2, a3, a4, a5, a6, a7] T (0, 0)) := heap_setCell_same _ b 0 _ _ v0 h
 have h1 : ((w.setCell ⟨b, 0, none⟩ v0).setCell ⟨b, 1, none⟩ v1).heap[b]? = some (.cells #[v0, v1, a2, a3, a4, a5, a6, a7] T (0, 0)) := heap_setCell_same _ b 1 _ _ v1 h0
 have h2 : (((w.setCell ⟨b, 0, none⟩ v0).setCell ⟨b, 1, none⟩ v1).setCell ⟨b, 2, none⟩ v2).heap[b]? = some (.cells #[v0, v1, v2, a3, a4, a5, a6, a7] T (0, 0)) := heap_setCell_same _ b 2 _ _ v2 h1
 have h3 : ((((w.setCell ⟨b, 0, none⟩ v0).setCell ⟨b, 1, none⟩ v1).setCell ⟨b, 2, none⟩ v2).setCell ⟨b, 3, none⟩ v3).heap[b]? = some (.cells #[v0, v1, v2, v3, a4, a5, a6, a7] T (0, 0)) := heap_setCell_same _ b 3 _ _ v3 h2
 have h4 : (((((w.setCell ⟨b, 0, none⟩ v0).setCell ⟨b, 1, none⟩ v1).setCell ⟨b, 2, none⟩ v2).setCell ⟨b, 3, none⟩ v3).setCell ⟨b, 4, none⟩ v4).heap[b]? = some (.cells #[v0, v1, v2, v3, v4, a5, a6, a7] T (0, 0)) := heap_setCell_same _ b 4 _ _ v4 h3
 have h5 : ((((((w.setCell ⟨b, 0, none⟩ v0).setCell ⟨b, 1, none⟩ v1).setCell ⟨b, 2, none⟩ v2).setCell ⟨b, 3, none⟩ v3).setCell ⟨b, 4, none⟩ v4).setCell ⟨b, 5, none⟩ v5).heap[b]? = some (.cells #[v0, v1, v2, v3, v4, v5, a6, a7] T (0, 0)) := heap_setCell_same _ b 5 _ _ v5 h4
 have h6 : (((((((w.setCell ⟨b, 0, none⟩ v0).setCell ⟨b, 1, none⟩ v1).setCell ⟨b, 2, none⟩ v2).setCell ⟨b, 3, none⟩ v3).setCell ⟨b, 4, none⟩ v4).setCell ⟨b, 5, none⟩ v5).setCell ⟨b, 6, none⟩ v6).heap[b]? = some (.cells #[v0, v1, v2, v3, v4, v5, v6, a7] T (0, 0)) := heap_setCell_same _ b 6 _ _ v6 h5
 have h7 : ((((((((w.setCell ⟨b, 0, none⟩ v0).setCell ⟨b, 1, none⟩ v1).setCell ⟨b, 2, none⟩ v2).setCell ⟨b, 3, none⟩ v3).setCell ⟨b, 4, none⟩ v4).setCell ⟨b, 5, none⟩ v5).setCell ⟨b, 6, none⟩ v6).setCell ⟨b, 7, none⟩ v7).heap[b]? = some (.cells #[v0, v1, v2, v3, v4, v5, v6, v7] T (0, 0)) := heap_setCell_same _ b 7 _ _ v7 h6
 exact h7
theorem there_blk {w : World} {b : Nat} {T : TypeId} {cs : Array Value} (h : w.heap[b]? = some (.cells cs T (0, 0))) : w.there b 0 cs.size := by
 intro j hj
 have hc := aA9 h (0 + j)
 have hf := aE9 h (0 + j)
 refine ⟨?_, hf⟩
 rw [hc]
 simp [hj]
theorem mayB_none (u g m uid gid : Int) : mayB u g m uid gid 0 = true := by
 unfold mayB
 have : bits BinOp.and IntKind.i64 (tri u g m uid gid) 0 = 0 := by simp [bits]; rfl
 rw [this]; simp
theorem dirC_none (q : Nod) (u g : Int) : dirC q u g 0 = if q.kind ≠ 2 then 3 else 0 := by
 unfold dirC
 rw [mayB_none]; simp
theorem errV_not (p : ByteArray) {c : Int} (h : c ≠ 0) : errV p c = .iface 120 (.agg #[.string p, .iface 105 (.agg #[.int .i64 c])]) := by unfold errV; rw [if_neg h]; rfl
set_option maxRecDepth 100000 in
theorem nodeAt_f (f : FsD) (v : Value) (u g : Int) (s : ByteArray) (w : World) (hR : FsA w v f) (hgood : goodF f = true) (hcred : credB u g = true) (hsz : szF f ≤ 1048576) (hss : s.size ≤ 1048576) (hw : wgB s.data.toList = true) :
   Calls Tryz.prog 83 #[v, .agg #[.int .i64 u, .int .i64 g], .string s, .bool false] w fun e w' => e = .returned (.tuple #[.int .i64 ((bK9 f.nodes u g s.data.toList false).2 : Nat), errV s (bK9 f.nodes u g s.data.toList false).1]) ∧ Below w.heap.size w w' := by
 obtain ⟨nv, rfl, hN⟩ := hR
 have HN := qhZ hN
 obtain ⟨o, c, rfl, hm, hH⟩ := hN
 unfold maxLen at hm
 have hl : f.nodes.length ≤ 1048576 := (aG9 hsz).1
 have hszn : szNs f.nodes ≤ 1048576 := by unfold szF at hsz; omega
 have HBx : Hid (∀ a b, Below w.heap.size w ((w.alloc a).alloc b)) := qhZ (fun a b => ((Below.refl _ _).alloc (Nat.le_refl _) _).alloc (by simp) _)
 have KA0 := qhZ (alloc3_fst' w (.cells #[.slice o f.nodes.length c, .int .i64 f.room] 30) (.cells #[.int .i64 u, .int .i64 g] 34))
 have KB0 := qhZ (alloc3_snd' w (.cells #[.slice o f.nodes.length c, .int .i64 f.room] 30) (.cells #[.int .i64 u, .int .i64 g] 34))
 have HLK := qhZ (look_of hgood hsz)
 have HW := qhZ hw
 have hgd : goodB s.data.toList = true ∧ wholeB s.data.toList = true := by
   unfold wgB at hw
   simp only [Bool.and_eq_true] at hw
   exact ⟨hw.2, hw.1⟩
 have HGD := qhZ hgd
 have h60 : 0 < s.size ∧ s.size ≤ 60 := by
   have h1 := hgd.1
   simp [goodB] at h1
   omega
 obtain ⟨hs0, hs60⟩ := h60
 obtain ⟨sl, hsl⟩ : ∃ sl, slashB s.data.toList = sl := ⟨_, rfl⟩
 have HSL := qhZ hsl
 have hss2 : s.size ≤ 1073741824 := by omega
 clear hw hgd hH hsl
 go_enter Tryz.func83, Tryz.ntmps83
 go_wp2_with fail
 refine (isWholePath_is HW.out hss2).mono ?_
 rintro e w1 ⟨rfl, hb1⟩
 have HB1 := qhZ ((HBx.out _ _).trans (hb1.mono (HBx.out _ _).size))
 have KA1 := qhZ ((hb1.block w.heap.size (aB9 KA0.out)).trans KA0.out)
 have KB1 := qhZ ((hb1.block (w.heap.size + 1) (aB9 KB0.out)).trans KB0.out)
 clear hb1
 go_wp2_with fail
 refine (hasSlash_is HSL.out hs0 hss2).mono ?_
 rintro e w1' ⟨rfl, rfl⟩
 have D0 : Below w1.heap.size w1 w1.drew := (Below.refl _ w1).drew
 have HD0 := qhZ D0
 have HD1 : Hid (∀ z, Below w1.heap.size w1 (w1.drew.alloc z)) := qhZ (fun z => D0.alloc D0.size z)
 have x0 : w1.cell? ⟨w.heap.size, 0, none⟩ = some (.slice o f.nodes.length c) := aA9 KA1.out 0
 have y0 : w1.cell? ⟨w.heap.size + 1, 0, none⟩ = some (.int .i64 u) := aA9 KB1.out 0
 have y1 : w1.cell? ⟨w.heap.size + 1, 1, none⟩ = some (.int .i64 g) := aA9 KB1.out 1
 have x0d : w1.drew.cell? ⟨w.heap.size, 0, none⟩ = some (.slice o f.nodes.length c) := x0
 have y0d : w1.drew.cell? ⟨w.heap.size + 1, 0, none⟩ = some (.int .i64 u) := y0
 have y1d : w1.drew.cell? ⟨w.heap.size + 1, 1, none⟩ = some (.int .i64 g) := y1
 have x0a : ∀ z, (w1.drew.alloc z).cell? ⟨w.heap.size, 0, none⟩ = some (.slice o f.nodes.length c) := fun z => ((HD1.out z).cell (p := ⟨w.heap.size, 0, none⟩) (aB9 KA1.out)).trans x0
 have y0a : ∀ z, (w1.drew.alloc z).cell? ⟨w.heap.size + 1, 0, none⟩ = some (.int .i64 u) := fun z => ((HD1.out z).cell (p := ⟨w.heap.size + 1, 0, none⟩) (aB9 KB1.out)).trans y0
 have y1a : ∀ z, (w1.drew.alloc z).cell? ⟨w.heap.size + 1, 1, none⟩ = some (.int .i64 g) := fun z => ((HD1.out z).cell (p := ⟨w.heap.size + 1, 1, none⟩) (aB9 KB1.out)).trans y1
 have HPL : Hid (∀ X, Below w1.heap.size w1 X → Calls Tryz.prog 117 #[.slice o f.nodes.length c] X fun e w' => ∃ G k, e = .returned (.slice (some ⟨G, 0, none⟩) f.nodes.length k) ∧ X.heap.size ≤ G ∧ k ≤ maxLen ∧ RowAt w' G (f.nodes.length * 3) 163 (plF (bH9 f.nodes)) ∧ Below X.heap.size X w' ∧ Below w1.heap.size w1 w') := qhZ (fun X hX => (placesIn_any f.nodes _ X (HN.out.below (HB1.out.trans (hX.mono HB1.out.size))) hszn hl HLK.out.1.lead).mono (by
   rintro e w' ⟨uu, rfl, ⟨G, k, rfl, -, hk, hG, hr⟩, hb⟩
   exact ⟨G, k, rfl, hG, hk, hr, hb, hX.trans (hb.mono hX.size)⟩))
 clear D0
 have hne1 : w1.heap.size ≠ w.heap.size := Nat.ne_of_gt (aB9 KA1.out)
 have hne2 : w1.heap.size ≠ w.heap.size + 1 := Nat.ne_of_gt (aB9 KB1.out)
 have hne3 : w.heap.size ≠ w1.heap.size := Nat.ne_of_lt (aB9 KA1.out)
 have hne4 : w.heap.size + 1 ≠ w1.heap.size := Nat.ne_of_lt (aB9 KB1.out)
 go_wp2
 refine wp_region_noPanic ?_
 refine wp_region_held_drew (S := (fun w' => w'.cell? ⟨w.heap.size, 0, none⟩ = some (.slice o f.nodes.length c) ∧ w'.cell? ⟨w.heap.size + 1, 0, none⟩ = some (.int .i64 u) ∧ w'.cell? ⟨w.heap.size + 1, 1, none⟩ = some (.int .i64 g))) (by kernel_rfl) ⟨x0d, y0d, y1d⟩ (fun hHeld => ?_)
 refine wpAnyH_take (i := 0) (v := ?_) rfl (by kernel_rfl) (by kernel_rfl) (by kernel_rfl) (fun _ _ _ h => h) (Or.inl ⟨by rfl, ?_⟩) (by assumption) ?_
 rotate_left
 · (intro w9 hSw; obtain ⟨g1, g2, g3⟩ := hSw; go_simp; try with_reducible rfl)
 try simp only [Act.put, List.setIfInBounds_toArray, List.set_cons_zero, List.set_cons_succ]
 refine wpAnyH_take (i := 1) (v := ?_) rfl (by kernel_rfl) (by kernel_rfl) (by kernel_rfl) (fun _ _ _ h => h) (Or.inl ⟨by rfl, ?_⟩) (by assumption) ?_
 rotate_left
 · (intro w9 hSw; obtain ⟨g1, g2, g3⟩ := hSw; go_simp; try with_reducible rfl)
 try simp only [Act.put, List.setIfInBounds_toArray, List.set_cons_zero, List.set_cons_succ]
 refine wpAnyH_take (i := 2) (v := ?_) rfl (by kernel_rfl) (by kernel_rfl) (by kernel_rfl) (fun _ _ _ h => h) (Or.inl ⟨by rfl, ?_⟩) (by assumption) ?_
 rotate_left
 · (intro w9 hSw; obtain ⟨g1, g2, g3⟩ := hSw; go_simp; try with_reducible rfl)
 try simp only [Act.put, List.setIfInBounds_toArray, List.set_cons_zero, List.set_cons_succ]
 refine wpAnyH_take (i := 3) (v := ?_) rfl (by kernel_rfl) (by kernel_rfl) (by kernel_rfl) (fun _ _ _ h => h) (Or.inl ⟨by rfl, ?_⟩) (by assumption) ?_
 rotate_left
 · (intro w9 hSw; obtain ⟨g1, g2, g3⟩ := hSw; go_simp; try with_reducible rfl)
 try simp only [Act.put, List.setIfInBounds_toArray, List.set_cons_zero, List.set_cons_succ]
 refine wpAnyH_take (i := 5) (v := ?_) rfl (by kernel_rfl) (by kernel_rfl) (by kernel_rfl) (fun _ _ _ h => h) (Or.inl ⟨by rfl, ?_⟩) (by assumption) ?_
 rotate_left
 · (intro w9 hSw; obtain ⟨g1, g2, g3⟩ := hSw; go_simp; try with_reducible rfl)
 try simp only [Act.put, List.setIfInBounds_toArray, List.set_cons_zero, List.set_cons_succ]
 refine wpAnyH_take (i := 6) (v := ?_) rfl (by kernel_rfl) (by kernel_rfl) (by kernel_rfl) (fun _ _ _ h => h) (Or.inl ⟨by rfl, ?_⟩) (by assumption) ?_
 rotate_left
 · (intro w9 hSw; obtain ⟨g1, g2, g3⟩ := hSw; go_simp; try with_reducible rfl)
 try simp only [Act.put, List.setIfInBounds_toArray, List.set_cons_zero, List.set_cons_succ]
 refine wpAnyH_ready (rs := [4, 11]) (by kernel_rfl) (by simp) ?_
 refine AllReadyH.cons rfl (fun K hK => ?_) (AllReadyH.cons rfl (fun K hK => ?_) AllReadyH.nil)
 · go_simp
   refine (HPL.out _ HD0.out).mono ?_
   rintro e wP ⟨G, k, rfl, hGX, hkm, hrow, hbX, hbP⟩; have HRW := qhZ hrow; have HBX := qhZ hbX; have HBP := qhZ hbP; have HGX := qhZ hGX; have x0P : wP.cell? ⟨w.heap.size, 0, none⟩ = some (.slice o f.nodes.length c) := (hbP.cell (p := ⟨w.heap.size, 0, none⟩) (aB9 KA1.out)).trans x0; have y0P : wP.cell? ⟨w.heap.size + 1, 0, none⟩ = some (.int .i64 u) := (hbP.cell (p := ⟨w.heap.size + 1, 0, none⟩) (aB9 KB1.out)).trans y0; have y1P : wP.cell? ⟨w.heap.size + 1, 1, none⟩ = some (.int .i64 g) := (hbP.cell (p := ⟨w.heap.size + 1, 1, none⟩) (aB9 KB1.out)).trans y1; have x0Q : ∀ z, (wP.alloc z).cell? ⟨w.heap.size, 0, none⟩ = some (.slice o f.nodes.length c) := fun z => (((Below.refl _ wP).alloc (Nat.le_refl _) z).cell (p := ⟨w.heap.size, 0, none⟩) (Nat.lt_of_lt_of_le (aB9 KA1.out) hbP.size)).trans x0P; have y0Q : ∀ z, (wP.alloc z).cell? ⟨w.heap.size + 1, 0, none⟩ = some (.int .i64 u) := fun z => (((Below.refl _ wP).alloc (Nat.le_refl _) z).cell (p := ⟨w.heap.size + 1, 0, none⟩) (Nat.lt_of_lt_of_le (aB9 KB1.out) hbP.size)).trans y0P; have y1Q : ∀ z, (wP.alloc z).cell? ⟨w.heap.size + 1, 1, none⟩ = some (.int .i64 g) := fun z => (((Below.refl _ wP).alloc (Nat.le_refl _) z).cell (p := ⟨w.heap.size + 1, 1, none⟩) (Nat.lt_of_lt_of_le (aB9 KB1.out) hbP.size)).trans y1P; clear hrow hbX hbP hGX
   go_wp2_with fail
   refine hK.out _ _ ⟨x0P, y0P, y1P⟩ (fun hHeld => ?_)
   clear hK K
   refine wpAnyH_take (i := 7) (v := ?_) rfl (by kernel_rfl) (by kernel_rfl) (by kernel_rfl) (fun _ _ _ h => h) (Or.inl ⟨by rfl, ?_⟩) (by assumption) ?_
   rotate_left
   · (intro w9 hSw; obtain ⟨g1, g2, g3⟩ := hSw; go_simp; try with_reducible rfl)
   try simp only [Act.put, List.setIfInBounds_toArray, List.set_cons_zero, List.set_cons_succ]
   refine wpAnyH_take (i := 8) (v := ?_) rfl (by kernel_rfl) (by kernel_rfl) (by kernel_rfl) (fun _ _ _ h => h) (Or.inl ⟨by rfl, ?_⟩) (by assumption) ?_
   rotate_left
   · (intro w9 hSw; obtain ⟨g1, g2, g3⟩ := hSw; go_simp; try with_reducible rfl)
   try simp only [Act.put, List.setIfInBounds_toArray, List.set_cons_zero, List.set_cons_succ]
   refine wpAnyH_take (i := 9) (v := ?_) rfl (by kernel_rfl) (by kernel_rfl) (by kernel_rfl) (fun _ _ _ h => h) (Or.inl ⟨by rfl, ?_⟩) (by assumption) ?_
   rotate_left
   · (intro w9 hSw; obtain ⟨g1, g2, g3⟩ := hSw; go_simp; try with_reducible rfl)
   try simp only [Act.put, List.setIfInBounds_toArray, List.set_cons_zero, List.set_cons_succ]
   refine wpAnyH_take (i := 10) (v := ?_) rfl (by kernel_rfl) (by kernel_rfl) (by kernel_rfl) (fun _ _ _ h => h) (Or.inl ⟨by rfl, ?_⟩) (by assumption) ?_
   rotate_left
   · (intro w9 hSw; obtain ⟨g1, g2, g3⟩ := hSw; go_simp; try with_reducible rfl)
   try simp only [Act.put, List.setIfInBounds_toArray, List.set_cons_zero, List.set_cons_succ]
   refine wpAnyH_ready (rs := [11]) (by kernel_rfl) (by simp) ?_
   refine AllReadyH.cons rfl (fun K hK => ?_) AllReadyH.nil
   go_simp
   refine hK.out _ _ ⟨x0Q _, y0Q _, y1Q _⟩ (fun hHeld => ?_)
   clear hK K
   refine wpAnyH_ready (rs := [12]) (by kernel_rfl) (by simp) ?_
   refine AllReadyH.cons rfl (fun K hK => ?_) AllReadyH.nil
   go_simp
   refine hK.out _ _ ⟨x0Q _, y0Q _, y1Q _⟩ (fun hHeld => ?_)
   clear hK K
   refine wpAnyH_done (by kernel_rfl) ?_ _
   refine NoPanic.normal ?_
   obtain ⟨W, hW⟩ : ∃ W, wP.alloc (.cells #[.slice o f.nodes.length c, .slice (some ⟨G, 0, none⟩) f.nodes.length k, .int .i64 u, .int .i64 g, .bool sl, .int .i64 0, .slice none 0 0, .int .i64 0] 147) = W := ⟨_, rfl⟩
   have hWk : W.heap[wP.heap.size]? = some (.cells (skCells o f.nodes.length c G k u g sl 0 (.slice none 0 0) 0) 147 (0, 0)) := by rw [← hW]; exact heap_alloc_new wP _
   have hWb : Below w1.heap.size w1 W := by rw [← hW]; exact HBP.out.alloc HBP.out.size _
   have hWr : RowAt W G (f.nodes.length * 3) 163 (plF (bH9 f.nodes)) := by rw [← hW]; exact HRW.out.alloc _
   have hGb : G ≠ wP.heap.size := Nat.ne_of_lt HRW.out.lt
   have hwb : w.heap.size ≤ wP.heap.size := Nat.le_trans HB1.out.size HBP.out.size
   have HSK : Hid (SkAt W wP.heap.size o f.nodes.length c G k u g sl ⟨0, [], 0⟩) := qhZ ⟨_, hWk, Rd.nil W, fun a l k e => by cases e⟩
   have HWB := qhZ (HB1.out.trans (hWb.mono HB1.out.size))
   have KAW := qhZ ((hWb.block w.heap.size (aB9 KA1.out)).trans KA1.out)
   have KBW := qhZ ((hWb.block (w.heap.size + 1) (aB9 KB1.out)).trans KB1.out)
   have HWR := qhZ hWr
   have HWbl := qhZ (aB9 hWk)
   have hnA : w.heap.size ≠ wP.heap.size := Nat.ne_of_lt (Nat.lt_of_lt_of_le (aB9 KA1.out) HBP.out.size)
   have hnB : w.heap.size + 1 ≠ wP.heap.size := Nat.ne_of_lt (Nat.lt_of_lt_of_le (aB9 KB1.out) HBP.out.size)
   rw [hW]
   clear hW hWk hWb hWr HBP HBX HGX HRW hHeld x0 y0 y1 x0d y0d y1d x0a y0a y1a x0P y0P y1P x0Q y0Q y1Q HPL
   have HI0 : Hid (LkInv f.nodes ⟨0, parts s.data.toList ++ [], 0⟩) := qhZ ⟨HLK.out.1.pos, Nat.zero_le _, by have h7 := parts_le s.data.toList; rw [aW9] at h7; simp only [List.append_nil]; omega⟩
   have HFI := qhZ (lkFind_is (ns := f.nodes) (u := u) (g := g) (fol := false) HGD.out)
   rw [HSL.out] at HFI
   simp only [Bool.false_or, Bool.true_or] at HFI
   go_wp2_with fail
   refine (putAhead_any s wP.heap.size o _ c G k u g sl ⟨0, [], 0⟩ _ hss (by simp) HSK.out).mono ?_
   rintro e w4 ⟨⟨xv, rfl⟩, hS4, hO4, hB4⟩
   have HS4 := qhZ hS4
   have HB4 := qhZ (HWB.out.trans (hB4.mono hwb))
   have KA4 := qhZ ((hO4.2 w.heap.size (aB9 KAW.out) hnA).trans KAW.out)
   have KB4 := qhZ ((hO4.2 (w.heap.size + 1) (aB9 KBW.out) hnB).trans KBW.out)
   have HR4 := qhZ (HWR.out.of_block (hO4.2 G HWR.out.lt hGb))
   have HBl4 := qhZ (Nat.lt_of_lt_of_le HWbl.out hO4.1)
   clear hS4 hO4 hB4
   go_wp2_with fail
   refine (run_any f o c G k u g sl wP.heap.size _ w _ hgood hcred hsz HN.out HB4.out hwb HS4.out HI0.out HR4.out hGb).mono ?_
   rintro e w5 ⟨rfl, hO5, hB5, hA5⟩
   simp only [List.append_nil] at hA5 ⊢
   have HB5 := qhZ (HB4.out.trans (hB5.mono hwb))
   have KA5 := qhZ ((hO5.2 w.heap.size (aB9 KA4.out) hnA).trans KA4.out)
   have KB5 := qhZ ((hO5.2 (w.heap.size + 1) (aB9 KB4.out) hnB).trans KB4.out)
   have hbl5 : wP.heap.size < w5.heap.size := Nat.lt_of_lt_of_le HBl4.out hO5.1
   have HA5 := qhZ hA5
   have hlt : (lkGo f.nodes u g sl ⟨0, parts s.data.toList, 0⟩).2 < f.nodes.length := lkRun_lt HLK.out.1.fit HLK.out.1.lead HLK.out.1.pos u g sl _ _ (by have h7 := HI0.out; rw [List.append_nil] at h7; exact h7)
   clear hO5 hB5 hA5
   obtain ⟨q, hq⟩ : ∃ q, lkGo f.nodes u g sl ⟨0, parts s.data.toList, 0⟩ = q := ⟨_, rfl⟩
   rw [hq] at HA5 HFI hlt
   rw [hq]
   clear hq
   obtain ⟨cd, nd⟩ := q
   simp only at HA5 HFI hlt
   by_cases hc : cd = 0
   case neg =>
     have HFD : Hid (bK9 f.nodes u g s.data.toList false = (cd, 0)) := qhZ (by rw [HFI.out]; simp [hc])
     have HEV := qhZ (errV_not s hc)
     have HEC := qhZ (errC_not hc)
     rw [HEC.out]
     go_wp2
     go_ret2
     exact ⟨by rw [HFD.out, HEV.out]; rfl, HB5.out⟩
   subst hc
   have m5 := HA5.out rfl
   rw [errC_zero]
   cases sl with
   | false =>
     have HFD : Hid (bK9 f.nodes u g s.data.toList false = (0, nd)) := qhZ (by rw [HFI.out]; simp)
     go_wp2
     go_ret2
     exact ⟨by rw [HFD.out]; rfl, HB5.out⟩
   | true =>
     have m0 : w5.cell? ⟨w.heap.size, 0, none⟩ = some (.slice o f.nodes.length c) := aA9 KA5.out 0
     have m1 : w5.cell? ⟨w.heap.size + 1, 0, none⟩ = some (.int .i64 u) := aA9 KB5.out 0
     have m2 : w5.cell? ⟨w.heap.size + 1, 1, none⟩ = some (.int .i64 g) := aA9 KB5.out 1
     obtain ⟨o5, c5, e5, -, hH5⟩ := HN.out.below HB5.out
     simp only [Value.slice.injEq, true_and] at e5
     obtain ⟨rfl, rfl⟩ := e5
     obtain ⟨g5, f5, l5, rfl, hg5, hc5, -, -⟩ := hH5 nd hlt
     have hqe : f.nodes[nd] = aC9 f.nodes nd := (aR9 hlt).symm
     rw [hqe] at hc5
     have HC5 := qhZ hc5
     have HAS : Hid ((aC9 f.nodes nd).kind = 2 → askB u g (aC9 f.nodes nd).mode (aC9 f.nodes nd).uid (aC9 f.nodes nd).gid 0 = true) := qhZ (fun h => good_ask hgood hcred (by decide) hlt h)
     have HDN := qhZ (dirC_none (aC9 f.nodes nd) u g)
     obtain ⟨nq, hnq⟩ : ∃ nq, nq = aC9 f.nodes nd := ⟨_, rfl⟩
     have HNQ := qhZ hnq
     rw [← hnq] at HC5 HAS HDN
     clear hH5 hc5 hqe hnq
     by_cases hk : nq.kind = 2
     · have HFD : Hid (bK9 f.nodes u g s.data.toList false = (0, nd)) := qhZ (by rw [HFI.out]; simp [← HNQ.out, hk])
       have HV : Hid (errC (dirC nq u g 0) = .nilIface) := qhZ (by rw [HDN.out, if_neg (by simp [hk])]; rfl)
       have z0 := fun d os => cell_regrown (w := w5) m0 d os
       have z1 := fun d os => cell_regrown (w := w5) m1 d os
       have z2 := fun d os => cell_regrown (w := w5) m2 d os
       have z5 := fun d os => cell_regrown (w := w5) m5 d os
       go_wp2
       refine wp_region_quiet_below (by kernel_rfl) (by kernel_rfl) ?_
       repeat (first | go_big_quiet_step ((go_at_call 120; exact Calls.regrown_of (bA9 HV.out (Nat.lt_of_lt_of_le hg5 (below_regrown _ _ _).size) (HC5.out.below (below_regrown _ _ _) hg5) HAS.out))) | quiet_step ((go_at_call 120; exact Calls.regrown_of (bA9 HV.out (Nat.lt_of_lt_of_le hg5 (below_regrown _ _ _).size) (HC5.out.below (below_regrown _ _ _) hg5) HAS.out))))
       refine wpQuiet_nil ?_
       intro w6 hwq
       have hb6 : Below w5.heap.size w5 w6 := by
         obtain ⟨pp, rfl⟩ := hwq
         exact below_regrown _ _ _
       have HB6 := qhZ (HB5.out.trans (hb6.mono HB5.out.size))
       have n5 : w6.cell? ⟨wP.heap.size, 5, none⟩ = some (.int .i64 (nd : Int)) := (hb6.cell (p := ⟨wP.heap.size, 5, none⟩) hbl5).trans m5
       clear hwq hb6 z0 z1 z2 z5 m0 m1 m2 m5
       go_wp2
       go_ret2
       exact ⟨by rw [HFD.out]; rfl, HB6.out⟩
     · have HFD : Hid (bK9 f.nodes u g s.data.toList false = (3, 0)) := qhZ (by rw [HFI.out]; simp [← HNQ.out, hk])
       have HV : Hid (errC (dirC nq u g 0) = .iface 105 (.agg #[.int .i64 3])) := qhZ (by rw [HDN.out, if_pos hk]; rfl)
       have z0 := fun d os => cell_regrown (w := w5) m0 d os
       have z1 := fun d os => cell_regrown (w := w5) m1 d os
       have z2 := fun d os => cell_regrown (w := w5) m2 d os
       have z5 := fun d os => cell_regrown (w := w5) m5 d os
       go_wp2
       refine wp_region_quiet_below (by kernel_rfl) (by kernel_rfl) ?_
       repeat (first | go_big_quiet_step ((go_at_call 120; exact Calls.regrown_of (bA9 HV.out (Nat.lt_of_lt_of_le hg5 (below_regrown _ _ _).size) (HC5.out.below (below_regrown _ _ _) hg5) HAS.out))) | quiet_step ((go_at_call 120; exact Calls.regrown_of (bA9 HV.out (Nat.lt_of_lt_of_le hg5 (below_regrown _ _ _).size) (HC5.out.below (below_regrown _ _ _) hg5) HAS.out))))
       refine wpQuiet_nil ?_
       intro w6 hwq
       have hb6 : Below w5.heap.size w5 w6 := by
         obtain ⟨pp, rfl⟩ := hwq
         exact below_regrown _ _ _
       have HB6 := qhZ (HB5.out.trans (hb6.mono HB5.out.size))
       have n5 : w6.cell? ⟨wP.heap.size, 5, none⟩ = some (.int .i64 (nd : Int)) := (hb6.cell (p := ⟨wP.heap.size, 5, none⟩) hbl5).trans m5
       clear hwq hb6 z0 z1 z2 z5 m0 m1 m2 m5
       go_wp2
       go_ret2
       exact ⟨by rw [HFD.out]; rfl, HB6.out⟩
 · go_simp
   refine hK.out _ _ ⟨x0a _, y0a _, y1a _⟩ (fun hHeld => ?_)
   clear hK K
   refine wpAnyH_ready (rs := [4]) (by kernel_rfl) (by simp) ?_
   refine AllReadyH.cons rfl (fun K hK => ?_) AllReadyH.nil
   go_simp
   refine (HPL.out _ (HD1.out _)).mono ?_
   rintro e wP ⟨G, k, rfl, hGX, hkm, hrow, hbX, hbP⟩; have HRW := qhZ hrow; have HBX := qhZ hbX; have HBP := qhZ hbP; have HGX := qhZ hGX; have x0P : wP.cell? ⟨w.heap.size, 0, none⟩ = some (.slice o f.nodes.length c) := (hbP.cell (p := ⟨w.heap.size, 0, none⟩) (aB9 KA1.out)).trans x0; have y0P : wP.cell? ⟨w.heap.size + 1, 0, none⟩ = some (.int .i64 u) := (hbP.cell (p := ⟨w.heap.size + 1, 0, none⟩) (aB9 KB1.out)).trans y0; have y1P : wP.cell? ⟨w.heap.size + 1, 1, none⟩ = some (.int .i64 g) := (hbP.cell (p := ⟨w.heap.size + 1, 1, none⟩) (aB9 KB1.out)).trans y1; have x0Q : ∀ z, (wP.alloc z).cell? ⟨w.heap.size, 0, none⟩ = some (.slice o f.nodes.length c) := fun z => (((Below.refl _ wP).alloc (Nat.le_refl _) z).cell (p := ⟨w.heap.size, 0, none⟩) (Nat.lt_of_lt_of_le (aB9 KA1.out) hbP.size)).trans x0P; have y0Q : ∀ z, (wP.alloc z).cell? ⟨w.heap.size + 1, 0, none⟩ = some (.int .i64 u) := fun z => (((Below.refl _ wP).alloc (Nat.le_refl _) z).cell (p := ⟨w.heap.size + 1, 0, none⟩) (Nat.lt_of_lt_of_le (aB9 KB1.out) hbP.size)).trans y0P; have y1Q : ∀ z, (wP.alloc z).cell? ⟨w.heap.size + 1, 1, none⟩ = some (.int .i64 g) := fun z => (((Below.refl _ wP).alloc (Nat.le_refl _) z).cell (p := ⟨w.heap.size + 1, 1, none⟩) (Nat.lt_of_lt_of_le (aB9 KB1.out) hbP.size)).trans y1P; have HKZ : Hid (wP.heap[w1.heap.size]? = some (.cells #[.slice none 0 0, .slice none 0 0, .int .i64 0, .int .i64 0, .bool false, .int .i64 0, .slice none 0 0, .int .i64 0] 147 (0, 0))) := qhZ ((hbX.block w1.heap.size (by simp)).trans (heap_alloc_new w1 _)); have hGw : w1.heap.size < G := Nat.lt_of_lt_of_le (by simp) hGX; have HSX : Hid (∀ (vs : List Value) (x j : Nat), x ≠ w1.heap.size → (wP.setCells w1.heap.size 0 vs).cell? ⟨x, j, none⟩ = wP.cell? ⟨x, j, none⟩) := qhZ (fun vs x j hx => World.cell?_setCells_out _ vs 0 wP ⟨x, j, none⟩ (fun e => absurd e hx)); clear hrow hbX hbP hGX
   go_wp2_with fail
   refine hK.out _ _ ⟨x0P, y0P, y1P⟩ (fun hHeld => ?_)
   clear hK K
   refine wpAnyH_take (i := 7) (v := ?_) rfl (by kernel_rfl) (by kernel_rfl) (by kernel_rfl) (fun _ _ _ h => h) (Or.inl ⟨by rfl, ?_⟩) (by assumption) ?_
   rotate_left
   · (intro w9 hSw; obtain ⟨g1, g2, g3⟩ := hSw; go_simp; try with_reducible rfl)
   try simp only [Act.put, List.setIfInBounds_toArray, List.set_cons_zero, List.set_cons_succ]
   refine wpAnyH_take (i := 8) (v := ?_) rfl (by kernel_rfl) (by kernel_rfl) (by kernel_rfl) (fun _ _ _ h => h) (Or.inl ⟨by rfl, ?_⟩) (by assumption) ?_
   rotate_left
   · (intro w9 hSw; obtain ⟨g1, g2, g3⟩ := hSw; go_simp; try with_reducible rfl)
   try simp only [Act.put, List.setIfInBounds_toArray, List.set_cons_zero, List.set_cons_succ]
   refine wpAnyH_take (i := 9) (v := ?_) rfl (by kernel_rfl) (by kernel_rfl) (by kernel_rfl) (fun _ _ _ h => h) (Or.inl ⟨by rfl, ?_⟩) (by assumption) ?_
   rotate_left
   · (intro w9 hSw; obtain ⟨g1, g2, g3⟩ := hSw; go_simp; try with_reducible rfl)
   try simp only [Act.put, List.setIfInBounds_toArray, List.set_cons_zero, List.set_cons_succ]
   refine wpAnyH_take (i := 10) (v := ?_) rfl (by kernel_rfl) (by kernel_rfl) (by kernel_rfl) (fun _ _ _ h => h) (Or.inl ⟨by rfl, ?_⟩) (by assumption) ?_
   rotate_left
   · (intro w9 hSw; obtain ⟨g1, g2, g3⟩ := hSw; go_simp; try with_reducible rfl)
   try simp only [Act.put, List.setIfInBounds_toArray, List.set_cons_zero, List.set_cons_succ]
   refine wpAnyH_ready (rs := [12]) (by kernel_rfl) (by simp) ?_
   refine AllReadyH.cons rfl (fun K hK => ?_) AllReadyH.nil
   rw [if_pos (by rfl)]
   refine wp_store_mid 147 _ _ rfl w1.heap.size 0 (List.toArray _) rfl rfl ?_ (by kernel_rfl) (by simp [Value.oneCell']) ?_
   · have h9 : wP.there w1.heap.size 0 8 := there_blk HKZ.out
     exact h9
   refine hK.out _ _ ?_ (fun hHeld => ?_)
   · exact ⟨(HSX.out _ w.heap.size 0 hne3).trans x0P, (HSX.out _ (w.heap.size + 1) 0 hne4).trans y0P, (HSX.out _ (w.heap.size + 1) 1 hne4).trans y1P⟩
   clear hK K
   refine wpAnyH_done (by kernel_rfl) ?_ _
   refine NoPanic.normal ?_
   try simp only [Act.put, List.setIfInBounds_toArray, List.set_cons_zero, List.set_cons_succ]
   obtain ⟨W, hW⟩ : ∃ W, wP.setCells w1.heap.size 0 [.slice o f.nodes.length c, .slice (some ⟨G, 0, none⟩) f.nodes.length k, .int .i64 u, .int .i64 g, .bool sl, .int .i64 0, .slice none 0 0, .int .i64 0] = W := ⟨_, rfl⟩
   have hSO := setCells_only w1.heap.size [.slice o f.nodes.length c, .slice (some ⟨G, 0, none⟩) f.nodes.length k, .int .i64 u, .int .i64 g, .bool sl, .int .i64 0, .slice none 0 0, .int .i64 0] 0 wP
   rw [hW] at hSO
   have hWk : W.heap[w1.heap.size]? = some (.cells (skCells o f.nodes.length c G k u g sl 0 (.slice none 0 0) 0) 147 (0, 0)) := by rw [← hW]; exact setCells_8 _ _ _ _ _ _ _ _ _ _ _ _ _ _ _ _ _ _ _ HKZ.out
   have hWb : Below w1.heap.size w1 W := HBP.out.trans hSO.2
   have hGb : G ≠ w1.heap.size := Nat.ne_of_gt hGw
   have hWr : RowAt W G (f.nodes.length * 3) 163 (plF (bH9 f.nodes)) := HRW.out.of_block (hSO.1.2 G HRW.out.lt hGb)
   have hwb : w.heap.size ≤ w1.heap.size := HB1.out.size
   clear hSO HKZ HSX
   have HSK : Hid (SkAt W w1.heap.size o f.nodes.length c G k u g sl ⟨0, [], 0⟩) := qhZ ⟨_, hWk, Rd.nil W, fun a l k e => by cases e⟩
   have HWB := qhZ (HB1.out.trans (hWb.mono HB1.out.size))
   have KAW := qhZ ((hWb.block w.heap.size (aB9 KA1.out)).trans KA1.out)
   have KBW := qhZ ((hWb.block (w.heap.size + 1) (aB9 KB1.out)).trans KB1.out)
   have HWR := qhZ hWr
   have HWbl := qhZ (aB9 hWk)
   have hnA : w.heap.size ≠ w1.heap.size := hne3
   have hnB : w.heap.size + 1 ≠ w1.heap.size := hne4
   rw [hW]
   clear hW hWk hWb hWr HBP HBX HGX HRW hHeld x0 y0 y1 x0d y0d y1d x0a y0a y1a x0P y0P y1P x0Q y0Q y1Q HPL
   have HI0 : Hid (LkInv f.nodes ⟨0, parts s.data.toList ++ [], 0⟩) := qhZ ⟨HLK.out.1.pos, Nat.zero_le _, by have h7 := parts_le s.data.toList; rw [aW9] at h7; simp only [List.append_nil]; omega⟩
   have HFI := qhZ (lkFind_is (ns := f.nodes) (u := u) (g := g) (fol := false) HGD.out)
   rw [HSL.out] at HFI
   simp only [Bool.false_or, Bool.true_or] at HFI
   go_wp2_with fail
   refine (putAhead_any s w1.heap.size o _ c G k u g sl ⟨0, [], 0⟩ _ hss (by simp) HSK.out).mono ?_
   rintro e w4 ⟨⟨xv, rfl⟩, hS4, hO4, hB4⟩
   have HS4 := qhZ hS4
   have HB4 := qhZ (HWB.out.trans (hB4.mono hwb))
   have KA4 := qhZ ((hO4.2 w.heap.size (aB9 KAW.out) hnA).trans KAW.out)
   have KB4 := qhZ ((hO4.2 (w.heap.size + 1) (aB9 KBW.out) hnB).trans KBW.out)
   have HR4 := qhZ (HWR.out.of_block (hO4.2 G HWR.out.lt hGb))
   have HBl4 := qhZ (Nat.lt_of_lt_of_le HWbl.out hO4.1)
   clear hS4 hO4 hB4
   go_wp2_with fail
   refine (run_any f o c G k u g sl w1.heap.size _ w _ hgood hcred hsz HN.out HB4.out hwb HS4.out HI0.out HR4.out hGb).mono ?_
   rintro e w5 ⟨rfl, hO5, hB5, hA5⟩
   simp only [List.append_nil] at hA5 ⊢
   have HB5 := qhZ (HB4.out.trans (hB5.mono hwb))
   have KA5 := qhZ ((hO5.2 w.heap.size (aB9 KA4.out) hnA).trans KA4.out)
   have KB5 := qhZ ((hO5.2 (w.heap.size + 1) (aB9 KB4.out) hnB).trans KB4.out)
   have hbl5 : w1.heap.size < w5.heap.size := Nat.lt_of_lt_of_le HBl4.out hO5.1
   have HA5 := qhZ hA5
   have hlt : (lkGo f.nodes u g sl ⟨0, parts s.data.toList, 0⟩).2 < f.nodes.length := lkRun_lt HLK.out.1.fit HLK.out.1.lead HLK.out.1.pos u g sl _ _ (by have h7 := HI0.out; rw [List.append_nil] at h7; exact h7)
   clear hO5 hB5 hA5
   obtain ⟨q, hq⟩ : ∃ q, lkGo f.nodes u g sl ⟨0, parts s.data.toList, 0⟩ = q := ⟨_, rfl⟩
   rw [hq] at HA5 HFI hlt
   rw [hq]
   clear hq
   obtain ⟨cd, nd⟩ := q
   simp only at HA5 HFI hlt
   by_cases hc : cd = 0
   case neg =>
     have HFD : Hid (bK9 f.nodes u g s.data.toList false = (cd, 0)) := qhZ (by rw [HFI.out]; simp [hc])
     have HEV := qhZ (errV_not s hc)
     have HEC := qhZ (errC_not hc)
     rw [HEC.out]
     go_wp2
     go_ret2
     exact ⟨by rw [HFD.out, HEV.out]; rfl, HB5.out⟩
   subst hc
   have m5 := HA5.out rfl
   rw [errC_zero]
   cases sl with
   | false =>
     have HFD : Hid (bK9 f.nodes u g s.data.toList false = (0, nd)) := qhZ (by rw [HFI.out]; simp)
     go_wp2
     go_ret2
     exact ⟨by rw [HFD.out]; rfl, HB5.out⟩
   | true =>
     have m0 : w5.cell? ⟨w.heap.size, 0, none⟩ = some (.slice o f.nodes.length c) := aA9 KA5.out 0
     have m1 : w5.cell? ⟨w.heap.size + 1, 0, none⟩ = some (.int .i64 u) := aA9 KB5.out 0
     have m2 : w5.cell? ⟨w.heap.size + 1, 1, none⟩ = some (.int .i64 g) := aA9 KB5.out 1
     obtain ⟨o5, c5, e5, -, hH5⟩ := HN.out.below HB5.out
     simp only [Value.slice.injEq, true_and] at e5
     obtain ⟨rfl, rfl⟩ := e5
     obtain ⟨g5, f5, l5, rfl, hg5, hc5, -, -⟩ := hH5 nd hlt
     have hqe : f.nodes[nd] = aC9 f.nodes nd := (aR9 hlt).symm
     rw [hqe] at hc5
     have HC5 := qhZ hc5
     have HAS : Hid ((aC9 f.nodes nd).kind = 2 → askB u g (aC9 f.nodes nd).mode (aC9 f.nodes nd).uid (aC9 f.nodes nd).gid 0 = true) := qhZ (fun h => good_ask hgood hcred (by decide) hlt h)
     have HDN := qhZ (dirC_none (aC9 f.nodes nd) u g)
     obtain ⟨nq, hnq⟩ : ∃ nq, nq = aC9 f.nodes nd := ⟨_, rfl⟩
     have HNQ := qhZ hnq
     rw [← hnq] at HC5 HAS HDN
     clear hH5 hc5 hqe hnq
     by_cases hk : nq.kind = 2
     · have HFD : Hid (bK9 f.nodes u g s.data.toList false = (0, nd)) := qhZ (by rw [HFI.out]; simp [← HNQ.out, hk])
       have HV : Hid (errC (dirC nq u g 0) = .nilIface) := qhZ (by rw [HDN.out, if_neg (by simp [hk])]; rfl)
       have z0 := fun d os => cell_regrown (w := w5) m0 d os
       have z1 := fun d os => cell_regrown (w := w5) m1 d os
       have z2 := fun d os => cell_regrown (w := w5) m2 d os
       have z5 := fun d os => cell_regrown (w := w5) m5 d os
       go_wp2
       refine wp_region_quiet_below (by kernel_rfl) (by kernel_rfl) ?_
       repeat (first | go_big_quiet_step ((go_at_call 120; exact Calls.regrown_of (bA9 HV.out (Nat.lt_of_lt_of_le hg5 (below_regrown _ _ _).size) (HC5.out.below (below_regrown _ _ _) hg5) HAS.out))) | quiet_step ((go_at_call 120; exact Calls.regrown_of (bA9 HV.out (Nat.lt_of_lt_of_le hg5 (below_regrown _ _ _).size) (HC5.out.below (below_regrown _ _ _) hg5) HAS.out))))
       refine wpQuiet_nil ?_
       intro w6 hwq
       have hb6 : Below w5.heap.size w5 w6 := by
         obtain ⟨pp, rfl⟩ := hwq
         exact below_regrown _ _ _
       have HB6 := qhZ (HB5.out.trans (hb6.mono HB5.out.size))
       have n5 : w6.cell? ⟨w1.heap.size, 5, none⟩ = some (.int .i64 (nd : Int)) := (hb6.cell (p := ⟨w1.heap.size, 5, none⟩) hbl5).trans m5
       clear hwq hb6 z0 z1 z2 z5 m0 m1 m2 m5
       go_wp2
       go_ret2
       exact ⟨by rw [HFD.out]; rfl, HB6.out⟩
     · have HFD : Hid (bK9 f.nodes u g s.data.toList false = (3, 0)) := qhZ (by rw [HFI.out]; simp [← HNQ.out, hk])
       have HV : Hid (errC (dirC nq u g 0) = .iface 105 (.agg #[.int .i64 3])) := qhZ (by rw [HDN.out, if_pos hk]; rfl)
       have z0 := fun d os => cell_regrown (w := w5) m0 d os
       have z1 := fun d os => cell_regrown (w := w5) m1 d os
       have z2 := fun d os => cell_regrown (w := w5) m2 d os
       have z5 := fun d os => cell_regrown (w := w5) m5 d os
       go_wp2
       refine wp_region_quiet_below (by kernel_rfl) (by kernel_rfl) ?_
       repeat (first | go_big_quiet_step ((go_at_call 120; exact Calls.regrown_of (bA9 HV.out (Nat.lt_of_lt_of_le hg5 (below_regrown _ _ _).size) (HC5.out.below (below_regrown _ _ _) hg5) HAS.out))) | quiet_step ((go_at_call 120; exact Calls.regrown_of (bA9 HV.out (Nat.lt_of_lt_of_le hg5 (below_regrown _ _ _).size) (HC5.out.below (below_regrown _ _ _) hg5) HAS.out))))
       refine wpQuiet_nil ?_
       intro w6 hwq
       have hb6 : Below w5.heap.size w5 w6 := by
         obtain ⟨pp, rfl⟩ := hwq
         exact below_regrown _ _ _
       have HB6 := qhZ (HB5.out.trans (hb6.mono HB5.out.size))
       have n5 : w6.cell? ⟨w1.heap.size, 5, none⟩ = some (.int .i64 (nd : Int)) := (hb6.cell (p := ⟨w1.heap.size, 5, none⟩) hbl5).trans m5
       clear hwq hb6 z0 z1 z2 z5 m0 m1 m2 m5
       go_wp2
       go_ret2
       exact ⟨by rw [HFD.out]; rfl, HB6.out⟩
set_option maxRecDepth 100000 in
theorem nodeAt_t (f : FsD) (v : Value) (u g : Int) (s : ByteArray) (w : World) (hR : FsA w v f) (hgood : goodF f = true) (hcred : credB u g = true) (hsz : szF f ≤ 1048576) (hss : s.size ≤ 1048576) (hw : wgB s.data.toList = true) :
   Calls Tryz.prog 83 #[v, .agg #[.int .i64 u, .int .i64 g], .string s, .bool true] w fun e w' => e = .returned (.tuple #[.int .i64 ((bK9 f.nodes u g s.data.toList true).2 : Nat), errV s (bK9 f.nodes u g s.data.toList true).1]) ∧ Below w.heap.size w w' := by
 obtain ⟨nv, rfl, hN⟩ := hR
 have HN := qhZ hN
 obtain ⟨o, c, rfl, hm, hH⟩ := hN
 unfold maxLen at hm
 have hl : f.nodes.length ≤ 1048576 := (aG9 hsz).1
 have hszn : szNs f.nodes ≤ 1048576 := by unfold szF at hsz; omega
 have HBx : Hid (∀ a b, Below w.heap.size w ((w.alloc a).alloc b)) := qhZ (fun a b => ((Below.refl _ _).alloc (Nat.le_refl _) _).alloc (by simp) _)
 have KA0 := qhZ (alloc3_fst' w (.cells #[.slice o f.nodes.length c, .int .i64 f.room] 30) (.cells #[.int .i64 u, .int .i64 g] 34))
 have KB0 := qhZ (alloc3_snd' w (.cells #[.slice o f.nodes.length c, .int .i64 f.room] 30) (.cells #[.int .i64 u, .int .i64 g] 34))
 have HLK := qhZ (look_of hgood hsz)
 have HW := qhZ hw
 have hgd : goodB s.data.toList = true ∧ wholeB s.data.toList = true := by
   unfold wgB at hw
   simp only [Bool.and_eq_true] at hw
   exact ⟨hw.2, hw.1⟩
 have HGD := qhZ hgd
 have h60 : 0 < s.size ∧ s.size ≤ 60 := by
   have h1 := hgd.1
   simp [goodB] at h1
   omega
 obtain ⟨hs0, hs60⟩ := h60
 obtain ⟨sl, hsl⟩ : ∃ sl, slashB s.data.toList = sl := ⟨_, rfl⟩
 have HSL := qhZ hsl
 have hss2 : s.size ≤ 1073741824 := by omega
 clear hw hgd hH hsl
 go_enter Tryz.func83, Tryz.ntmps83
 go_wp2_with fail
 refine (isWholePath_is HW.out hss2).mono ?_
 rintro e w1 ⟨rfl, hb1⟩
 have HB1 := qhZ ((HBx.out _ _).trans (hb1.mono (HBx.out _ _).size))
 have KA1 := qhZ ((hb1.block w.heap.size (aB9 KA0.out)).trans KA0.out)
 have KB1 := qhZ ((hb1.block (w.heap.size + 1) (aB9 KB0.out)).trans KB0.out)
 clear hb1
 go_wp2_with fail
 refine (hasSlash_is HSL.out hs0 hss2).mono ?_
 rintro e w1' ⟨rfl, rfl⟩
 have D0 : Below w1.heap.size w1 w1.drew := (Below.refl _ w1).drew
 have HD0 := qhZ D0
 have HD1 : Hid (∀ z, Below w1.heap.size w1 (w1.drew.alloc z)) := qhZ (fun z => D0.alloc D0.size z)
 have x0 : w1.cell? ⟨w.heap.size, 0, none⟩ = some (.slice o f.nodes.length c) := aA9 KA1.out 0
 have y0 : w1.cell? ⟨w.heap.size + 1, 0, none⟩ = some (.int .i64 u) := aA9 KB1.out 0
 have y1 : w1.cell? ⟨w.heap.size + 1, 1, none⟩ = some (.int .i64 g) := aA9 KB1.out 1
 have x0d : w1.drew.cell? ⟨w.heap.size, 0, none⟩ = some (.slice o f.nodes.length c) := x0
 have y0d : w1.drew.cell? ⟨w.heap.size + 1, 0, none⟩ = some (.int .i64 u) := y0
 have y1d : w1.drew.cell? ⟨w.heap.size + 1, 1, none⟩ = some (.int .i64 g) := y1
 have x0a : ∀ z, (w1.drew.alloc z).cell? ⟨w.heap.size, 0, none⟩ = some (.slice o f.nodes.length c) := fun z => ((HD1.out z).cell (p := ⟨w.heap.size, 0, none⟩) (aB9 KA1.out)).trans x0
 have y0a : ∀ z, (w1.drew.alloc z).cell? ⟨w.heap.size + 1, 0, none⟩ = some (.int .i64 u) := fun z => ((HD1.out z).cell (p := ⟨w.heap.size + 1, 0, none⟩) (aB9 KB1.out)).trans y0
 have y1a : ∀ z, (w1.drew.alloc z).cell? ⟨w.heap.size + 1, 1, none⟩ = some (.int .i64 g) := fun z => ((HD1.out z).cell (p := ⟨w.heap.size + 1, 1, none⟩) (aB9 KB1.out)).trans y1
 have HPL : Hid (∀ X, Below w1.heap.size w1 X → Calls Tryz.prog 117 #[.slice o f.nodes.length c] X fun e w' => ∃ G k, e = .returned (.slice (some ⟨G, 0, none⟩) f.nodes.length k) ∧ X.heap.size ≤ G ∧ k ≤ maxLen ∧ RowAt w' G (f.nodes.length * 3) 163 (plF (bH9 f.nodes)) ∧ Below X.heap.size X w' ∧ Below w1.heap.size w1 w') := qhZ (fun X hX => (placesIn_any f.nodes _ X (HN.out.below (HB1.out.trans (hX.mono HB1.out.size))) hszn hl HLK.out.1.lead).mono (by
   rintro e w' ⟨uu, rfl, ⟨G, k, rfl, -, hk, hG, hr⟩, hb⟩
   exact ⟨G, k, rfl, hG, hk, hr, hb, hX.trans (hb.mono hX.size)⟩))
 clear D0
 have hne1 : w1.heap.size ≠ w.heap.size := Nat.ne_of_gt (aB9 KA1.out)
 have hne2 : w1.heap.size ≠ w.heap.size + 1 := Nat.ne_of_gt (aB9 KB1.out)
 have hne3 : w.heap.size ≠ w1.heap.size := Nat.ne_of_lt (aB9 KA1.out)
 have hne4 : w.heap.size + 1 ≠ w1.heap.size := Nat.ne_of_lt (aB9 KB1.out)
 go_wp2
 refine wp_region_noPanic ?_
 refine wp_region_held_drew (S := (fun w' => w'.cell? ⟨w.heap.size, 0, none⟩ = some (.slice o f.nodes.length c) ∧ w'.cell? ⟨w.heap.size + 1, 0, none⟩ = some (.int .i64 u) ∧ w'.cell? ⟨w.heap.size + 1, 1, none⟩ = some (.int .i64 g))) (by kernel_rfl) ⟨x0d, y0d, y1d⟩ (fun hHeld => ?_)
 refine wpAnyH_take (i := 0) (v := ?_) rfl (by kernel_rfl) (by kernel_rfl) (by kernel_rfl) (fun _ _ _ h => h) (Or.inl ⟨by rfl, ?_⟩) (by assumption) ?_
 rotate_left
 · (intro w9 hSw; obtain ⟨g1, g2, g3⟩ := hSw; go_simp; try with_reducible rfl)
 try simp only [Act.put, List.setIfInBounds_toArray, List.set_cons_zero, List.set_cons_succ]
 refine wpAnyH_take (i := 1) (v := ?_) rfl (by kernel_rfl) (by kernel_rfl) (by kernel_rfl) (fun _ _ _ h => h) (Or.inl ⟨by rfl, ?_⟩) (by assumption) ?_
 rotate_left
 · (intro w9 hSw; obtain ⟨g1, g2, g3⟩ := hSw; go_simp; try with_reducible rfl)
 try simp only [Act.put, List.setIfInBounds_toArray, List.set_cons_zero, List.set_cons_succ]
 refine wpAnyH_take (i := 2) (v := ?_) rfl (by kernel_rfl) (by kernel_rfl) (by kernel_rfl) (fun _ _ _ h => h) (Or.inl ⟨by rfl, ?_⟩) (by assumption) ?_
 rotate_left
 · (intro w9 hSw; obtain ⟨g1, g2, g3⟩ := hSw; go_simp; try with_reducible rfl)
 try simp only [Act.put, List.setIfInBounds_toArray, List.set_cons_zero, List.set_cons_succ]
 refine wpAnyH_take (i := 3) (v := ?_) rfl (by kernel_rfl) (by kernel_rfl) (by kernel_rfl) (fun _ _ _ h => h) (Or.inl ⟨by rfl, ?_⟩) (by assumption) ?_
 rotate_left
 · (intro w9 hSw; obtain ⟨g1, g2, g3⟩ := hSw; go_simp; try with_reducible rfl)
 try simp only [Act.put, List.setIfInBounds_toArray, List.set_cons_zero, List.set_cons_succ]
 refine wpAnyH_take (i := 5) (v := ?_) rfl (by kernel_rfl) (by kernel_rfl) (by kernel_rfl) (fun _ _ _ h => h) (Or.inl ⟨by rfl, ?_⟩) (by assumption) ?_
 rotate_left
 · (intro w9 hSw; obtain ⟨g1, g2, g3⟩ := hSw; go_simp; try with_reducible rfl)
 try simp only [Act.put, List.setIfInBounds_toArray, List.set_cons_zero, List.set_cons_succ]
 refine wpAnyH_take (i := 6) (v := ?_) rfl (by kernel_rfl) (by kernel_rfl) (by kernel_rfl) (fun _ _ _ h => h) (Or.inl ⟨by rfl, ?_⟩) (by assumption) ?_
 rotate_left
 · (intro w9 hSw; obtain ⟨g1, g2, g3⟩ := hSw; go_simp; try with_reducible rfl)
 try simp only [Act.put, List.setIfInBounds_toArray, List.set_cons_zero, List.set_cons_succ]
 refine wpAnyH_ready (rs := [4, 11]) (by kernel_rfl) (by simp) ?_
 refine AllReadyH.cons rfl (fun K hK => ?_) (AllReadyH.cons rfl (fun K hK => ?_) AllReadyH.nil)
 · go_simp
   refine (HPL.out _ HD0.out).mono ?_
   rintro e wP ⟨G, k, rfl, hGX, hkm, hrow, hbX, hbP⟩; have HRW := qhZ hrow; have HBX := qhZ hbX; have HBP := qhZ hbP; have HGX := qhZ hGX; have x0P : wP.cell? ⟨w.heap.size, 0, none⟩ = some (.slice o f.nodes.length c) := (hbP.cell (p := ⟨w.heap.size, 0, none⟩) (aB9 KA1.out)).trans x0; have y0P : wP.cell? ⟨w.heap.size + 1, 0, none⟩ = some (.int .i64 u) := (hbP.cell (p := ⟨w.heap.size + 1, 0, none⟩) (aB9 KB1.out)).trans y0; have y1P : wP.cell? ⟨w.heap.size + 1, 1, none⟩ = some (.int .i64 g) := (hbP.cell (p := ⟨w.heap.size + 1, 1, none⟩) (aB9 KB1.out)).trans y1; have x0Q : ∀ z, (wP.alloc z).cell? ⟨w.heap.size, 0, none⟩ = some (.slice o f.nodes.length c) := fun z => (((Below.refl _ wP).alloc (Nat.le_refl _) z).cell (p := ⟨w.heap.size, 0, none⟩) (Nat.lt_of_lt_of_le (aB9 KA1.out) hbP.size)).trans x0P; have y0Q : ∀ z, (wP.alloc z).cell? ⟨w.heap.size + 1, 0, none⟩ = some (.int .i64 u) := fun z => (((Below.refl _ wP).alloc (Nat.le_refl _) z).cell (p := ⟨w.heap.size + 1, 0, none⟩) (Nat.lt_of_lt_of_le (aB9 KB1.out) hbP.size)).trans y0P; have y1Q : ∀ z, (wP.alloc z).cell? ⟨w.heap.size + 1, 1, none⟩ = some (.int .i64 g) := fun z => (((Below.refl _ wP).alloc (Nat.le_refl _) z).cell (p := ⟨w.heap.size + 1, 1, none⟩) (Nat.lt_of_lt_of_le (aB9 KB1.out) hbP.size)).trans y1P; clear hrow hbX hbP hGX
   go_wp2_with fail
   refine hK.out _ _ ⟨x0P, y0P, y1P⟩ (fun hHeld => ?_)
   clear hK K
   refine wpAnyH_take (i := 7) (v := ?_) rfl (by kernel_rfl) (by kernel_rfl) (by kernel_rfl) (fun _ _ _ h => h) (Or.inl ⟨by rfl, ?_⟩) (by assumption) ?_
   rotate_left
   · (intro w9 hSw; obtain ⟨g1, g2, g3⟩ := hSw; go_simp; try with_reducible rfl)
   try simp only [Act.put, List.setIfInBounds_toArray, List.set_cons_zero, List.set_cons_succ]
   refine wpAnyH_take (i := 8) (v := undef) rfl (by kernel_rfl) (by kernel_rfl) (by kernel_rfl) (fun _ _ _ h => h) (Or.inr ⟨by rfl, rfl⟩) (by assumption) ?_
   try simp only [Act.put, List.setIfInBounds_toArray, List.set_cons_zero, List.set_cons_succ]
   refine wpAnyH_take (i := 9) (v := ?_) rfl (by kernel_rfl) (by kernel_rfl) (by kernel_rfl) (fun _ _ _ h => h) (Or.inl ⟨by rfl, ?_⟩) (by assumption) ?_
   rotate_left
   · (intro w9 hSw; obtain ⟨g1, g2, g3⟩ := hSw; go_simp; try with_reducible rfl)
   try simp only [Act.put, List.setIfInBounds_toArray, List.set_cons_zero, List.set_cons_succ]
   refine wpAnyH_take (i := 10) (v := ?_) rfl (by kernel_rfl) (by kernel_rfl) (by kernel_rfl) (fun _ _ _ h => h) (Or.inl ⟨by rfl, ?_⟩) (by assumption) ?_
   rotate_left
   · (intro w9 hSw; obtain ⟨g1, g2, g3⟩ := hSw; go_simp; try with_reducible rfl)
   try simp only [Act.put, List.setIfInBounds_toArray, List.set_cons_zero, List.set_cons_succ]
   refine wpAnyH_ready (rs := [11]) (by kernel_rfl) (by simp) ?_
   refine AllReadyH.cons rfl (fun K hK => ?_) AllReadyH.nil
   go_simp
   refine hK.out _ _ ⟨x0Q _, y0Q _, y1Q _⟩ (fun hHeld => ?_)
   clear hK K
   refine wpAnyH_ready (rs := [12]) (by kernel_rfl) (by simp) ?_
   refine AllReadyH.cons rfl (fun K hK => ?_) AllReadyH.nil
   go_simp
   refine hK.out _ _ ⟨x0Q _, y0Q _, y1Q _⟩ (fun hHeld => ?_)
   clear hK K
   refine wpAnyH_done (by kernel_rfl) ?_ _
   refine NoPanic.normal ?_
   obtain ⟨W, hW⟩ : ∃ W, wP.alloc (.cells #[.slice o f.nodes.length c, .slice (some ⟨G, 0, none⟩) f.nodes.length k, .int .i64 u, .int .i64 g, .bool true, .int .i64 0, .slice none 0 0, .int .i64 0] 147) = W := ⟨_, rfl⟩
   have hWk : W.heap[wP.heap.size]? = some (.cells (skCells o f.nodes.length c G k u g true 0 (.slice none 0 0) 0) 147 (0, 0)) := by rw [← hW]; exact heap_alloc_new wP _
   have hWb : Below w1.heap.size w1 W := by rw [← hW]; exact HBP.out.alloc HBP.out.size _
   have hWr : RowAt W G (f.nodes.length * 3) 163 (plF (bH9 f.nodes)) := by rw [← hW]; exact HRW.out.alloc _
   have hGb : G ≠ wP.heap.size := Nat.ne_of_lt HRW.out.lt
   have hwb : w.heap.size ≤ wP.heap.size := Nat.le_trans HB1.out.size HBP.out.size
   have HSK : Hid (SkAt W wP.heap.size o f.nodes.length c G k u g true ⟨0, [], 0⟩) := qhZ ⟨_, hWk, Rd.nil W, fun a l k e => by cases e⟩
   have HWB := qhZ (HB1.out.trans (hWb.mono HB1.out.size))
   have KAW := qhZ ((hWb.block w.heap.size (aB9 KA1.out)).trans KA1.out)
   have KBW := qhZ ((hWb.block (w.heap.size + 1) (aB9 KB1.out)).trans KB1.out)
   have HWR := qhZ hWr
   have HWbl := qhZ (aB9 hWk)
   have hnA : w.heap.size ≠ wP.heap.size := Nat.ne_of_lt (Nat.lt_of_lt_of_le (aB9 KA1.out) HBP.out.size)
   have hnB : w.heap.size + 1 ≠ wP.heap.size := Nat.ne_of_lt (Nat.lt_of_lt_of_le (aB9 KB1.out) HBP.out.size)
   rw [hW]
   clear hW hWk hWb hWr HBP HBX HGX HRW hHeld x0 y0 y1 x0d y0d y1d x0a y0a y1a x0P y0P y1P x0Q y0Q y1Q HPL
   have HI0 : Hid (LkInv f.nodes ⟨0, parts s.data.toList ++ [], 0⟩) := qhZ ⟨HLK.out.1.pos, Nat.zero_le _, by have h7 := parts_le s.data.toList; rw [aW9] at h7; simp only [List.append_nil]; omega⟩
   have HFI := qhZ (lkFind_is (ns := f.nodes) (u := u) (g := g) (fol := true) HGD.out)
   rw [HSL.out] at HFI
   simp only [Bool.false_or, Bool.true_or] at HFI
   go_wp2_with fail
   refine (putAhead_any s wP.heap.size o _ c G k u g true ⟨0, [], 0⟩ _ hss (by simp) HSK.out).mono ?_
   rintro e w4 ⟨⟨xv, rfl⟩, hS4, hO4, hB4⟩
   have HS4 := qhZ hS4
   have HB4 := qhZ (HWB.out.trans (hB4.mono hwb))
   have KA4 := qhZ ((hO4.2 w.heap.size (aB9 KAW.out) hnA).trans KAW.out)
   have KB4 := qhZ ((hO4.2 (w.heap.size + 1) (aB9 KBW.out) hnB).trans KBW.out)
   have HR4 := qhZ (HWR.out.of_block (hO4.2 G HWR.out.lt hGb))
   have HBl4 := qhZ (Nat.lt_of_lt_of_le HWbl.out hO4.1)
   clear hS4 hO4 hB4
   go_wp2_with fail
   refine (run_any f o c G k u g true wP.heap.size _ w _ hgood hcred hsz HN.out HB4.out hwb HS4.out HI0.out HR4.out hGb).mono ?_
   rintro e w5 ⟨rfl, hO5, hB5, hA5⟩
   simp only [List.append_nil] at hA5 ⊢
   have HB5 := qhZ (HB4.out.trans (hB5.mono hwb))
   have KA5 := qhZ ((hO5.2 w.heap.size (aB9 KA4.out) hnA).trans KA4.out)
   have KB5 := qhZ ((hO5.2 (w.heap.size + 1) (aB9 KB4.out) hnB).trans KB4.out)
   have hbl5 : wP.heap.size < w5.heap.size := Nat.lt_of_lt_of_le HBl4.out hO5.1
   have HA5 := qhZ hA5
   have hlt : (lkGo f.nodes u g true ⟨0, parts s.data.toList, 0⟩).2 < f.nodes.length := lkRun_lt HLK.out.1.fit HLK.out.1.lead HLK.out.1.pos u g true _ _ (by have h7 := HI0.out; rw [List.append_nil] at h7; exact h7)
   clear hO5 hB5 hA5
   obtain ⟨q, hq⟩ : ∃ q, lkGo f.nodes u g true ⟨0, parts s.data.toList, 0⟩ = q := ⟨_, rfl⟩
   rw [hq] at HA5 HFI hlt
   rw [hq]
   clear hq
   obtain ⟨cd, nd⟩ := q
   simp only at HA5 HFI hlt
   by_cases hc : cd = 0
   case neg =>
     have HFD : Hid (bK9 f.nodes u g s.data.toList true = (cd, 0)) := qhZ (by rw [HFI.out]; simp [hc])
     have HEV := qhZ (errV_not s hc)
     have HEC := qhZ (errC_not hc)
     rw [HEC.out]
     go_wp2
     go_ret2
     exact ⟨by rw [HFD.out, HEV.out]; rfl, HB5.out⟩
   subst hc
   have m5 := HA5.out rfl
   rw [errC_zero]
   cases sl with
   | false =>
     have HFD : Hid (bK9 f.nodes u g s.data.toList true = (0, nd)) := qhZ (by rw [HFI.out]; simp)
     go_wp2
     go_ret2
     exact ⟨by rw [HFD.out]; rfl, HB5.out⟩
   | true =>
     have m0 : w5.cell? ⟨w.heap.size, 0, none⟩ = some (.slice o f.nodes.length c) := aA9 KA5.out 0
     have m1 : w5.cell? ⟨w.heap.size + 1, 0, none⟩ = some (.int .i64 u) := aA9 KB5.out 0
     have m2 : w5.cell? ⟨w.heap.size + 1, 1, none⟩ = some (.int .i64 g) := aA9 KB5.out 1
     obtain ⟨o5, c5, e5, -, hH5⟩ := HN.out.below HB5.out
     simp only [Value.slice.injEq, true_and] at e5
     obtain ⟨rfl, rfl⟩ := e5
     obtain ⟨g5, f5, l5, rfl, hg5, hc5, -, -⟩ := hH5 nd hlt
     have hqe : f.nodes[nd] = aC9 f.nodes nd := (aR9 hlt).symm
     rw [hqe] at hc5
     have HC5 := qhZ hc5
     have HAS : Hid ((aC9 f.nodes nd).kind = 2 → askB u g (aC9 f.nodes nd).mode (aC9 f.nodes nd).uid (aC9 f.nodes nd).gid 0 = true) := qhZ (fun h => good_ask hgood hcred (by decide) hlt h)
     have HDN := qhZ (dirC_none (aC9 f.nodes nd) u g)
     obtain ⟨nq, hnq⟩ : ∃ nq, nq = aC9 f.nodes nd := ⟨_, rfl⟩
     have HNQ := qhZ hnq
     rw [← hnq] at HC5 HAS HDN
     clear hH5 hc5 hqe hnq
     by_cases hk : nq.kind = 2
     · have HFD : Hid (bK9 f.nodes u g s.data.toList true = (0, nd)) := qhZ (by rw [HFI.out]; simp [← HNQ.out, hk])
       have HV : Hid (errC (dirC nq u g 0) = .nilIface) := qhZ (by rw [HDN.out, if_neg (by simp [hk])]; rfl)
       have z0 := fun d os => cell_regrown (w := w5) m0 d os
       have z1 := fun d os => cell_regrown (w := w5) m1 d os
       have z2 := fun d os => cell_regrown (w := w5) m2 d os
       have z5 := fun d os => cell_regrown (w := w5) m5 d os
       go_wp2
       refine wp_region_quiet_below (by kernel_rfl) (by kernel_rfl) ?_
       repeat (first | go_big_quiet_step ((go_at_call 120; exact Calls.regrown_of (bA9 HV.out (Nat.lt_of_lt_of_le hg5 (below_regrown _ _ _).size) (HC5.out.below (below_regrown _ _ _) hg5) HAS.out))) | quiet_step ((go_at_call 120; exact Calls.regrown_of (bA9 HV.out (Nat.lt_of_lt_of_le hg5 (below_regrown _ _ _).size) (HC5.out.below (below_regrown _ _ _) hg5) HAS.out))))
       refine wpQuiet_nil ?_
       intro w6 hwq
       have hb6 : Below w5.heap.size w5 w6 := by
         obtain ⟨pp, rfl⟩ := hwq
         exact below_regrown _ _ _
       have HB6 := qhZ (HB5.out.trans (hb6.mono HB5.out.size))
       have n5 : w6.cell? ⟨wP.heap.size, 5, none⟩ = some (.int .i64 (nd : Int)) := (hb6.cell (p := ⟨wP.heap.size, 5, none⟩) hbl5).trans m5
       clear hwq hb6 z0 z1 z2 z5 m0 m1 m2 m5
       go_wp2
       go_ret2
       exact ⟨by rw [HFD.out]; rfl, HB6.out⟩
     · have HFD : Hid (bK9 f.nodes u g s.data.toList true = (3, 0)) := qhZ (by rw [HFI.out]; simp [← HNQ.out, hk])
       have HV : Hid (errC (dirC nq u g 0) = .iface 105 (.agg #[.int .i64 3])) := qhZ (by rw [HDN.out, if_pos hk]; rfl)
       have z0 := fun d os => cell_regrown (w := w5) m0 d os
       have z1 := fun d os => cell_regrown (w := w5) m1 d os
       have z2 := fun d os => cell_regrown (w := w5) m2 d os
       have z5 := fun d os => cell_regrown (w := w5) m5 d os
       go_wp2
       refine wp_region_quiet_below (by kernel_rfl) (by kernel_rfl) ?_
       repeat (first | go_big_quiet_step ((go_at_call 120; exact Calls.regrown_of (bA9 HV.out (Nat.lt_of_lt_of_le hg5 (below_regrown _ _ _).size) (HC5.out.below (below_regrown _ _ _) hg5) HAS.out))) | quiet_step ((go_at_call 120; exact Calls.regrown_of (bA9 HV.out (Nat.lt_of_lt_of_le hg5 (below_regrown _ _ _).size) (HC5.out.below (below_regrown _ _ _) hg5) HAS.out))))
       refine wpQuiet_nil ?_
       intro w6 hwq
       have hb6 : Below w5.heap.size w5 w6 := by
         obtain ⟨pp, rfl⟩ := hwq
         exact below_regrown _ _ _
       have HB6 := qhZ (HB5.out.trans (hb6.mono HB5.out.size))
       have n5 : w6.cell? ⟨wP.heap.size, 5, none⟩ = some (.int .i64 (nd : Int)) := (hb6.cell (p := ⟨wP.heap.size, 5, none⟩) hbl5).trans m5
       clear hwq hb6 z0 z1 z2 z5 m0 m1 m2 m5
       go_wp2
       go_ret2
       exact ⟨by rw [HFD.out]; rfl, HB6.out⟩
 · go_simp
   refine hK.out _ _ ⟨x0a _, y0a _, y1a _⟩ (fun hHeld => ?_)
   clear hK K
   refine wpAnyH_ready (rs := [4]) (by kernel_rfl) (by simp) ?_
   refine AllReadyH.cons rfl (fun K hK => ?_) AllReadyH.nil
   go_simp
   refine (HPL.out _ (HD1.out _)).mono ?_
   rintro e wP ⟨G, k, rfl, hGX, hkm, hrow, hbX, hbP⟩; have HRW := qhZ hrow; have HBX := qhZ hbX; have HBP := qhZ hbP; have HGX := qhZ hGX; have x0P : wP.cell? ⟨w.heap.size, 0, none⟩ = some (.slice o f.nodes.length c) := (hbP.cell (p := ⟨w.heap.size, 0, none⟩) (aB9 KA1.out)).trans x0; have y0P : wP.cell? ⟨w.heap.size + 1, 0, none⟩ = some (.int .i64 u) := (hbP.cell (p := ⟨w.heap.size + 1, 0, none⟩) (aB9 KB1.out)).trans y0; have y1P : wP.cell? ⟨w.heap.size + 1, 1, none⟩ = some (.int .i64 g) := (hbP.cell (p := ⟨w.heap.size + 1, 1, none⟩) (aB9 KB1.out)).trans y1; have x0Q : ∀ z, (wP.alloc z).cell? ⟨w.heap.size, 0, none⟩ = some (.slice o f.nodes.length c) := fun z => (((Below.refl _ wP).alloc (Nat.le_refl _) z).cell (p := ⟨w.heap.size, 0, none⟩) (Nat.lt_of_lt_of_le (aB9 KA1.out) hbP.size)).trans x0P; have y0Q : ∀ z, (wP.alloc z).cell? ⟨w.heap.size + 1, 0, none⟩ = some (.int .i64 u) := fun z => (((Below.refl _ wP).alloc (Nat.le_refl _) z).cell (p := ⟨w.heap.size + 1, 0, none⟩) (Nat.lt_of_lt_of_le (aB9 KB1.out) hbP.size)).trans y0P; have y1Q : ∀ z, (wP.alloc z).cell? ⟨w.heap.size + 1, 1, none⟩ = some (.int .i64 g) := fun z => (((Below.refl _ wP).alloc (Nat.le_refl _) z).cell (p := ⟨w.heap.size + 1, 1, none⟩) (Nat.lt_of_lt_of_le (aB9 KB1.out) hbP.size)).trans y1P; have HKZ : Hid (wP.heap[w1.heap.size]? = some (.cells #[.slice none 0 0, .slice none 0 0, .int .i64 0, .int .i64 0, .bool false, .int .i64 0, .slice none 0 0, .int .i64 0] 147 (0, 0))) := qhZ ((hbX.block w1.heap.size (by simp)).trans (heap_alloc_new w1 _)); have hGw : w1.heap.size < G := Nat.lt_of_lt_of_le (by simp) hGX; have HSX : Hid (∀ (vs : List Value) (x j : Nat), x ≠ w1.heap.size → (wP.setCells w1.heap.size 0 vs).cell? ⟨x, j, none⟩ = wP.cell? ⟨x, j, none⟩) := qhZ (fun vs x j hx => World.cell?_setCells_out _ vs 0 wP ⟨x, j, none⟩ (fun e => absurd e hx)); clear hrow hbX hbP hGX
   go_wp2_with fail
   refine hK.out _ _ ⟨x0P, y0P, y1P⟩ (fun hHeld => ?_)
   clear hK K
   refine wpAnyH_take (i := 7) (v := ?_) rfl (by kernel_rfl) (by kernel_rfl) (by kernel_rfl) (fun _ _ _ h => h) (Or.inl ⟨by rfl, ?_⟩) (by assumption) ?_
   rotate_left
   · (intro w9 hSw; obtain ⟨g1, g2, g3⟩ := hSw; go_simp; try with_reducible rfl)
   try simp only [Act.put, List.setIfInBounds_toArray, List.set_cons_zero, List.set_cons_succ]
   refine wpAnyH_take (i := 8) (v := undef) rfl (by kernel_rfl) (by kernel_rfl) (by kernel_rfl) (fun _ _ _ h => h) (Or.inr ⟨by rfl, rfl⟩) (by assumption) ?_
   try simp only [Act.put, List.setIfInBounds_toArray, List.set_cons_zero, List.set_cons_succ]
   refine wpAnyH_take (i := 9) (v := ?_) rfl (by kernel_rfl) (by kernel_rfl) (by kernel_rfl) (fun _ _ _ h => h) (Or.inl ⟨by rfl, ?_⟩) (by assumption) ?_
   rotate_left
   · (intro w9 hSw; obtain ⟨g1, g2, g3⟩ := hSw; go_simp; try with_reducible rfl)
   try simp only [Act.put, List.setIfInBounds_toArray, List.set_cons_zero, List.set_cons_succ]
   refine wpAnyH_take (i := 10) (v := ?_) rfl (by kernel_rfl) (by kernel_rfl) (by kernel_rfl) (fun _ _ _ h => h) (Or.inl ⟨by rfl, ?_⟩) (by assumption) ?_
   rotate_left
   · (intro w9 hSw; obtain ⟨g1, g2, g3⟩ := hSw; go_simp; try with_reducible rfl)
   try simp only [Act.put, List.setIfInBounds_toArray, List.set_cons_zero, List.set_cons_succ]
   refine wpAnyH_ready (rs := [12]) (by kernel_rfl) (by simp) ?_
   refine AllReadyH.cons rfl (fun K hK => ?_) AllReadyH.nil
   rw [if_pos (by rfl)]
   refine wp_store_mid 147 _ _ rfl w1.heap.size 0 (List.toArray _) rfl rfl ?_ (by kernel_rfl) (by simp [Value.oneCell']) ?_
   · have h9 : wP.there w1.heap.size 0 8 := there_blk HKZ.out
     exact h9
   refine hK.out _ _ ?_ (fun hHeld => ?_)
   · exact ⟨(HSX.out _ w.heap.size 0 hne3).trans x0P, (HSX.out _ (w.heap.size + 1) 0 hne4).trans y0P, (HSX.out _ (w.heap.size + 1) 1 hne4).trans y1P⟩
   clear hK K
   refine wpAnyH_done (by kernel_rfl) ?_ _
   refine NoPanic.normal ?_
   try simp only [Act.put, List.setIfInBounds_toArray, List.set_cons_zero, List.set_cons_succ]
   obtain ⟨W, hW⟩ : ∃ W, wP.setCells w1.heap.size 0 [.slice o f.nodes.length c, .slice (some ⟨G, 0, none⟩) f.nodes.length k, .int .i64 u, .int .i64 g, .bool true, .int .i64 0, .slice none 0 0, .int .i64 0] = W := ⟨_, rfl⟩
   have hSO := setCells_only w1.heap.size [.slice o f.nodes.length c, .slice (some ⟨G, 0, none⟩) f.nodes.length k, .int .i64 u, .int .i64 g, .bool true, .int .i64 0, .slice none 0 0, .int .i64 0] 0 wP
   rw [hW] at hSO
   have hWk : W.heap[w1.heap.size]? = some (.cells (skCells o f.nodes.length c G k u g true 0 (.slice none 0 0) 0) 147 (0, 0)) := by rw [← hW]; exact setCells_8 _ _ _ _ _ _ _ _ _ _ _ _ _ _ _ _ _ _ _ HKZ.out
   have hWb : Below w1.heap.size w1 W := HBP.out.trans hSO.2
   have hGb : G ≠ w1.heap.size := Nat.ne_of_gt hGw
   have hWr : RowAt W G (f.nodes.length * 3) 163 (plF (bH9 f.nodes)) := HRW.out.of_block (hSO.1.2 G HRW.out.lt hGb)
   have hwb : w.heap.size ≤ w1.heap.size := HB1.out.size
   clear hSO HKZ HSX
   have HSK : Hid (SkAt W w1.heap.size o f.nodes.length c G k u g true ⟨0, [], 0⟩) := qhZ ⟨_, hWk, Rd.nil W, fun a l k e => by cases e⟩
   have HWB := qhZ (HB1.out.trans (hWb.mono HB1.out.size))
   have KAW := qhZ ((hWb.block w.heap.size (aB9 KA1.out)).trans KA1.out)
   have KBW := qhZ ((hWb.block (w.heap.size + 1) (aB9 KB1.out)).trans KB1.out)
   have HWR := qhZ hWr
   have HWbl := qhZ (aB9 hWk)
   have hnA : w.heap.size ≠ w1.heap.size := hne3
   have hnB : w.heap.size + 1 ≠ w1.heap.size := hne4
   rw [hW]
   clear hW hWk hWb hWr HBP HBX HGX HRW hHeld x0 y0 y1 x0d y0d y1d x0a y0a y1a x0P y0P y1P x0Q y0Q y1Q HPL
   have HI0 : Hid (LkInv f.nodes ⟨0, parts s.data.toList ++ [], 0⟩) := qhZ ⟨HLK.out.1.pos, Nat.zero_le _, by have h7 := parts_le s.data.toList; rw [aW9] at h7; simp only [List.append_nil]; omega⟩
   have HFI := qhZ (lkFind_is (ns := f.nodes) (u := u) (g := g) (fol := true) HGD.out)
   rw [HSL.out] at HFI
   simp only [Bool.false_or, Bool.true_or] at HFI
   go_wp2_with fail
   refine (putAhead_any s w1.heap.size o _ c G k u g true ⟨0, [], 0⟩ _ hss (by simp) HSK.out).mono ?_
   rintro e w4 ⟨⟨xv, rfl⟩, hS4, hO4, hB4⟩
   have HS4 := qhZ hS4
   have HB4 := qhZ (HWB.out.trans (hB4.mono hwb))
   have KA4 := qhZ ((hO4.2 w.heap.size (aB9 KAW.out) hnA).trans KAW.out)
   have KB4 := qhZ ((hO4.2 (w.heap.size + 1) (aB9 KBW.out) hnB).trans KBW.out)
   have HR4 := qhZ (HWR.out.of_block (hO4.2 G HWR.out.lt hGb))
   have HBl4 := qhZ (Nat.lt_of_lt_of_le HWbl.out hO4.1)
   clear hS4 hO4 hB4
   go_wp2_with fail
   refine (run_any f o c G k u g true w1.heap.size _ w _ hgood hcred hsz HN.out HB4.out hwb HS4.out HI0.out HR4.out hGb).mono ?_
   rintro e w5 ⟨rfl, hO5, hB5, hA5⟩
   simp only [List.append_nil] at hA5 ⊢
   have HB5 := qhZ (HB4.out.trans (hB5.mono hwb))
   have KA5 := qhZ ((hO5.2 w.heap.size (aB9 KA4.out) hnA).trans KA4.out)
   have KB5 := qhZ ((hO5.2 (w.heap.size + 1) (aB9 KB4.out) hnB).trans KB4.out)
   have hbl5 : w1.heap.size < w5.heap.size := Nat.lt_of_lt_of_le HBl4.out hO5.1
   have HA5 := qhZ hA5
   have hlt : (lkGo f.nodes u g true ⟨0, parts s.data.toList, 0⟩).2 < f.nodes.length := lkRun_lt HLK.out.1.fit HLK.out.1.lead HLK.out.1.pos u g true _ _ (by have h7 := HI0.out; rw [List.append_nil] at h7; exact h7)
   clear hO5 hB5 hA5
   obtain ⟨q, hq⟩ : ∃ q, lkGo f.nodes u g true ⟨0, parts s.data.toList, 0⟩ = q := ⟨_, rfl⟩
   rw [hq] at HA5 HFI hlt
   rw [hq]
   clear hq
   obtain ⟨cd, nd⟩ := q
   simp only at HA5 HFI hlt
   by_cases hc : cd = 0
   case neg =>
     have HFD : Hid (bK9 f.nodes u g s.data.toList true = (cd, 0)) := qhZ (by rw [HFI.out]; simp [hc])
     have HEV := qhZ (errV_not s hc)
     have HEC := qhZ (errC_not hc)
     rw [HEC.out]
     go_wp2
     go_ret2
     exact ⟨by rw [HFD.out, HEV.out]; rfl, HB5.out⟩
   subst hc
   have m5 := HA5.out rfl
   rw [errC_zero]
   cases sl with
   | false =>
     have HFD : Hid (bK9 f.nodes u g s.data.toList true = (0, nd)) := qhZ (by rw [HFI.out]; simp)
     go_wp2
     go_ret2
     exact ⟨by rw [HFD.out]; rfl, HB5.out⟩
   | true =>
     have m0 : w5.cell? ⟨w.heap.size, 0, none⟩ = some (.slice o f.nodes.length c) := aA9 KA5.out 0
     have m1 : w5.cell? ⟨w.heap.size + 1, 0, none⟩ = some (.int .i64 u) := aA9 KB5.out 0
     have m2 : w5.cell? ⟨w.heap.size + 1, 1, none⟩ = some (.int .i64 g) := aA9 KB5.out 1
     obtain ⟨o5, c5, e5, -, hH5⟩ := HN.out.below HB5.out
     simp only [Value.slice.injEq, true_and] at e5
     obtain ⟨rfl, rfl⟩ := e5
     obtain ⟨g5, f5, l5, rfl, hg5, hc5, -, -⟩ := hH5 nd hlt
     have hqe : f.nodes[nd] = aC9 f.nodes nd := (aR9 hlt).symm
     rw [hqe] at hc5
     have HC5 := qhZ hc5
     have HAS : Hid ((aC9 f.nodes nd).kind = 2 → askB u g (aC9 f.nodes nd).mode (aC9 f.nodes nd).uid (aC9 f.nodes nd).gid 0 = true) := qhZ (fun h => good_ask hgood hcred (by decide) hlt h)
     have HDN := qhZ (dirC_none (aC9 f.nodes nd) u g)
     obtain ⟨nq, hnq⟩ : ∃ nq, nq = aC9 f.nodes nd := ⟨_, rfl⟩
     have HNQ := qhZ hnq
     rw [← hnq] at HC5 HAS HDN
     clear hH5 hc5 hqe hnq
     by_cases hk : nq.kind = 2
     · have HFD : Hid (bK9 f.nodes u g s.data.toList true = (0, nd)) := qhZ (by rw [HFI.out]; simp [← HNQ.out, hk])
       have HV : Hid (errC (dirC nq u g 0) = .nilIface) := qhZ (by rw [HDN.out, if_neg (by simp [hk])]; rfl)
       have z0 := fun d os => cell_regrown (w := w5) m0 d os
       have z1 := fun d os => cell_regrown (w := w5) m1 d os
       have z2 := fun d os => cell_regrown (w := w5) m2 d os
       have z5 := fun d os => cell_regrown (w := w5) m5 d os
       go_wp2
       refine wp_region_quiet_below (by kernel_rfl) (by kernel_rfl) ?_
       repeat (first | go_big_quiet_step ((go_at_call 120; exact Calls.regrown_of (bA9 HV.out (Nat.lt_of_lt_of_le hg5 (below_regrown _ _ _).size) (HC5.out.below (below_regrown _ _ _) hg5) HAS.out))) | quiet_step ((go_at_call 120; exact Calls.regrown_of (bA9 HV.out (Nat.lt_of_lt_of_le hg5 (below_regrown _ _ _).size) (HC5.out.below (below_regrown _ _ _) hg5) HAS.out))))
       refine wpQuiet_nil ?_
       intro w6 hwq
       have hb6 : Below w5.heap.size w5 w6 := by
         obtain ⟨pp, rfl⟩ := hwq
         exact below_regrown _ _ _
       have HB6 := qhZ (HB5.out.trans (hb6.mono HB5.out.size))
       have n5 : w6.cell? ⟨w1.heap.size, 5, none⟩ = some (.int .i64 (nd : Int)) := (hb6.cell (p := ⟨w1.heap.size, 5, none⟩) hbl5).trans m5
       clear hwq hb6 z0 z1 z2 z5 m0 m1 m2 m5
       go_wp2
       go_ret2
       exact ⟨by rw [HFD.out]; rfl, HB6.out⟩
     · have HFD : Hid (bK9 f.nodes u g s.data.toList true = (3, 0)) := qhZ (by rw [HFI.out]; simp [← HNQ.out, hk])
       have HV : Hid (errC (dirC nq u g 0) = .iface 105 (.agg #[.int .i64 3])) := qhZ (by rw [HDN.out, if_pos hk]; rfl)
       have z0 := fun d os => cell_regrown (w := w5) m0 d os
       have z1 := fun d os => cell_regrown (w := w5) m1 d os
       have z2 := fun d os => cell_regrown (w := w5) m2 d os
       have z5 := fun d os => cell_regrown (w := w5) m5 d os
       go_wp2
       refine wp_region_quiet_below (by kernel_rfl) (by kernel_rfl) ?_
       repeat (first | go_big_quiet_step ((go_at_call 120; exact Calls.regrown_of (bA9 HV.out (Nat.lt_of_lt_of_le hg5 (below_regrown _ _ _).size) (HC5.out.below (below_regrown _ _ _) hg5) HAS.out))) | quiet_step ((go_at_call 120; exact Calls.regrown_of (bA9 HV.out (Nat.lt_of_lt_of_le hg5 (below_regrown _ _ _).size) (HC5.out.below (below_regrown _ _ _) hg5) HAS.out))))
       refine wpQuiet_nil ?_
       intro w6 hwq
       have hb6 : Below w5.heap.size w5 w6 := by
         obtain ⟨pp, rfl⟩ := hwq
         exact below_regrown _ _ _
       have HB6 := qhZ (HB5.out.trans (hb6.mono HB5.out.size))
       have n5 : w6.cell? ⟨w1.heap.size, 5, none⟩ = some (.int .i64 (nd : Int)) := (hb6.cell (p := ⟨w1.heap.size, 5, none⟩) hbl5).trans m5
       clear hwq hb6 z0 z1 z2 z5 m0 m1 m2 m5
       go_wp2
       go_ret2
       exact ⟨by rw [HFD.out]; rfl, HB6.out⟩
end Go.Proofs.YtknhacblialboaaGreatDoor
