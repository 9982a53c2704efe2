/-
  Joined: LayE LayN.
  Conditions: as each states.
-/
import Derived.Deep.RegionLaw
import Derived.Lib.QuietBelow
import Derived.Deep.CutRange
import Derived.Deep.CutBlock
import Derived.Deep.DeepCutAuto
import Derived.Test.YtknhacblialboaaGreatDoorLib12
import Derived.Test.YtknhacblialboaaGreatDoorLib19
namespace Go.Proofs.YtknhacblialboaaGreatDoor
open Go.ChangeShapes Go.WideShapes Go.ChangeAt Go.RowKit Go.Joins
set_option linter.unusedVariables false
set_option linter.unusedSimpArgs false
set_option maxHeartbeats 16000000
theorem getE_at {es : List Ent} {k : Nat} (h : k < es.length) : es.getD k ent0 = es[k] := by simp [List.getD, h]
def LaysTo (es : List Ent) (x : Ent) (k : Nat) : Prop := ∀ t (h : t < es.length), k ≤ t → Op.bytesLess es[t].name x.name = false ∧ es[t].name ≠ x.name
def LaysAt (es : List Ent) (x : Ent) (k : Nat) : Prop := LaysTo es x k ∧ (k = 0 ∨ ∃ j, k = j + 1 ∧ ∃ h : j < es.length, Op.bytesLess es[j].name x.name = true ∨ es[j].name = x.name)
theorem laysAt_pos {es : List Ent} {x : Ent} {k : Nat} (hr : Rise es) (hn : isE es x.name = false) (hk : k ≤ es.length) (h : LaysAt es x k) : posE es x.name = k := by
 obtain ⟨h1, h2⟩ := h
 have hb : ∀ t, k ≤ t → t < es.length → Op.bytesLess (es.getD t ent0).name x.name = false := fun t a b => by
   rw [show es.getD t ent0 = es[t] from getE_at b]; exact (h1 t b a).1
 rcases h2 with rfl | ⟨j, rfl, hj, h3⟩
 · exact posE_at es x.name 0 (by omega) (fun t ht => by omega) hb
 · rcases h3 with h3 | h3
   · exact posE_at es x.name (j + 1) hk (rise_ahead hr hj (by rw [show es.getD j ent0 = es[j] from getE_at hj]; exact h3)) hb
   · exfalso
     have hp : posE es x.name = j := by
       refine posE_at es x.name j (by omega) (fun t ht => ?_) (fun t a b => ?_)
       · rw [← h3, show es[j] = es.getD j ent0 from (getE_at hj).symm]; exact rise_lt hr ht hj
       · rcases Nat.eq_or_lt_of_le a with rfl | a
         · rw [show es.getD j ent0 = es[j] from getE_at hj, h3]; exact less_irr _
         · exact hb t a b
     unfold isE at hn
     rw [hp, show es.getD j ent0 = es[j] from getE_at hj] at hn
     simp [hj, h3] at hn
set_option maxRecDepth 100000 in
theorem l3Lay_at (es : List Ent) (R g cap : Nat) (x : Ent) (w : World) (hE : Ents w R (.slice (some ⟨g, 0, none⟩) es.length cap) es) (hs : es.length ≤ 1048576) :
   Calls Tryz.prog 106 #[.slice (some ⟨g, 0, none⟩) es.length cap, .agg #[.string (bs x.name), .int .i64 x.node]] w fun e w' => ∃ v' k, e = .returned v' ∧ k ≤ es.length ∧ LaysAt es x k ∧ Ents w' w.heap.size v' (es.take k ++ x :: es.drop k) ∧ Below w.heap.size w w' := by
 obtain ⟨i9, hi9, hz0, hz1, hz2⟩ := info_ent
 have hcap : es.length ≤ cap ∧ cap ≤ maxLen := by
   rcases hE.2 with ⟨e, _⟩ | ⟨g2, c2, cur, e, _, _, h1, h2, _⟩
   · cases e
   · simp only [Value.slice.injEq, Option.some.injEq, Addr.mk.injEq, and_true, true_and] at e
     obtain ⟨-, rfl⟩ := e
     exact ⟨h1, h2⟩
 obtain ⟨hc1, hc2⟩ := hcap
 unfold maxLen at hc2
 have hgl := (World.ownsRow.lt hE g rfl).2
 have HE := qhZ hE
 have HNAME : Hid (∀ k (h : k < es.length) W, Below w.heap.size w W → W.cell? ⟨g, k * 2, none⟩ = some (.string (bs es[k].name))) := qhZ (fun k h W hb => by
   have h2 : (aX9 es)[k * 2 + 0]? = (entV es[k])[0]? := by
     unfold aX9
     rw [flat_get (entV_len es) (by simpa using h) (by decide)]; simp
   have hc := World.ownsRow.cellAt hE (k * 2 + 0) (by omega)
   rw [h2] at hc
   exact (hb.cell (p := ⟨g, k * 2, none⟩) hgl).trans hc)
 clear hE
 obtain ⟨xn, hxn⟩ : ∃ xn, xn = bs x.name := ⟨_, rfl⟩
 have HXN := qhZ hxn
 rw [← hxn]
 clear hxn
 have HBx : Hid (Below w.heap.size w (w.alloc (.cells #[.string xn, .int .i64 x.node] 126))) := qhZ ((Below.refl _ _).alloc (Nat.le_refl _) _)
 have HXx := qhZ (heap_alloc_new w (.cells #[.string xn, .int .i64 x.node] 126))
 go_enter Tryz.func106, Tryz.ntmps106
 go_upto_block 0 with fail
 go_cut [5] (fun t5 wx => ∃ k : Nat, k ≤ es.length ∧ t5 = .int .i64 k ∧ LaysAt es x k ∧ Below w.heap.size w wx ∧ wx.heap[w.heap.size]? = some (.cells #[.string xn, .int .i64 x.node] 126))
 case first =>
   go_wp2
   go_loopw [5] (fun i wr => ∃ k : Nat, k ≤ es.length ∧ i = .int .i64 k ∧ LaysTo es x k ∧ Below w.heap.size w wr ∧ wr.heap[w.heap.size]? = some (.cells #[.string xn, .int .i64 x.node] 126)) (fun i _ => (intOf i).toNat)
   case atStart => exact ⟨es.length, Nat.le_refl _, rfl, (fun t h1 h2 => absurd h1 (by omega)), HBx.out, HXx.out⟩
   case round =>
     obtain ⟨k, hk, rfl, hP, hB, hX⟩ := hrel
     have HP := qhZ hP
     clear hP
     have HB := qhZ hB
     have HX := qhZ hX
     have b0 : wr.cell? ⟨w.heap.size, 0, none⟩ = some (.string xn) := aA9 hX 0
     have z0 := fun d os => cell_regrown (w := wr) b0 d os
     clear hB hX HBx HXx
     have HLE := qhZ hk
     by_cases hk0 : 0 < k
     · obtain ⟨j, hkj⟩ : ∃ j, k = j + 1 := ⟨k - 1, by omega⟩
       have hlt : j < es.length := by omega
       have a1 := HNAME.out j hlt wr HB.out
       have hidx : (k : Int) - 1 = (j : Int) := by omega
       obtain ⟨y, hy⟩ : ∃ y, y = bs es[j].name := ⟨_, rfl⟩
       have HYL : Hid (y.toList = es[j].name) := qhZ (by rw [hy, ByteArray.toList_eq]; exact aY9 _)
       have HXL : Hid (xn.toList = x.name) := qhZ (by rw [HXN.out, ByteArray.toList_eq]; exact aY9 _)
       rw [← hy] at a1
       have z2 := fun d os => cell_regrown (w := wr) a1 d os
       have HKJ := qhZ hkj
       clear hy hkj
       cases hless : Op.bytesLess y.toList xn.toList with
       | true =>
         have HC : Hid (Op.bytesLess es[j].name x.name = true) := qhZ (by rw [← HYL.out, ← HXL.out]; exact hless)
         go_wp2
         refine wp_region_quiet_below (by kernel_rfl) (by kernel_rfl) ?_
         repeat (first | go_big_quiet_step (fail) | quiet_step (fail))
         refine wpQuiet_nil ?_
         intro w5 hwq
         have hb5 : Below wr.heap.size wr w5 := by
           obtain ⟨pp, rfl⟩ := hwq
           exact below_regrown _ _ _
         have HB5 := qhZ (HB.out.trans (hb5.mono HB.out.size))
         have HX5 := qhZ ((hb5.block w.heap.size (aB9 HX.out)).trans HX.out)
         clear hwq hb5
         go_wp2
         go_meet
         exact ⟨k, HLE.out, rfl, ⟨HP.out, .inr ⟨j, HKJ.out, hlt, .inl HC.out⟩⟩, HB5.out, HX5.out⟩
       | false =>
         cases heq : (y.toList == xn.toList) with
         | true =>
           have HC : Hid (es[j].name = x.name) := qhZ (by rw [← HYL.out, ← HXL.out]; simpa using heq)
           go_wp2
           refine wp_region_quiet_below (by kernel_rfl) (by kernel_rfl) ?_
           repeat (first | go_big_quiet_step (fail) | quiet_step (fail))
           refine wpQuiet_nil ?_
           intro w5 hwq
           have hb5 : Below wr.heap.size wr w5 := by
             obtain ⟨pp, rfl⟩ := hwq
             exact below_regrown _ _ _
           have HB5 := qhZ (HB.out.trans (hb5.mono HB.out.size))
           have HX5 := qhZ ((hb5.block w.heap.size (aB9 HX.out)).trans HX.out)
           clear hwq hb5
           go_wp2
           go_meet
           exact ⟨k, HLE.out, rfl, ⟨HP.out, .inr ⟨j, HKJ.out, hlt, .inr HC.out⟩⟩, HB5.out, HX5.out⟩
         | false =>
           have HC : Hid (LaysTo es x j) := qhZ (fun t h1 h2 => by
             rcases Nat.eq_or_lt_of_le h2 with rfl | h3
             · exact ⟨by rw [← HYL.out, ← HXL.out]; exact hless, by rw [← HYL.out, ← HXL.out]; simpa using heq⟩
             · exact HP.out t h1 (by have := HKJ.out; omega))
           go_wp2
           refine wp_region_quiet_below (by kernel_rfl) (by kernel_rfl) ?_
           repeat (first | go_big_quiet_step (fail) | quiet_step (fail))
           refine wpQuiet_nil ?_
           intro w5 hwq
           have hb5 : Below wr.heap.size wr w5 := by
             obtain ⟨pp, rfl⟩ := hwq
             exact below_regrown _ _ _
           have HB5 := qhZ (HB.out.trans (hb5.mono HB.out.size))
           have HX5 := qhZ ((hb5.block w.heap.size (aB9 HX.out)).trans HX.out)
           clear hwq hb5
           go_wp2
           go_roundw
           case rel => exact ⟨j, by have := HKJ.out; omega, rfl, HC.out, HB5.out, HX5.out⟩
           case measure => simp [intOf]; have := HKJ.out; omega
     · have HK0 : Hid (k = 0) := qhZ (by omega)
       go_wp2
       refine wp_region_quiet_below (by kernel_rfl) (by kernel_rfl) ?_
       repeat (first | go_big_quiet_step (fail) | quiet_step (fail))
       refine wpQuiet_nil ?_
       intro w5 hwq
       have hb5 : Below wr.heap.size wr w5 := by
         obtain ⟨pp, rfl⟩ := hwq
         exact below_regrown _ _ _
       have HB5 := qhZ (HB.out.trans (hb5.mono HB.out.size))
       have HX5 := qhZ ((hb5.block w.heap.size (aB9 HX.out)).trans HX.out)
       clear hwq hb5
       go_wp2
       go_meet
       exact ⟨k, HLE.out, rfl, ⟨HP.out, .inl HK0.out⟩, HB5.out, HX5.out⟩
 case rest =>
     obtain ⟨k, hk, rfl, hP, hB, hX⟩ := hcut
     have HP := qhZ hP
     clear hP
     obtain ⟨w5, hw5⟩ : ∃ w5, w5 = wc := ⟨_, rfl⟩
     rw [← hw5] at hB hX ⊢
     clear hw5
     have HB5 := qhZ hB
     have HX5 := qhZ hX
     have HLE := qhZ hk
     clear hB hX hk HBx HXx
     have hB5 := HB5.out.size
     have HBA : Hid (Below w.heap.size w (w5.alloc (.cells #[] 126))) := qhZ (HB5.out.alloc HB5.out.size _)
     by_cases hck : cap = k
     · have hlen : es.length = k := by have := HLE.out; omega
       have hck' := hck.symm
       subst hck'
       have HDR0 : Hid (es.drop k = []) := qhZ (List.eq_nil_of_length_eq_zero (by rw [List.length_drop]; omega))
       go_wp2_with (at_builtin; refine wpList_append_own _ rfl _ _ 53 rfl w5.heap.size 126 i9 (.agg #[.string ⟨#[]⟩, .int .i64 0]) 2 24 Tryz.underlying53 hi9 hz0 hz1 hz2 rfl (by decide) _ 0 [] rfl (own_ent w5) ⟨g, 0, none⟩ 0 0 [] rfl (by simp) (by simp) (by simp) (by unfold maxLen; omega) (by omega) (by simp) ?_)
       intro v1 w1 hown1 hgrow1 _
       have hb1 := bB9 (HB5.out.alloc HB5.out.size (.cells #[] 126)) (by simp; omega) (bF9 (own_ent w5) hB5) hgrow1
       have HB1 := qhZ hb1
       have HX1 : Hid (w1.heap[w.heap.size]? = some (.cells #[.string xn, .int .i64 x.node] 126)) := qhZ ((hgrow1.block w.heap.size (by simp; have := aB9 HX5.out; omega) (by simp [Value.ownBlock]; have := aB9 HX5.out; omega)).trans ((Below.heap_alloc w5 _ _ (aB9 HX5.out)).trans HX5.out))
       obtain ⟨oo1, cap1, rfl, hoo1⟩ := aM9 hown1
       have HO1' : Hid (w1.ownsRow w5.heap.size 126 2 (.slice oo1 (0) cap1) (0) (aX9 (es.drop k))) := qhZ (by rw [HDR0.out]; simpa [aX9] using hown1)
       clear hown1 hgrow1 hoo1 hb1
       have HBd := qhZ HB1.out.drew
       have HXd : Hid (w1.drew.heap[w.heap.size]? = some (.cells #[.string xn, .int .i64 x.node] 126)) := qhZ HX1.out
       have HOd : Hid (w1.drew.ownsRow w5.heap.size 126 2 (.slice oo1 (0) cap1) (0) (aX9 (es.drop k))) := qhZ HO1'.out
       skip
       have hkn := HLE.out
       have hsd : w.heap.size < w1.heap.size := aB9 HX1.out
       have HXa : Hid (∀ z, (w1.drew.alloc z).heap[w.heap.size]? = some (.cells #[.string xn, .int .i64 x.node] 126)) := qhZ (fun z => (Below.heap_alloc _ _ _ (aB9 HXd.out)).trans HXd.out)
       have HOW3 : Hid (((w1.drew.alloc (.cells #[.string xn, .int .i64 x.node] 126)).alloc (.cells #[] 126)).ownsRow w1.heap.size 126 2 (.slice (some ⟨w1.heap.size + 1, 0, none⟩) 0 0) 0 []) := qhZ (by have h9 := own_entB (w1.drew.alloc (.cells #[.string xn, .int .i64 x.node] 126)) w1.heap.size (by rw [World.size_alloc]; exact Nat.le_succ _); rw [World.size_alloc] at h9; exact h9)
       have k0 : w1.cell? ⟨w.heap.size, 0, none⟩ = some (.string xn) := aA9 HX1.out 0
       have k1 : w1.cell? ⟨w.heap.size, 1, none⟩ = some (.int .i64 x.node) := aA9 HX1.out 1
       go_wp2
       cases oo1 with
       | none =>
         have HZ : Hid (0 = 0 ∧ cap1 = 0) := qhZ (by
           rcases HO1'.out.2 with ⟨e, _⟩ | ⟨g1, c1, cur, e, _⟩
           · simp only [Value.slice.injEq, true_and] at e; first | exact e | exact ⟨rfl, e⟩
           · cases e)
         obtain ⟨hzz1, rfl⟩ := HZ.out
         skip
         have HDR : Hid (es.drop k = []) := qhZ (List.eq_nil_of_length_eq_zero (by rw [List.length_drop]; have := HLE.out; omega))
         go_region_law (first
           | (refine aN9 _ rfl (.tmp 29) (.tmp 32) 53 rfl w1.heap.size 126 i9 (.agg #[.string ⟨#[]⟩, .int .i64 0]) 2 24 Tryz.underlying53 hi9 hz0 hz1 hz2 rfl (by decide) (.slice (some ⟨w1.heap.size, 0, none⟩) 0 0) 0 [] (by simp [Act.eval, Act.put]) (own_entB w1.drew w1.heap.size (Nat.le_refl _)) ⟨g, 0, none⟩ k k (aX9 (es.take k)) (by simp [Act.eval, Act.put]) (by rw [bJ9]; simp; omega) (ents_take HE.out (HBd.out.alloc HBd.out.size (.cells #[] 126)) k) (entsV_one _) (by unfold maxLen; omega) (by omega) (by first | omega | ((simp) <;> omega)) ?_; intro ooA capA wA hownA hgrowA hooA; have HOA : Hid (wA.ownsRow w1.heap.size 126 2 (.slice ooA k capA) k (aX9 (es.take k))) := qhZ (by simpa using hownA); have HXA : Hid (wA.heap[w.heap.size]? = some (.cells #[.string xn, .int .i64 x.node] 126)) := qhZ ((hgrowA.block w.heap.size (by first | omega | ((simp) <;> omega)) (by first | omega | ((simp [Value.ownBlock]) <;> omega))).trans (HXa.out _)); have HBA := qhZ (bB9 (HBd.out.alloc HBd.out.size (.cells #[] 126)) (by first | omega | ((simp) <;> omega)) (bF9 (own_entB w1.drew w1.heap.size (Nat.le_refl _)) (Nat.le_of_lt hsd)) hgrowA); have HO6A : Hid (wA.ownsRow w5.heap.size 126 2 (.slice none 0 0) 0 (aX9 (es.drop k))) := qhZ (World.ownsRow.kept (World.ownsRow.alloc HOd.out _) hgrowA (.inl rfl)); have hszA : w1.heap.size < wA.heap.size := Nat.lt_of_lt_of_le (by first | omega | ((simp) <;> omega)) hgrowA.size; have e0A : wA.cell? ⟨w.heap.size, 0, none⟩ = some (.string xn) := aA9 HXA.out 0; have e1A : wA.cell? ⟨w.heap.size, 1, none⟩ = some (.int .i64 x.node) := aA9 HXA.out 1; clear hownA hgrowA hooA)
           | (refine aN9 _ rfl (.tmp 29) (.tmp 32) 53 rfl w1.heap.size 126 i9 (.agg #[.string ⟨#[]⟩, .int .i64 0]) 2 24 Tryz.underlying53 hi9 hz0 hz1 hz2 rfl (by decide) (.slice (some ⟨w1.heap.size, 0, none⟩) 0 0) 0 [] (by simp [Act.eval, Act.put]) (World.ownsRow.alloc (own_entB w1.drew w1.heap.size (Nat.le_refl _)) (.cells #[.string xn, .int .i64 x.node] 126)) ⟨g, 0, none⟩ k k (aX9 (es.take k)) (by simp [Act.eval, Act.put]) (by rw [bJ9]; simp; omega) (ents_take HE.out ((HBd.out.alloc HBd.out.size (.cells #[] 126)).alloc (by first | omega | ((simp) <;> omega)) (.cells #[.string xn, .int .i64 x.node] 126)) k) (entsV_one _) (by unfold maxLen; omega) (by omega) (by first | omega | ((simp) <;> omega)) ?_; intro ooA capA wA hownA hgrowA hooA; have HOA : Hid (wA.ownsRow w1.heap.size 126 2 (.slice ooA k capA) k (aX9 (es.take k))) := qhZ (by simpa using hownA); have HXA : Hid (wA.heap[w.heap.size]? = some (.cells #[.string xn, .int .i64 x.node] 126)) := qhZ ((hgrowA.block w.heap.size (by first | omega | ((simp) <;> omega)) (by first | omega | ((simp [Value.ownBlock]) <;> omega))).trans ((Below.heap_alloc _ _ _ (aB9 (HXa.out _))).trans (HXa.out _))); have HBA := qhZ (bB9 ((HBd.out.alloc HBd.out.size (.cells #[] 126)).alloc (by first | omega | ((simp) <;> omega)) (.cells #[.string xn, .int .i64 x.node] 126)) (by first | omega | ((simp) <;> omega)) (bF9 (World.ownsRow.alloc (own_entB w1.drew w1.heap.size (Nat.le_refl _)) (.cells #[.string xn, .int .i64 x.node] 126)) (Nat.le_of_lt hsd)) hgrowA); have HO6A : Hid (wA.ownsRow w5.heap.size 126 2 (.slice none 0 0) 0 (aX9 (es.drop k))) := qhZ (World.ownsRow.kept (World.ownsRow.alloc (World.ownsRow.alloc HOd.out _) _) hgrowA (.inl rfl)); have HTB : Hid (wA.heap[w1.heap.size + 1]? = some (.cells #[.string xn, .int .i64 x.node] 126)) := qhZ ((hgrowA.block (w1.heap.size + 1) (by first | omega | ((simp) <;> omega)) (by first | omega | ((simp [Value.ownBlock]) <;> omega))).trans (by have h9 := heap_alloc_new (w1.drew.alloc (.cells #[] 126)) (.cells #[.string xn, .int .i64 x.node] 126); rw [World.size_alloc] at h9; exact h9)); have hszA : w1.heap.size < wA.heap.size := Nat.lt_of_lt_of_le (by first | omega | ((simp) <;> omega)) hgrowA.size; have e0A : wA.cell? ⟨w.heap.size, 0, none⟩ = some (.string xn) := aA9 HXA.out 0; have e1A : wA.cell? ⟨w.heap.size, 1, none⟩ = some (.int .i64 x.node) := aA9 HXA.out 1; clear hownA hgrowA hooA)
           | (refine aN9 _ rfl (.tmp 29) (.tmp 32) 53 rfl w1.heap.size 126 i9 (.agg #[.string ⟨#[]⟩, .int .i64 0]) 2 24 Tryz.underlying53 hi9 hz0 hz1 hz2 rfl (by decide) (.slice (some ⟨w1.heap.size + 1, 0, none⟩) 0 0) 0 [] (by simp [Act.eval, Act.put]) HOW3.out ⟨g, 0, none⟩ k k (aX9 (es.take k)) (by simp [Act.eval, Act.put]) (by rw [bJ9]; simp; omega) (ents_take HE.out ((HBd.out.alloc HBd.out.size (.cells #[.string xn, .int .i64 x.node] 126)).alloc (by first | omega | ((simp) <;> omega)) (.cells #[] 126)) k) (entsV_one _) (by unfold maxLen; omega) (by omega) (by first | omega | ((simp) <;> omega)) ?_; intro ooA capA wA hownA hgrowA hooA; have HOA : Hid (wA.ownsRow w1.heap.size 126 2 (.slice ooA k capA) k (aX9 (es.take k))) := qhZ (by simpa using hownA); have HXA : Hid (wA.heap[w.heap.size]? = some (.cells #[.string xn, .int .i64 x.node] 126)) := qhZ ((hgrowA.block w.heap.size (by first | omega | ((simp) <;> omega)) (by first | omega | ((simp [Value.ownBlock]) <;> omega))).trans ((Below.heap_alloc _ _ _ (aB9 (HXa.out _))).trans (HXa.out _))); have HBA := qhZ (bB9 ((HBd.out.alloc HBd.out.size (.cells #[.string xn, .int .i64 x.node] 126)).alloc (by first | omega | ((simp) <;> omega)) (.cells #[] 126)) (by first | omega | ((simp) <;> omega)) (bF9 HOW3.out (Nat.le_of_lt hsd)) hgrowA); have HO6A : Hid (wA.ownsRow w5.heap.size 126 2 (.slice none 0 0) 0 (aX9 (es.drop k))) := qhZ (World.ownsRow.kept (World.ownsRow.alloc (World.ownsRow.alloc HOd.out _) _) hgrowA (.inl rfl)); have HTB : Hid (wA.heap[w1.heap.size]? = some (.cells #[.string xn, .int .i64 x.node] 126)) := qhZ ((hgrowA.block w1.heap.size (by first | omega | ((simp) <;> omega)) (by first | omega | ((simp [Value.ownBlock]) <;> omega))).trans ((Below.heap_alloc (w1.drew.alloc (.cells #[.string xn, .int .i64 x.node] 126)) _ _ (by simp)).trans (heap_alloc_new w1.drew (.cells #[.string xn, .int .i64 x.node] 126)))); have hszA : w1.heap.size < wA.heap.size := Nat.lt_of_lt_of_le (by first | omega | ((simp) <;> omega)) hgrowA.size; have e0A : wA.cell? ⟨w.heap.size, 0, none⟩ = some (.string xn) := aA9 HXA.out 0; have e1A : wA.cell? ⟨w.heap.size, 1, none⟩ = some (.int .i64 x.node) := aA9 HXA.out 1; clear hownA hgrowA hooA)
           | (refine aN9 _ rfl (.tmp 33) (.tmp 35) 53 rfl w1.heap.size 126 i9 (.agg #[.string ⟨#[]⟩, .int .i64 0]) 2 24 Tryz.underlying53 hi9 hz0 hz1 hz2 rfl (by decide) (.slice ooA k capA) k (aX9 (es.take k)) (by simp [Act.eval, Act.put]) (World.ownsRow.alloc HOA.out _) ⟨wA.heap.size, 0, none⟩ 1 1 [.string xn, .int .i64 x.node] (by simp [Act.eval, Act.put]) rfl (cell_two_new wA _ _ _) (by simp [Value.oneCell']) (by unfold maxLen; omega) (by omega) (by first | omega | ((simp) <;> omega)) ?_; intro ooB capB wB hownB hgrowB hooB; have HOB := qhZ hownB; have HCB := qhZ (owns_cap hownB); have HBB := qhZ (bB9 (HBA.out.alloc HBA.out.size (.cells #[.string xn, .int .i64 x.node] 126)) (by first | omega | ((simp) <;> omega)) (bF9 (World.ownsRow.alloc HOA.out _) (Nat.le_of_lt hsd)) hgrowB); have HO6B : Hid (wB.ownsRow w5.heap.size 126 2 (.slice none 0 0) 0 (aX9 (es.drop k))) := qhZ (World.ownsRow.kept (World.ownsRow.alloc HO6A.out _) hgrowB (.inl rfl)); have hszB : wA.heap.size < wB.heap.size := Nat.lt_of_lt_of_le (by first | omega | ((simp) <;> omega)) hgrowB.size; clear hownB hgrowB hooB)
           | (refine aN9 _ rfl (.tmp 33) (.tmp 35) 53 rfl w1.heap.size 126 i9 (.agg #[.string ⟨#[]⟩, .int .i64 0]) 2 24 Tryz.underlying53 hi9 hz0 hz1 hz2 rfl (by decide) (.slice ooA k capA) k (aX9 (es.take k)) (by simp [Act.eval, Act.put]) HOA.out ⟨w1.heap.size + 1, 0, none⟩ 1 1 [.string xn, .int .i64 x.node] (by simp [Act.eval, Act.put]) rfl (cell_two_kept HTB.out) (by simp [Value.oneCell']) (by unfold maxLen; omega) (by omega) (by first | omega | ((simp) <;> omega)) ?_; intro ooB capB wB hownB hgrowB hooB; have HOB := qhZ hownB; have HCB := qhZ (owns_cap hownB); have HBB := qhZ (bB9 HBA.out (by first | omega | ((simp) <;> omega)) (bF9 HOA.out (Nat.le_of_lt hsd)) hgrowB); have HO6B : Hid (wB.ownsRow w5.heap.size 126 2 (.slice none 0 0) 0 (aX9 (es.drop k))) := qhZ (World.ownsRow.kept HO6A.out hgrowB (.inl rfl)); have hszB : wA.heap.size ≤ wB.heap.size := hgrowB.size; clear hownB hgrowB hooB)
           | (refine aN9 _ rfl (.tmp 33) (.tmp 35) 53 rfl w1.heap.size 126 i9 (.agg #[.string ⟨#[]⟩, .int .i64 0]) 2 24 Tryz.underlying53 hi9 hz0 hz1 hz2 rfl (by decide) (.slice ooA k capA) k (aX9 (es.take k)) (by simp [Act.eval, Act.put]) HOA.out ⟨w1.heap.size, 0, none⟩ 1 1 [.string xn, .int .i64 x.node] (by simp [Act.eval, Act.put]) rfl (cell_two_kept HTB.out) (by simp [Value.oneCell']) (by unfold maxLen; omega) (by omega) (by first | omega | ((simp) <;> omega)) ?_; intro ooB capB wB hownB hgrowB hooB; have HOB := qhZ hownB; have HCB := qhZ (owns_cap hownB); have HBB := qhZ (bB9 HBA.out (by first | omega | ((simp) <;> omega)) (bF9 HOA.out (Nat.le_of_lt hsd)) hgrowB); have HO6B : Hid (wB.ownsRow w5.heap.size 126 2 (.slice none 0 0) 0 (aX9 (es.drop k))) := qhZ (World.ownsRow.kept HO6A.out hgrowB (.inl rfl)); have hszB : wA.heap.size ≤ wB.heap.size := hgrowB.size; clear hownB hgrowB hooB)
           | (refine step_append_noneE _ rfl (.tmp 36) (.tmp 37) 53 rfl 126 i9 Tryz.underlying53 hi9 ooB (k + 1) capB 0 (by simp [Act.eval, Act.put]) (by simp [Act.eval, Act.put]) HCB.out ?_))
         all_goals
           go_wp2
           go_ret
           first | refine ⟨_, k, rfl, (by first | exact HLE.out | omega), HP.out, ?_, HBB.out⟩ | refine ⟨_, rfl, k, (by first | exact HLE.out | omega), HP.out, ?_, HBB.out⟩
           have hq := bF9 HOB.out (Nat.le_of_lt hsd)
           unfold Ents
           have e1 : (es.take k ++ x :: es.drop k).length = k + 1 := by rw [HDR.out]; simp; have := HLE.out; omega
           have e2 : aX9 (es.take k ++ x :: es.drop k) = aX9 (es.take k) ++ [.string xn, .int .i64 x.node] := by
             rw [HDR.out, entsV_app, HXN.out]
             simp [aX9, entV]
           rw [e1, e2]
           exact hq
       | some ad1 =>
         have HAD : Hid (ad1 = ⟨ad1.block, 0, none⟩ ∧ ad1.block < w1.heap.size ∧ cap1 ≤ maxLen) := qhZ (by
           rcases HO1'.out.2 with ⟨e, _⟩ | ⟨g1, c1, cur, e, _, hg1, _, hm1, _⟩
           · cases e
           · simp only [Value.slice.injEq, Option.some.injEq] at e
             obtain ⟨rfl, -, rfl⟩ := e
             exact ⟨rfl, aB9 hg1, hm1⟩)
         go_region_law (first
           | (refine aN9 _ rfl (.tmp 29) (.tmp 32) 53 rfl w1.heap.size 126 i9 (.agg #[.string ⟨#[]⟩, .int .i64 0]) 2 24 Tryz.underlying53 hi9 hz0 hz1 hz2 rfl (by decide) (.slice (some ⟨w1.heap.size, 0, none⟩) 0 0) 0 [] (by simp [Act.eval, Act.put]) (own_entB w1.drew w1.heap.size (Nat.le_refl _)) ⟨g, 0, none⟩ k k (aX9 (es.take k)) (by simp [Act.eval, Act.put]) (by rw [bJ9]; simp; omega) (ents_take HE.out (HBd.out.alloc HBd.out.size (.cells #[] 126)) k) (entsV_one _) (by unfold maxLen; omega) (by omega) (by first | omega | ((simp) <;> omega)) ?_; intro ooA capA wA hownA hgrowA hooA; have HOA : Hid (wA.ownsRow w1.heap.size 126 2 (.slice ooA k capA) k (aX9 (es.take k))) := qhZ (by simpa using hownA); have HXA : Hid (wA.heap[w.heap.size]? = some (.cells #[.string xn, .int .i64 x.node] 126)) := qhZ ((hgrowA.block w.heap.size (by first | omega | ((simp) <;> omega)) (by first | omega | ((simp [Value.ownBlock]) <;> omega))).trans (HXa.out _)); have HBA := qhZ (bB9 (HBd.out.alloc HBd.out.size (.cells #[] 126)) (by first | omega | ((simp) <;> omega)) (bF9 (own_entB w1.drew w1.heap.size (Nat.le_refl _)) (Nat.le_of_lt hsd)) hgrowA); have HO6A : Hid (wA.ownsRow w5.heap.size 126 2 (.slice (some ad1) 0 cap1) 0 (aX9 (es.drop k))) := qhZ (World.ownsRow.kept (World.ownsRow.alloc HOd.out _) hgrowA (.inr (by simp [Value.ownBlock]; have := HAD.out.2.1; omega))); have hszA : w1.heap.size < wA.heap.size := Nat.lt_of_lt_of_le (by first | omega | ((simp) <;> omega)) hgrowA.size; have e0A : wA.cell? ⟨w.heap.size, 0, none⟩ = some (.string xn) := aA9 HXA.out 0; have e1A : wA.cell? ⟨w.heap.size, 1, none⟩ = some (.int .i64 x.node) := aA9 HXA.out 1; clear hownA hgrowA hooA)
           | (refine aN9 _ rfl (.tmp 29) (.tmp 32) 53 rfl w1.heap.size 126 i9 (.agg #[.string ⟨#[]⟩, .int .i64 0]) 2 24 Tryz.underlying53 hi9 hz0 hz1 hz2 rfl (by decide) (.slice (some ⟨w1.heap.size, 0, none⟩) 0 0) 0 [] (by simp [Act.eval, Act.put]) (World.ownsRow.alloc (own_entB w1.drew w1.heap.size (Nat.le_refl _)) (.cells #[.string xn, .int .i64 x.node] 126)) ⟨g, 0, none⟩ k k (aX9 (es.take k)) (by simp [Act.eval, Act.put]) (by rw [bJ9]; simp; omega) (ents_take HE.out ((HBd.out.alloc HBd.out.size (.cells #[] 126)).alloc (by first | omega | ((simp) <;> omega)) (.cells #[.string xn, .int .i64 x.node] 126)) k) (entsV_one _) (by unfold maxLen; omega) (by omega) (by first | omega | ((simp) <;> omega)) ?_; intro ooA capA wA hownA hgrowA hooA; have HOA : Hid (wA.ownsRow w1.heap.size 126 2 (.slice ooA k capA) k (aX9 (es.take k))) := qhZ (by simpa using hownA); have HXA : Hid (wA.heap[w.heap.size]? = some (.cells #[.string xn, .int .i64 x.node] 126)) := qhZ ((hgrowA.block w.heap.size (by first | omega | ((simp) <;> omega)) (by first | omega | ((simp [Value.ownBlock]) <;> omega))).trans ((Below.heap_alloc _ _ _ (aB9 (HXa.out _))).trans (HXa.out _))); have HBA := qhZ (bB9 ((HBd.out.alloc HBd.out.size (.cells #[] 126)).alloc (by first | omega | ((simp) <;> omega)) (.cells #[.string xn, .int .i64 x.node] 126)) (by first | omega | ((simp) <;> omega)) (bF9 (World.ownsRow.alloc (own_entB w1.drew w1.heap.size (Nat.le_refl _)) (.cells #[.string xn, .int .i64 x.node] 126)) (Nat.le_of_lt hsd)) hgrowA); have HO6A : Hid (wA.ownsRow w5.heap.size 126 2 (.slice (some ad1) 0 cap1) 0 (aX9 (es.drop k))) := qhZ (World.ownsRow.kept (World.ownsRow.alloc (World.ownsRow.alloc HOd.out _) _) hgrowA (.inr (by simp [Value.ownBlock]; have := HAD.out.2.1; omega))); have HTB : Hid (wA.heap[w1.heap.size + 1]? = some (.cells #[.string xn, .int .i64 x.node] 126)) := qhZ ((hgrowA.block (w1.heap.size + 1) (by first | omega | ((simp) <;> omega)) (by first | omega | ((simp [Value.ownBlock]) <;> omega))).trans (by have h9 := heap_alloc_new (w1.drew.alloc (.cells #[] 126)) (.cells #[.string xn, .int .i64 x.node] 126); rw [World.size_alloc] at h9; exact h9)); have hszA : w1.heap.size < wA.heap.size := Nat.lt_of_lt_of_le (by first | omega | ((simp) <;> omega)) hgrowA.size; have e0A : wA.cell? ⟨w.heap.size, 0, none⟩ = some (.string xn) := aA9 HXA.out 0; have e1A : wA.cell? ⟨w.heap.size, 1, none⟩ = some (.int .i64 x.node) := aA9 HXA.out 1; clear hownA hgrowA hooA)
           | (refine aN9 _ rfl (.tmp 29) (.tmp 32) 53 rfl w1.heap.size 126 i9 (.agg #[.string ⟨#[]⟩, .int .i64 0]) 2 24 Tryz.underlying53 hi9 hz0 hz1 hz2 rfl (by decide) (.slice (some ⟨w1.heap.size + 1, 0, none⟩) 0 0) 0 [] (by simp [Act.eval, Act.put]) HOW3.out ⟨g, 0, none⟩ k k (aX9 (es.take k)) (by simp [Act.eval, Act.put]) (by rw [bJ9]; simp; omega) (ents_take HE.out ((HBd.out.alloc HBd.out.size (.cells #[.string xn, .int .i64 x.node] 126)).alloc (by first | omega | ((simp) <;> omega)) (.cells #[] 126)) k) (entsV_one _) (by unfold maxLen; omega) (by omega) (by first | omega | ((simp) <;> omega)) ?_; intro ooA capA wA hownA hgrowA hooA; have HOA : Hid (wA.ownsRow w1.heap.size 126 2 (.slice ooA k capA) k (aX9 (es.take k))) := qhZ (by simpa using hownA); have HXA : Hid (wA.heap[w.heap.size]? = some (.cells #[.string xn, .int .i64 x.node] 126)) := qhZ ((hgrowA.block w.heap.size (by first | omega | ((simp) <;> omega)) (by first | omega | ((simp [Value.ownBlock]) <;> omega))).trans ((Below.heap_alloc _ _ _ (aB9 (HXa.out _))).trans (HXa.out _))); have HBA := qhZ (bB9 ((HBd.out.alloc HBd.out.size (.cells #[.string xn, .int .i64 x.node] 126)).alloc (by first | omega | ((simp) <;> omega)) (.cells #[] 126)) (by first | omega | ((simp) <;> omega)) (bF9 HOW3.out (Nat.le_of_lt hsd)) hgrowA); have HO6A : Hid (wA.ownsRow w5.heap.size 126 2 (.slice (some ad1) 0 cap1) 0 (aX9 (es.drop k))) := qhZ (World.ownsRow.kept (World.ownsRow.alloc (World.ownsRow.alloc HOd.out _) _) hgrowA (.inr (by simp [Value.ownBlock]; have := HAD.out.2.1; omega))); have HTB : Hid (wA.heap[w1.heap.size]? = some (.cells #[.string xn, .int .i64 x.node] 126)) := qhZ ((hgrowA.block w1.heap.size (by first | omega | ((simp) <;> omega)) (by first | omega | ((simp [Value.ownBlock]) <;> omega))).trans ((Below.heap_alloc (w1.drew.alloc (.cells #[.string xn, .int .i64 x.node] 126)) _ _ (by simp)).trans (heap_alloc_new w1.drew (.cells #[.string xn, .int .i64 x.node] 126)))); have hszA : w1.heap.size < wA.heap.size := Nat.lt_of_lt_of_le (by first | omega | ((simp) <;> omega)) hgrowA.size; have e0A : wA.cell? ⟨w.heap.size, 0, none⟩ = some (.string xn) := aA9 HXA.out 0; have e1A : wA.cell? ⟨w.heap.size, 1, none⟩ = some (.int .i64 x.node) := aA9 HXA.out 1; clear hownA hgrowA hooA)
           | (refine aN9 _ rfl (.tmp 33) (.tmp 35) 53 rfl w1.heap.size 126 i9 (.agg #[.string ⟨#[]⟩, .int .i64 0]) 2 24 Tryz.underlying53 hi9 hz0 hz1 hz2 rfl (by decide) (.slice ooA k capA) k (aX9 (es.take k)) (by simp [Act.eval, Act.put]) (World.ownsRow.alloc HOA.out _) ⟨wA.heap.size, 0, none⟩ 1 1 [.string xn, .int .i64 x.node] (by simp [Act.eval, Act.put]) rfl (cell_two_new wA _ _ _) (by simp [Value.oneCell']) (by unfold maxLen; omega) (by omega) (by first | omega | ((simp) <;> omega)) ?_; intro ooB capB wB hownB hgrowB hooB; have HOB := qhZ hownB; have HBB := qhZ (bB9 (HBA.out.alloc HBA.out.size (.cells #[.string xn, .int .i64 x.node] 126)) (by first | omega | ((simp) <;> omega)) (bF9 (World.ownsRow.alloc HOA.out _) (Nat.le_of_lt hsd)) hgrowB); have HO6B : Hid (wB.ownsRow w5.heap.size 126 2 (.slice (some ad1) 0 cap1) 0 (aX9 (es.drop k))) := qhZ (World.ownsRow.kept (World.ownsRow.alloc HO6A.out _) hgrowB (by refine .inr (fun h => ?_); have h9 := (World.ownsRow.lt HOA.out ad1.block h.symm).1; have := HAD.out.2.1; omega)); have hszB : wA.heap.size < wB.heap.size := Nat.lt_of_lt_of_le (by first | omega | ((simp) <;> omega)) hgrowB.size; clear hownB hgrowB hooB)
           | (refine aN9 _ rfl (.tmp 33) (.tmp 35) 53 rfl w1.heap.size 126 i9 (.agg #[.string ⟨#[]⟩, .int .i64 0]) 2 24 Tryz.underlying53 hi9 hz0 hz1 hz2 rfl (by decide) (.slice ooA k capA) k (aX9 (es.take k)) (by simp [Act.eval, Act.put]) HOA.out ⟨w1.heap.size + 1, 0, none⟩ 1 1 [.string xn, .int .i64 x.node] (by simp [Act.eval, Act.put]) rfl (cell_two_kept HTB.out) (by simp [Value.oneCell']) (by unfold maxLen; omega) (by omega) (by first | omega | ((simp) <;> omega)) ?_; intro ooB capB wB hownB hgrowB hooB; have HOB := qhZ hownB; have HBB := qhZ (bB9 HBA.out (by first | omega | ((simp) <;> omega)) (bF9 HOA.out (Nat.le_of_lt hsd)) hgrowB); have HO6B : Hid (wB.ownsRow w5.heap.size 126 2 (.slice (some ad1) 0 cap1) 0 (aX9 (es.drop k))) := qhZ (World.ownsRow.kept HO6A.out hgrowB (by refine .inr (fun h => ?_); have h9 := (World.ownsRow.lt HOA.out ad1.block h.symm).1; have := HAD.out.2.1; omega)); have hszB : wA.heap.size ≤ wB.heap.size := hgrowB.size; clear hownB hgrowB hooB)
           | (refine aN9 _ rfl (.tmp 33) (.tmp 35) 53 rfl w1.heap.size 126 i9 (.agg #[.string ⟨#[]⟩, .int .i64 0]) 2 24 Tryz.underlying53 hi9 hz0 hz1 hz2 rfl (by decide) (.slice ooA k capA) k (aX9 (es.take k)) (by simp [Act.eval, Act.put]) HOA.out ⟨w1.heap.size, 0, none⟩ 1 1 [.string xn, .int .i64 x.node] (by simp [Act.eval, Act.put]) rfl (cell_two_kept HTB.out) (by simp [Value.oneCell']) (by unfold maxLen; omega) (by omega) (by first | omega | ((simp) <;> omega)) ?_; intro ooB capB wB hownB hgrowB hooB; have HOB := qhZ hownB; have HBB := qhZ (bB9 HBA.out (by first | omega | ((simp) <;> omega)) (bF9 HOA.out (Nat.le_of_lt hsd)) hgrowB); have HO6B : Hid (wB.ownsRow w5.heap.size 126 2 (.slice (some ad1) 0 cap1) 0 (aX9 (es.drop k))) := qhZ (World.ownsRow.kept HO6A.out hgrowB (by refine .inr (fun h => ?_); have h9 := (World.ownsRow.lt HOA.out ad1.block h.symm).1; have := HAD.out.2.1; omega)); have hszB : wA.heap.size ≤ wB.heap.size := hgrowB.size; clear hownB hgrowB hooB)
           | (refine aN9 _ rfl (.tmp 36) (.tmp 37) 53 rfl w1.heap.size 126 i9 (.agg #[.string ⟨#[]⟩, .int .i64 0]) 2 24 Tryz.underlying53 hi9 hz0 hz1 hz2 rfl (by decide) (.slice ooB (k + 1) capB) (k + 1) (aX9 (es.take k) ++ [.string xn, .int .i64 x.node]) (by simp [Act.eval, Act.put]) HOB.out ad1 0 cap1 (aX9 (es.drop k)) (by simp [Act.eval, Act.put]) (by rw [bJ9, List.length_drop] <;> omega) (by have h8 := World.ownsRow.cells HO6B.out (g := ad1.block) rfl; rw [← HAD.out.1] at h8; exact h8) (entsV_one _) (by unfold maxLen; omega) (by omega) (by omega) ?_; intro ooC capC wC hownC hgrowC hooC; have HOC := qhZ hownC; have HBC := qhZ (bB9 HBB.out (by omega) (bF9 HOB.out (Nat.le_of_lt hsd)) hgrowC); clear hownC hgrowC hooC))
         all_goals
           go_wp2
           go_ret
           first | refine ⟨_, k, rfl, (by first | exact HLE.out | omega), HP.out, ?_, HBC.out⟩ | refine ⟨_, rfl, k, (by first | exact HLE.out | omega), HP.out, ?_, HBC.out⟩
           have hq := bF9 HOC.out (Nat.le_of_lt hsd)
           unfold Ents
           have e1 : (es.take k ++ x :: es.drop k).length = k + 1 + 0 := by simp; omega
           have e2 : aX9 (es.take k ++ x :: es.drop k) = aX9 (es.take k) ++ [.string xn, .int .i64 x.node] ++ aX9 (es.drop k) := by
             rw [entsV_app, show x :: es.drop k = [x] ++ es.drop k from rfl, entsV_app, HXN.out]
             simp [aX9, entV]
           rw [e1, e2]
           exact hq
     · have hck2 : ¬ k = cap := fun h => hck h.symm
       have HN1 := qhZ (ents_drop HE.out HBA.out k)
       go_wp2_with (at_builtin; refine wpList_append_own _ rfl _ _ 53 rfl w5.heap.size 126 i9 (.agg #[.string ⟨#[]⟩, .int .i64 0]) 2 24 Tryz.underlying53 hi9 hz0 hz1 hz2 rfl (by decide) _ 0 [] rfl (own_ent w5) ⟨g, k * 2, none⟩ (es.length - k) (cap - k) (aX9 (es.drop k)) rfl (by rw [bJ9]; simp) HN1.out (entsV_one _) (by unfold maxLen; omega) (by omega) (by simp) ?_)
       intro v1 w1 hown1 hgrow1 _
       have hb1 := bB9 (HB5.out.alloc HB5.out.size (.cells #[] 126)) (by simp; omega) (bF9 (own_ent w5) hB5) hgrow1
       have HB1 := qhZ hb1
       have HX1 : Hid (w1.heap[w.heap.size]? = some (.cells #[.string xn, .int .i64 x.node] 126)) := qhZ ((hgrow1.block w.heap.size (by simp; have := aB9 HX5.out; omega) (by simp [Value.ownBlock]; have := aB9 HX5.out; omega)).trans ((Below.heap_alloc w5 _ _ (aB9 HX5.out)).trans HX5.out))
       obtain ⟨oo1, cap1, rfl, hoo1⟩ := aM9 hown1
       have HO1' : Hid (w1.ownsRow w5.heap.size 126 2 (.slice oo1 (es.length - k) cap1) (es.length - k) (aX9 (es.drop k))) := qhZ (by simpa using hown1)
       clear hown1 hgrow1 hoo1 hb1 HN1
       have HBd := qhZ HB1.out.drew
       have HXd : Hid (w1.drew.heap[w.heap.size]? = some (.cells #[.string xn, .int .i64 x.node] 126)) := qhZ HX1.out
       have HOd : Hid (w1.drew.ownsRow w5.heap.size 126 2 (.slice oo1 (es.length - k) cap1) (es.length - k) (aX9 (es.drop k))) := qhZ HO1'.out
       have hkc : k ≤ cap := by have := HLE.out; omega
       have hkn := HLE.out
       have hsd : w.heap.size < w1.heap.size := aB9 HX1.out
       have HXa : Hid (∀ z, (w1.drew.alloc z).heap[w.heap.size]? = some (.cells #[.string xn, .int .i64 x.node] 126)) := qhZ (fun z => (Below.heap_alloc _ _ _ (aB9 HXd.out)).trans HXd.out)
       have HOW3 : Hid (((w1.drew.alloc (.cells #[.string xn, .int .i64 x.node] 126)).alloc (.cells #[] 126)).ownsRow w1.heap.size 126 2 (.slice (some ⟨w1.heap.size + 1, 0, none⟩) 0 0) 0 []) := qhZ (by have h9 := own_entB (w1.drew.alloc (.cells #[.string xn, .int .i64 x.node] 126)) w1.heap.size (by rw [World.size_alloc]; exact Nat.le_succ _); rw [World.size_alloc] at h9; exact h9)
       have k0 : w1.cell? ⟨w.heap.size, 0, none⟩ = some (.string xn) := aA9 HX1.out 0
       have k1 : w1.cell? ⟨w.heap.size, 1, none⟩ = some (.int .i64 x.node) := aA9 HX1.out 1
       go_wp2
       cases oo1 with
       | none =>
         have HZ : Hid (es.length - k = 0 ∧ cap1 = 0) := qhZ (by
           rcases HO1'.out.2 with ⟨e, _⟩ | ⟨g1, c1, cur, e, _⟩
           · simp only [Value.slice.injEq, true_and] at e; first | exact e | exact ⟨rfl, e⟩
           · cases e)
         obtain ⟨hzz1, rfl⟩ := HZ.out
         skip
         have HDR : Hid (es.drop k = []) := qhZ (List.eq_nil_of_length_eq_zero (by rw [List.length_drop]; have := HLE.out; omega))
         go_region_law (first
           | (refine aN9 _ rfl (.tmp 29) (.tmp 32) 53 rfl w1.heap.size 126 i9 (.agg #[.string ⟨#[]⟩, .int .i64 0]) 2 24 Tryz.underlying53 hi9 hz0 hz1 hz2 rfl (by decide) (.slice (some ⟨w1.heap.size, 0, none⟩) 0 0) 0 [] (by simp [Act.eval, Act.put]) (own_entB w1.drew w1.heap.size (Nat.le_refl _)) ⟨g, 0, none⟩ k cap (aX9 (es.take k)) (by simp [Act.eval, Act.put]) (by rw [bJ9]; simp; omega) (ents_take HE.out (HBd.out.alloc HBd.out.size (.cells #[] 126)) k) (entsV_one _) (by unfold maxLen; omega) (by omega) (by first | omega | ((simp) <;> omega)) ?_; intro ooA capA wA hownA hgrowA hooA; have HOA : Hid (wA.ownsRow w1.heap.size 126 2 (.slice ooA k capA) k (aX9 (es.take k))) := qhZ (by simpa using hownA); have HXA : Hid (wA.heap[w.heap.size]? = some (.cells #[.string xn, .int .i64 x.node] 126)) := qhZ ((hgrowA.block w.heap.size (by first | omega | ((simp) <;> omega)) (by first | omega | ((simp [Value.ownBlock]) <;> omega))).trans (HXa.out _)); have HBA := qhZ (bB9 (HBd.out.alloc HBd.out.size (.cells #[] 126)) (by first | omega | ((simp) <;> omega)) (bF9 (own_entB w1.drew w1.heap.size (Nat.le_refl _)) (Nat.le_of_lt hsd)) hgrowA); have HO6A : Hid (wA.ownsRow w5.heap.size 126 2 (.slice none (es.length - k) 0) (es.length - k) (aX9 (es.drop k))) := qhZ (World.ownsRow.kept (World.ownsRow.alloc HOd.out _) hgrowA (.inl rfl)); have hszA : w1.heap.size < wA.heap.size := Nat.lt_of_lt_of_le (by first | omega | ((simp) <;> omega)) hgrowA.size; have e0A : wA.cell? ⟨w.heap.size, 0, none⟩ = some (.string xn) := aA9 HXA.out 0; have e1A : wA.cell? ⟨w.heap.size, 1, none⟩ = some (.int .i64 x.node) := aA9 HXA.out 1; clear hownA hgrowA hooA)
           | (refine aN9 _ rfl (.tmp 29) (.tmp 32) 53 rfl w1.heap.size 126 i9 (.agg #[.string ⟨#[]⟩, .int .i64 0]) 2 24 Tryz.underlying53 hi9 hz0 hz1 hz2 rfl (by decide) (.slice (some ⟨w1.heap.size, 0, none⟩) 0 0) 0 [] (by simp [Act.eval, Act.put]) (World.ownsRow.alloc (own_entB w1.drew w1.heap.size (Nat.le_refl _)) (.cells #[.string xn, .int .i64 x.node] 126)) ⟨g, 0, none⟩ k cap (aX9 (es.take k)) (by simp [Act.eval, Act.put]) (by rw [bJ9]; simp; omega) (ents_take HE.out ((HBd.out.alloc HBd.out.size (.cells #[] 126)).alloc (by first | omega | ((simp) <;> omega)) (.cells #[.string xn, .int .i64 x.node] 126)) k) (entsV_one _) (by unfold maxLen; omega) (by omega) (by first | omega | ((simp) <;> omega)) ?_; intro ooA capA wA hownA hgrowA hooA; have HOA : Hid (wA.ownsRow w1.heap.size 126 2 (.slice ooA k capA) k (aX9 (es.take k))) := qhZ (by simpa using hownA); have HXA : Hid (wA.heap[w.heap.size]? = some (.cells #[.string xn, .int .i64 x.node] 126)) := qhZ ((hgrowA.block w.heap.size (by first | omega | ((simp) <;> omega)) (by first | omega | ((simp [Value.ownBlock]) <;> omega))).trans ((Below.heap_alloc _ _ _ (aB9 (HXa.out _))).trans (HXa.out _))); have HBA := qhZ (bB9 ((HBd.out.alloc HBd.out.size (.cells #[] 126)).alloc (by first | omega | ((simp) <;> omega)) (.cells #[.string xn, .int .i64 x.node] 126)) (by first | omega | ((simp) <;> omega)) (bF9 (World.ownsRow.alloc (own_entB w1.drew w1.heap.size (Nat.le_refl _)) (.cells #[.string xn, .int .i64 x.node] 126)) (Nat.le_of_lt hsd)) hgrowA); have HO6A : Hid (wA.ownsRow w5.heap.size 126 2 (.slice none (es.length - k) 0) (es.length - k) (aX9 (es.drop k))) := qhZ (World.ownsRow.kept (World.ownsRow.alloc (World.ownsRow.alloc HOd.out _) _) hgrowA (.inl rfl)); have HTB : Hid (wA.heap[w1.heap.size + 1]? = some (.cells #[.string xn, .int .i64 x.node] 126)) := qhZ ((hgrowA.block (w1.heap.size + 1) (by first | omega | ((simp) <;> omega)) (by first | omega | ((simp [Value.ownBlock]) <;> omega))).trans (by have h9 := heap_alloc_new (w1.drew.alloc (.cells #[] 126)) (.cells #[.string xn, .int .i64 x.node] 126); rw [World.size_alloc] at h9; exact h9)); have hszA : w1.heap.size < wA.heap.size := Nat.lt_of_lt_of_le (by first | omega | ((simp) <;> omega)) hgrowA.size; have e0A : wA.cell? ⟨w.heap.size, 0, none⟩ = some (.string xn) := aA9 HXA.out 0; have e1A : wA.cell? ⟨w.heap.size, 1, none⟩ = some (.int .i64 x.node) := aA9 HXA.out 1; clear hownA hgrowA hooA)
           | (refine aN9 _ rfl (.tmp 29) (.tmp 32) 53 rfl w1.heap.size 126 i9 (.agg #[.string ⟨#[]⟩, .int .i64 0]) 2 24 Tryz.underlying53 hi9 hz0 hz1 hz2 rfl (by decide) (.slice (some ⟨w1.heap.size + 1, 0, none⟩) 0 0) 0 [] (by simp [Act.eval, Act.put]) HOW3.out ⟨g, 0, none⟩ k cap (aX9 (es.take k)) (by simp [Act.eval, Act.put]) (by rw [bJ9]; simp; omega) (ents_take HE.out ((HBd.out.alloc HBd.out.size (.cells #[.string xn, .int .i64 x.node] 126)).alloc (by first | omega | ((simp) <;> omega)) (.cells #[] 126)) k) (entsV_one _) (by unfold maxLen; omega) (by omega) (by first | omega | ((simp) <;> omega)) ?_; intro ooA capA wA hownA hgrowA hooA; have HOA : Hid (wA.ownsRow w1.heap.size 126 2 (.slice ooA k capA) k (aX9 (es.take k))) := qhZ (by simpa using hownA); have HXA : Hid (wA.heap[w.heap.size]? = some (.cells #[.string xn, .int .i64 x.node] 126)) := qhZ ((hgrowA.block w.heap.size (by first | omega | ((simp) <;> omega)) (by first | omega | ((simp [Value.ownBlock]) <;> omega))).trans ((Below.heap_alloc _ _ _ (aB9 (HXa.out _))).trans (HXa.out _))); have HBA := qhZ (bB9 ((HBd.out.alloc HBd.out.size (.cells #[.string xn, .int .i64 x.node] 126)).alloc (by first | omega | ((simp) <;> omega)) (.cells #[] 126)) (by first | omega | ((simp) <;> omega)) (bF9 HOW3.out (Nat.le_of_lt hsd)) hgrowA); have HO6A : Hid (wA.ownsRow w5.heap.size 126 2 (.slice none (es.length - k) 0) (es.length - k) (aX9 (es.drop k))) := qhZ (World.ownsRow.kept (World.ownsRow.alloc (World.ownsRow.alloc HOd.out _) _) hgrowA (.inl rfl)); have HTB : Hid (wA.heap[w1.heap.size]? = some (.cells #[.string xn, .int .i64 x.node] 126)) := qhZ ((hgrowA.block w1.heap.size (by first | omega | ((simp) <;> omega)) (by first | omega | ((simp [Value.ownBlock]) <;> omega))).trans ((Below.heap_alloc (w1.drew.alloc (.cells #[.string xn, .int .i64 x.node] 126)) _ _ (by simp)).trans (heap_alloc_new w1.drew (.cells #[.string xn, .int .i64 x.node] 126)))); have hszA : w1.heap.size < wA.heap.size := Nat.lt_of_lt_of_le (by first | omega | ((simp) <;> omega)) hgrowA.size; have e0A : wA.cell? ⟨w.heap.size, 0, none⟩ = some (.string xn) := aA9 HXA.out 0; have e1A : wA.cell? ⟨w.heap.size, 1, none⟩ = some (.int .i64 x.node) := aA9 HXA.out 1; clear hownA hgrowA hooA)
           | (refine aN9 _ rfl (.tmp 33) (.tmp 35) 53 rfl w1.heap.size 126 i9 (.agg #[.string ⟨#[]⟩, .int .i64 0]) 2 24 Tryz.underlying53 hi9 hz0 hz1 hz2 rfl (by decide) (.slice ooA k capA) k (aX9 (es.take k)) (by simp [Act.eval, Act.put]) (World.ownsRow.alloc HOA.out _) ⟨wA.heap.size, 0, none⟩ 1 1 [.string xn, .int .i64 x.node] (by simp [Act.eval, Act.put]) rfl (cell_two_new wA _ _ _) (by simp [Value.oneCell']) (by unfold maxLen; omega) (by omega) (by first | omega | ((simp) <;> omega)) ?_; intro ooB capB wB hownB hgrowB hooB; have HOB := qhZ hownB; have HCB := qhZ (owns_cap hownB); have HBB := qhZ (bB9 (HBA.out.alloc HBA.out.size (.cells #[.string xn, .int .i64 x.node] 126)) (by first | omega | ((simp) <;> omega)) (bF9 (World.ownsRow.alloc HOA.out _) (Nat.le_of_lt hsd)) hgrowB); have HO6B : Hid (wB.ownsRow w5.heap.size 126 2 (.slice none (es.length - k) 0) (es.length - k) (aX9 (es.drop k))) := qhZ (World.ownsRow.kept (World.ownsRow.alloc HO6A.out _) hgrowB (.inl rfl)); have hszB : wA.heap.size < wB.heap.size := Nat.lt_of_lt_of_le (by first | omega | ((simp) <;> omega)) hgrowB.size; clear hownB hgrowB hooB)
           | (refine aN9 _ rfl (.tmp 33) (.tmp 35) 53 rfl w1.heap.size 126 i9 (.agg #[.string ⟨#[]⟩, .int .i64 0]) 2 24 Tryz.underlying53 hi9 hz0 hz1 hz2 rfl (by decide) (.slice ooA k capA) k (aX9 (es.take k)) (by simp [Act.eval, Act.put]) HOA.out ⟨w1.heap.size + 1, 0, none⟩ 1 1 [.string xn, .int .i64 x.node] (by simp [Act.eval, Act.put]) rfl (cell_two_kept HTB.out) (by simp [Value.oneCell']) (by unfold maxLen; omega) (by omega) (by first | omega | ((simp) <;> omega)) ?_; intro ooB capB wB hownB hgrowB hooB; have HOB := qhZ hownB; have HCB := qhZ (owns_cap hownB); have HBB := qhZ (bB9 HBA.out (by first | omega | ((simp) <;> omega)) (bF9 HOA.out (Nat.le_of_lt hsd)) hgrowB); have HO6B : Hid (wB.ownsRow w5.heap.size 126 2 (.slice none (es.length - k) 0) (es.length - k) (aX9 (es.drop k))) := qhZ (World.ownsRow.kept HO6A.out hgrowB (.inl rfl)); have hszB : wA.heap.size ≤ wB.heap.size := hgrowB.size; clear hownB hgrowB hooB)
           | (refine aN9 _ rfl (.tmp 33) (.tmp 35) 53 rfl w1.heap.size 126 i9 (.agg #[.string ⟨#[]⟩, .int .i64 0]) 2 24 Tryz.underlying53 hi9 hz0 hz1 hz2 rfl (by decide) (.slice ooA k capA) k (aX9 (es.take k)) (by simp [Act.eval, Act.put]) HOA.out ⟨w1.heap.size, 0, none⟩ 1 1 [.string xn, .int .i64 x.node] (by simp [Act.eval, Act.put]) rfl (cell_two_kept HTB.out) (by simp [Value.oneCell']) (by unfold maxLen; omega) (by omega) (by first | omega | ((simp) <;> omega)) ?_; intro ooB capB wB hownB hgrowB hooB; have HOB := qhZ hownB; have HCB := qhZ (owns_cap hownB); have HBB := qhZ (bB9 HBA.out (by first | omega | ((simp) <;> omega)) (bF9 HOA.out (Nat.le_of_lt hsd)) hgrowB); have HO6B : Hid (wB.ownsRow w5.heap.size 126 2 (.slice none (es.length - k) 0) (es.length - k) (aX9 (es.drop k))) := qhZ (World.ownsRow.kept HO6A.out hgrowB (.inl rfl)); have hszB : wA.heap.size ≤ wB.heap.size := hgrowB.size; clear hownB hgrowB hooB)
           | (refine step_append_noneE _ rfl (.tmp 36) (.tmp 37) 53 rfl 126 i9 Tryz.underlying53 hi9 ooB (k + 1) capB 0 (by simp [Act.eval, Act.put]) (by simp [Act.eval, Act.put]) HCB.out ?_))
         all_goals
           go_wp2
           go_ret
           first | refine ⟨_, k, rfl, (by first | exact HLE.out | omega), HP.out, ?_, HBB.out⟩ | refine ⟨_, rfl, k, (by first | exact HLE.out | omega), HP.out, ?_, HBB.out⟩
           have hq := bF9 HOB.out (Nat.le_of_lt hsd)
           unfold Ents
           have e1 : (es.take k ++ x :: es.drop k).length = k + 1 := by rw [HDR.out]; simp; have := HLE.out; omega
           have e2 : aX9 (es.take k ++ x :: es.drop k) = aX9 (es.take k) ++ [.string xn, .int .i64 x.node] := by
             rw [HDR.out, entsV_app, HXN.out]
             simp [aX9, entV]
           rw [e1, e2]
           exact hq
       | some ad1 =>
         have HAD : Hid (ad1 = ⟨ad1.block, 0, none⟩ ∧ ad1.block < w1.heap.size ∧ cap1 ≤ maxLen) := qhZ (by
           rcases HO1'.out.2 with ⟨e, _⟩ | ⟨g1, c1, cur, e, _, hg1, _, hm1, _⟩
           · cases e
           · simp only [Value.slice.injEq, Option.some.injEq] at e
             obtain ⟨rfl, -, rfl⟩ := e
             exact ⟨rfl, aB9 hg1, hm1⟩)
         go_region_law (first
           | (refine aN9 _ rfl (.tmp 29) (.tmp 32) 53 rfl w1.heap.size 126 i9 (.agg #[.string ⟨#[]⟩, .int .i64 0]) 2 24 Tryz.underlying53 hi9 hz0 hz1 hz2 rfl (by decide) (.slice (some ⟨w1.heap.size, 0, none⟩) 0 0) 0 [] (by simp [Act.eval, Act.put]) (own_entB w1.drew w1.heap.size (Nat.le_refl _)) ⟨g, 0, none⟩ k cap (aX9 (es.take k)) (by simp [Act.eval, Act.put]) (by rw [bJ9]; simp; omega) (ents_take HE.out (HBd.out.alloc HBd.out.size (.cells #[] 126)) k) (entsV_one _) (by unfold maxLen; omega) (by omega) (by first | omega | ((simp) <;> omega)) ?_; intro ooA capA wA hownA hgrowA hooA; have HOA : Hid (wA.ownsRow w1.heap.size 126 2 (.slice ooA k capA) k (aX9 (es.take k))) := qhZ (by simpa using hownA); have HXA : Hid (wA.heap[w.heap.size]? = some (.cells #[.string xn, .int .i64 x.node] 126)) := qhZ ((hgrowA.block w.heap.size (by first | omega | ((simp) <;> omega)) (by first | omega | ((simp [Value.ownBlock]) <;> omega))).trans (HXa.out _)); have HBA := qhZ (bB9 (HBd.out.alloc HBd.out.size (.cells #[] 126)) (by first | omega | ((simp) <;> omega)) (bF9 (own_entB w1.drew w1.heap.size (Nat.le_refl _)) (Nat.le_of_lt hsd)) hgrowA); have HO6A : Hid (wA.ownsRow w5.heap.size 126 2 (.slice (some ad1) (es.length - k) cap1) (es.length - k) (aX9 (es.drop k))) := qhZ (World.ownsRow.kept (World.ownsRow.alloc HOd.out _) hgrowA (.inr (by simp [Value.ownBlock]; have := HAD.out.2.1; omega))); have hszA : w1.heap.size < wA.heap.size := Nat.lt_of_lt_of_le (by first | omega | ((simp) <;> omega)) hgrowA.size; have e0A : wA.cell? ⟨w.heap.size, 0, none⟩ = some (.string xn) := aA9 HXA.out 0; have e1A : wA.cell? ⟨w.heap.size, 1, none⟩ = some (.int .i64 x.node) := aA9 HXA.out 1; clear hownA hgrowA hooA)
           | (refine aN9 _ rfl (.tmp 29) (.tmp 32) 53 rfl w1.heap.size 126 i9 (.agg #[.string ⟨#[]⟩, .int .i64 0]) 2 24 Tryz.underlying53 hi9 hz0 hz1 hz2 rfl (by decide) (.slice (some ⟨w1.heap.size, 0, none⟩) 0 0) 0 [] (by simp [Act.eval, Act.put]) (World.ownsRow.alloc (own_entB w1.drew w1.heap.size (Nat.le_refl _)) (.cells #[.string xn, .int .i64 x.node] 126)) ⟨g, 0, none⟩ k cap (aX9 (es.take k)) (by simp [Act.eval, Act.put]) (by rw [bJ9]; simp; omega) (ents_take HE.out ((HBd.out.alloc HBd.out.size (.cells #[] 126)).alloc (by first | omega | ((simp) <;> omega)) (.cells #[.string xn, .int .i64 x.node] 126)) k) (entsV_one _) (by unfold maxLen; omega) (by omega) (by first | omega | ((simp) <;> omega)) ?_; intro ooA capA wA hownA hgrowA hooA; have HOA : Hid (wA.ownsRow w1.heap.size 126 2 (.slice ooA k capA) k (aX9 (es.take k))) := qhZ (by simpa using hownA); have HXA : Hid (wA.heap[w.heap.size]? = some (.cells #[.string xn, .int .i64 x.node] 126)) := qhZ ((hgrowA.block w.heap.size (by first | omega | ((simp) <;> omega)) (by first | omega | ((simp [Value.ownBlock]) <;> omega))).trans ((Below.heap_alloc _ _ _ (aB9 (HXa.out _))).trans (HXa.out _))); have HBA := qhZ (bB9 ((HBd.out.alloc HBd.out.size (.cells #[] 126)).alloc (by first | omega | ((simp) <;> omega)) (.cells #[.string xn, .int .i64 x.node] 126)) (by first | omega | ((simp) <;> omega)) (bF9 (World.ownsRow.alloc (own_entB w1.drew w1.heap.size (Nat.le_refl _)) (.cells #[.string xn, .int .i64 x.node] 126)) (Nat.le_of_lt hsd)) hgrowA); have HO6A : Hid (wA.ownsRow w5.heap.size 126 2 (.slice (some ad1) (es.length - k) cap1) (es.length - k) (aX9 (es.drop k))) := qhZ (World.ownsRow.kept (World.ownsRow.alloc (World.ownsRow.alloc HOd.out _) _) hgrowA (.inr (by simp [Value.ownBlock]; have := HAD.out.2.1; omega))); have HTB : Hid (wA.heap[w1.heap.size + 1]? = some (.cells #[.string xn, .int .i64 x.node] 126)) := qhZ ((hgrowA.block (w1.heap.size + 1) (by first | omega | ((simp) <;> omega)) (by first | omega | ((simp [Value.ownBlock]) <;> omega))).trans (by have h9 := heap_alloc_new (w1.drew.alloc (.cells #[] 126)) (.cells #[.string xn, .int .i64 x.node] 126); rw [World.size_alloc] at h9; exact h9)); have hszA : w1.heap.size < wA.heap.size := Nat.lt_of_lt_of_le (by first | omega | ((simp) <;> omega)) hgrowA.size; have e0A : wA.cell? ⟨w.heap.size, 0, none⟩ = some (.string xn) := aA9 HXA.out 0; have e1A : wA.cell? ⟨w.heap.size, 1, none⟩ = some (.int .i64 x.node) := aA9 HXA.out 1; clear hownA hgrowA hooA)
           | (refine aN9 _ rfl (.tmp 29) (.tmp 32) 53 rfl w1.heap.size 126 i9 (.agg #[.string ⟨#[]⟩, .int .i64 0]) 2 24 Tryz.underlying53 hi9 hz0 hz1 hz2 rfl (by decide) (.slice (some ⟨w1.heap.size + 1, 0, none⟩) 0 0) 0 [] (by simp [Act.eval, Act.put]) HOW3.out ⟨g, 0, none⟩ k cap (aX9 (es.take k)) (by simp [Act.eval, Act.put]) (by rw [bJ9]; simp; omega) (ents_take HE.out ((HBd.out.alloc HBd.out.size (.cells #[.string xn, .int .i64 x.node] 126)).alloc (by first | omega | ((simp) <;> omega)) (.cells #[] 126)) k) (entsV_one _) (by unfold maxLen; omega) (by omega) (by first | omega | ((simp) <;> omega)) ?_; intro ooA capA wA hownA hgrowA hooA; have HOA : Hid (wA.ownsRow w1.heap.size 126 2 (.slice ooA k capA) k (aX9 (es.take k))) := qhZ (by simpa using hownA); have HXA : Hid (wA.heap[w.heap.size]? = some (.cells #[.string xn, .int .i64 x.node] 126)) := qhZ ((hgrowA.block w.heap.size (by first | omega | ((simp) <;> omega)) (by first | omega | ((simp [Value.ownBlock]) <;> omega))).trans ((Below.heap_alloc _ _ _ (aB9 (HXa.out _))).trans (HXa.out _))); have HBA := qhZ (bB9 ((HBd.out.alloc HBd.out.size (.cells #[.string xn, .int .i64 x.node] 126)).alloc (by first | omega | ((simp) <;> omega)) (.cells #[] 126)) (by first | omega | ((simp) <;> omega)) (bF9 HOW3.out (Nat.le_of_lt hsd)) hgrowA); have HO6A : Hid (wA.ownsRow w5.heap.size 126 2 (.slice (some ad1) (es.length - k) cap1) (es.length - k) (aX9 (es.drop k))) := qhZ (World.ownsRow.kept (World.ownsRow.alloc (World.ownsRow.alloc HOd.out _) _) hgrowA (.inr (by simp [Value.ownBlock]; have := HAD.out.2.1; omega))); have HTB : Hid (wA.heap[w1.heap.size]? = some (.cells #[.string xn, .int .i64 x.node] 126)) := qhZ ((hgrowA.block w1.heap.size (by first | omega | ((simp) <;> omega)) (by first | omega | ((simp [Value.ownBlock]) <;> omega))).trans ((Below.heap_alloc (w1.drew.alloc (.cells #[.string xn, .int .i64 x.node] 126)) _ _ (by simp)).trans (heap_alloc_new w1.drew (.cells #[.string xn, .int .i64 x.node] 126)))); have hszA : w1.heap.size < wA.heap.size := Nat.lt_of_lt_of_le (by first | omega | ((simp) <;> omega)) hgrowA.size; have e0A : wA.cell? ⟨w.heap.size, 0, none⟩ = some (.string xn) := aA9 HXA.out 0; have e1A : wA.cell? ⟨w.heap.size, 1, none⟩ = some (.int .i64 x.node) := aA9 HXA.out 1; clear hownA hgrowA hooA)
           | (refine aN9 _ rfl (.tmp 33) (.tmp 35) 53 rfl w1.heap.size 126 i9 (.agg #[.string ⟨#[]⟩, .int .i64 0]) 2 24 Tryz.underlying53 hi9 hz0 hz1 hz2 rfl (by decide) (.slice ooA k capA) k (aX9 (es.take k)) (by simp [Act.eval, Act.put]) (World.ownsRow.alloc HOA.out _) ⟨wA.heap.size, 0, none⟩ 1 1 [.string xn, .int .i64 x.node] (by simp [Act.eval, Act.put]) rfl (cell_two_new wA _ _ _) (by simp [Value.oneCell']) (by unfold maxLen; omega) (by omega) (by first | omega | ((simp) <;> omega)) ?_; intro ooB capB wB hownB hgrowB hooB; have HOB := qhZ hownB; have HBB := qhZ (bB9 (HBA.out.alloc HBA.out.size (.cells #[.string xn, .int .i64 x.node] 126)) (by first | omega | ((simp) <;> omega)) (bF9 (World.ownsRow.alloc HOA.out _) (Nat.le_of_lt hsd)) hgrowB); have HO6B : Hid (wB.ownsRow w5.heap.size 126 2 (.slice (some ad1) (es.length - k) cap1) (es.length - k) (aX9 (es.drop k))) := qhZ (World.ownsRow.kept (World.ownsRow.alloc HO6A.out _) hgrowB (by refine .inr (fun h => ?_); have h9 := (World.ownsRow.lt HOA.out ad1.block h.symm).1; have := HAD.out.2.1; omega)); have hszB : wA.heap.size < wB.heap.size := Nat.lt_of_lt_of_le (by first | omega | ((simp) <;> omega)) hgrowB.size; clear hownB hgrowB hooB)
           | (refine aN9 _ rfl (.tmp 33) (.tmp 35) 53 rfl w1.heap.size 126 i9 (.agg #[.string ⟨#[]⟩, .int .i64 0]) 2 24 Tryz.underlying53 hi9 hz0 hz1 hz2 rfl (by decide) (.slice ooA k capA) k (aX9 (es.take k)) (by simp [Act.eval, Act.put]) HOA.out ⟨w1.heap.size + 1, 0, none⟩ 1 1 [.string xn, .int .i64 x.node] (by simp [Act.eval, Act.put]) rfl (cell_two_kept HTB.out) (by simp [Value.oneCell']) (by unfold maxLen; omega) (by omega) (by first | omega | ((simp) <;> omega)) ?_; intro ooB capB wB hownB hgrowB hooB; have HOB := qhZ hownB; have HBB := qhZ (bB9 HBA.out (by first | omega | ((simp) <;> omega)) (bF9 HOA.out (Nat.le_of_lt hsd)) hgrowB); have HO6B : Hid (wB.ownsRow w5.heap.size 126 2 (.slice (some ad1) (es.length - k) cap1) (es.length - k) (aX9 (es.drop k))) := qhZ (World.ownsRow.kept HO6A.out hgrowB (by refine .inr (fun h => ?_); have h9 := (World.ownsRow.lt HOA.out ad1.block h.symm).1; have := HAD.out.2.1; omega)); have hszB : wA.heap.size ≤ wB.heap.size := hgrowB.size; clear hownB hgrowB hooB)
           | (refine aN9 _ rfl (.tmp 33) (.tmp 35) 53 rfl w1.heap.size 126 i9 (.agg #[.string ⟨#[]⟩, .int .i64 0]) 2 24 Tryz.underlying53 hi9 hz0 hz1 hz2 rfl (by decide) (.slice ooA k capA) k (aX9 (es.take k)) (by simp [Act.eval, Act.put]) HOA.out ⟨w1.heap.size, 0, none⟩ 1 1 [.string xn, .int .i64 x.node] (by simp [Act.eval, Act.put]) rfl (cell_two_kept HTB.out) (by simp [Value.oneCell']) (by unfold maxLen; omega) (by omega) (by first | omega | ((simp) <;> omega)) ?_; intro ooB capB wB hownB hgrowB hooB; have HOB := qhZ hownB; have HBB := qhZ (bB9 HBA.out (by first | omega | ((simp) <;> omega)) (bF9 HOA.out (Nat.le_of_lt hsd)) hgrowB); have HO6B : Hid (wB.ownsRow w5.heap.size 126 2 (.slice (some ad1) (es.length - k) cap1) (es.length - k) (aX9 (es.drop k))) := qhZ (World.ownsRow.kept HO6A.out hgrowB (by refine .inr (fun h => ?_); have h9 := (World.ownsRow.lt HOA.out ad1.block h.symm).1; have := HAD.out.2.1; omega)); have hszB : wA.heap.size ≤ wB.heap.size := hgrowB.size; clear hownB hgrowB hooB)
           | (refine aN9 _ rfl (.tmp 36) (.tmp 37) 53 rfl w1.heap.size 126 i9 (.agg #[.string ⟨#[]⟩, .int .i64 0]) 2 24 Tryz.underlying53 hi9 hz0 hz1 hz2 rfl (by decide) (.slice ooB (k + 1) capB) (k + 1) (aX9 (es.take k) ++ [.string xn, .int .i64 x.node]) (by simp [Act.eval, Act.put]) HOB.out ad1 (es.length - k) cap1 (aX9 (es.drop k)) (by simp [Act.eval, Act.put]) (by rw [bJ9, List.length_drop] <;> omega) (by have h8 := World.ownsRow.cells HO6B.out (g := ad1.block) rfl; rw [← HAD.out.1] at h8; exact h8) (entsV_one _) (by unfold maxLen; omega) (by omega) (by omega) ?_; intro ooC capC wC hownC hgrowC hooC; have HOC := qhZ hownC; have HBC := qhZ (bB9 HBB.out (by omega) (bF9 HOB.out (Nat.le_of_lt hsd)) hgrowC); clear hownC hgrowC hooC))
         all_goals
           go_wp2
           go_ret
           first | refine ⟨_, k, rfl, (by first | exact HLE.out | omega), HP.out, ?_, HBC.out⟩ | refine ⟨_, rfl, k, (by first | exact HLE.out | omega), HP.out, ?_, HBC.out⟩
           have hq := bF9 HOC.out (Nat.le_of_lt hsd)
           unfold Ents
           have e1 : (es.take k ++ x :: es.drop k).length = k + 1 + (es.length - k) := by simp; omega
           have e2 : aX9 (es.take k ++ x :: es.drop k) = aX9 (es.take k) ++ [.string xn, .int .i64 x.node] ++ aX9 (es.drop k) := by
             rw [entsV_app, show x :: es.drop k = [x] ++ es.drop k from rfl, entsV_app, HXN.out]
             simp [aX9, entV]
           rw [e1, e2]
           exact hq
set_option maxRecDepth 100000 in
theorem l3Lay_nil (x : Ent) (w : World) :
   Calls Tryz.prog 106 #[.slice none 0 0, .agg #[.string (bs x.name), .int .i64 x.node]] w fun e w' => ∃ v', e = .returned v' ∧ Ents w' w.heap.size v' [x] ∧ Below w.heap.size w w' := by
 obtain ⟨i9, hi9, hz0, hz1, hz2⟩ := info_ent
 obtain ⟨xn, hxn⟩ : ∃ xn, xn = bs x.name := ⟨_, rfl⟩
 have HXN := qhZ hxn
 rw [← hxn]
 clear hxn
 have HBx : Hid (Below w.heap.size w (w.alloc (.cells #[.string xn, .int .i64 x.node] 126))) := qhZ ((Below.refl _ _).alloc (Nat.le_refl _) _)
 have HXx := qhZ (heap_alloc_new w (.cells #[.string xn, .int .i64 x.node] 126))
 go_enter Tryz.func106, Tryz.ntmps106
 go_wp2
 go_loopw [5] (fun i wr => i = .int .i64 0 ∧ Below w.heap.size w wr ∧ wr.heap[w.heap.size]? = some (.cells #[.string xn, .int .i64 x.node] 126)) (fun i _ => 0)
 case atStart => exact ⟨rfl, HBx.out, HXx.out⟩
 case round =>
   obtain ⟨rfl, hB, hX⟩ := hrel
   have HB := qhZ hB
   have HX := qhZ hX
   clear hB hX HBx HXx
   go_wp2
   refine wp_region_quiet_below (by kernel_rfl) (by kernel_rfl) ?_
   repeat (first | go_big_quiet_step (fail) | quiet_step (fail))
   refine wpQuiet_nil ?_
   intro w5 hwq
   have hb5 : Below wr.heap.size wr w5 := by
     obtain ⟨pp, rfl⟩ := hwq
     exact below_regrown _ _ _
   have HB5 := qhZ (HB.out.trans (hb5.mono HB.out.size))
   have HX5 := qhZ ((hb5.block w.heap.size (aB9 HX.out)).trans HX.out)
   clear hwq hb5
   go_wp2_with (at_builtin; refine wpList_append_own_none rfl _ _ 53 rfl w5.heap.size 126 i9 2 Tryz.underlying53 hi9 _ _ _ rfl (own_ent w5) rfl ?_)
   have HB1 : Hid (Below w.heap.size w (w5.alloc (.cells #[] 126))) := qhZ (HB5.out.alloc HB5.out.size _)
   have HX1 : Hid ((w5.alloc (.cells #[] 126)).heap[w.heap.size]? = some (.cells #[.string xn, .int .i64 x.node] 126)) := qhZ ((Below.heap_alloc _ _ _ (aB9 HX5.out)).trans HX5.out)
   obtain ⟨b6, hb6⟩ : ∃ b6, b6 = w5.heap.size := ⟨_, rfl⟩
   have HB6 : Hid (b6 < (w5.alloc (.cells #[] 126)).heap.size) := qhZ (by rw [hb6]; simp)
   obtain ⟨w1, hw1⟩ : ∃ w1, w5.alloc (.cells #[] 126) = w1 := ⟨_, rfl⟩
   rw [hw1] at HB1 HX1 HB6 ⊢
   rw [← hb6]
   clear hw1 hb6
   have hsd : w.heap.size < w1.heap.size := aB9 HX1.out
   have HBd := qhZ HB1.out.drew
   have HOW1 : Hid (((w1.drew.alloc (.cells #[] 126)).alloc (.cells #[.string xn, .int .i64 x.node] 126)).ownsRow w1.heap.size 126 2 (.slice (some ⟨w1.heap.size, 0, none⟩) 0 0) 0 []) := qhZ (World.ownsRow.alloc (own_entB w1.drew w1.heap.size (Nat.le_refl _)) _)
   have HOW3 : Hid (((w1.drew.alloc (.cells #[.string xn, .int .i64 x.node] 126)).alloc (.cells #[] 126)).ownsRow w1.heap.size 126 2 (.slice (some ⟨w1.heap.size + 1, 0, none⟩) 0 0) 0 []) := qhZ (by have h9 := own_entB (w1.drew.alloc (.cells #[.string xn, .int .i64 x.node] 126)) w1.heap.size (by rw [World.size_alloc]; exact Nat.le_succ _); rw [World.size_alloc] at h9; exact h9)
   have HBW1 : Hid (Below w.heap.size w ((w1.drew.alloc (.cells #[] 126)).alloc (.cells #[.string xn, .int .i64 x.node] 126))) := qhZ ((HBd.out.alloc HBd.out.size _).alloc (by simp; omega) _)
   have HBW3 : Hid (Below w.heap.size w ((w1.drew.alloc (.cells #[.string xn, .int .i64 x.node] 126)).alloc (.cells #[] 126))) := qhZ ((HBd.out.alloc HBd.out.size _).alloc (by simp; omega) _)
   have HCW1 : Hid (∀ j u, [Value.string xn, .int .i64 x.node][j]? = some u → ((w1.drew.alloc (.cells #[] 126)).alloc (.cells #[.string xn, .int .i64 x.node] 126)).cell? ((⟨w1.heap.size + 1, 0, none⟩ : Addr).add j) = some u) := qhZ (by have h9 := cell_two_new (w1.drew.alloc (.cells #[] 126)) (.string xn) (.int .i64 x.node) 126; rw [World.size_alloc] at h9; exact h9)
   have HCW3 : Hid (∀ j u, [Value.string xn, .int .i64 x.node][j]? = some u → ((w1.drew.alloc (.cells #[.string xn, .int .i64 x.node] 126)).alloc (.cells #[] 126)).cell? ((⟨w1.heap.size, 0, none⟩ : Addr).add j) = some u) := qhZ (cell_two_kept ((Below.heap_alloc (w1.drew.alloc (.cells #[.string xn, .int .i64 x.node] 126)) _ _ (by simp)).trans (heap_alloc_new w1.drew (.cells #[.string xn, .int .i64 x.node] 126))))
   have k0 : w1.cell? ⟨w.heap.size, 0, none⟩ = some (.string xn) := aA9 HX1.out 0
   have k1 : w1.cell? ⟨w.heap.size, 1, none⟩ = some (.int .i64 x.node) := aA9 HX1.out 1
   clear HB HX HB5 HX5
   go_wp2
   go_region_law (first
     | (refine step_append_noneE _ rfl (.tmp 29) (.tmp 32) 53 rfl 126 i9 Tryz.underlying53 hi9 (some ⟨w1.heap.size, 0, none⟩) 0 0 0 rfl rfl (Nat.le_refl _) ?_)
     | (refine step_append_noneE _ rfl (.tmp 29) (.tmp 32) 53 rfl 126 i9 Tryz.underlying53 hi9 (some ⟨w1.heap.size + 1, 0, none⟩) 0 0 0 rfl rfl (Nat.le_refl _) ?_)
     | (refine aN9 _ rfl (.tmp 33) (.tmp 35) 53 rfl w1.heap.size 126 i9 (.agg #[.string ⟨#[]⟩, .int .i64 0]) 2 24 Tryz.underlying53 hi9 hz0 hz1 hz2 rfl (by decide) (.slice (some ⟨w1.heap.size, 0, none⟩) 0 0) 0 [] (by simp [Act.eval, Act.put]) HOW1.out ⟨w1.heap.size + 1, 0, none⟩ 1 1 [.string xn, .int .i64 x.node] (by simp [Act.eval, Act.put]) rfl HCW1.out (by simp [Value.oneCell']) (by unfold maxLen; omega) (by omega) (by first | omega | ((simp) <;> omega)) ?_; intro ooB capB wB hownB hgrowB hooB; have HOB : Hid (wB.ownsRow w1.heap.size 126 2 (.slice ooB 1 capB) 1 [.string xn, .int .i64 x.node]) := qhZ (by simpa using hownB); have HBB := qhZ (bB9 HBW1.out (by first | omega | ((simp) <;> omega)) (bF9 HOW1.out (Nat.le_of_lt hsd)) hgrowB); have hszB : w1.heap.size + 2 ≤ wB.heap.size := (by have h9 := hgrowB.size; simp at h9; omega); clear hownB hgrowB hooB)
     | (refine aN9 _ rfl (.tmp 33) (.tmp 35) 53 rfl w1.heap.size 126 i9 (.agg #[.string ⟨#[]⟩, .int .i64 0]) 2 24 Tryz.underlying53 hi9 hz0 hz1 hz2 rfl (by decide) (.slice (some ⟨w1.heap.size + 1, 0, none⟩) 0 0) 0 [] (by simp [Act.eval, Act.put]) HOW3.out ⟨w1.heap.size, 0, none⟩ 1 1 [.string xn, .int .i64 x.node] (by simp [Act.eval, Act.put]) rfl HCW3.out (by simp [Value.oneCell']) (by unfold maxLen; omega) (by omega) (by first | omega | ((simp) <;> omega)) ?_; intro ooB capB wB hownB hgrowB hooB; have HOB : Hid (wB.ownsRow w1.heap.size 126 2 (.slice ooB 1 capB) 1 [.string xn, .int .i64 x.node]) := qhZ (by simpa using hownB); have HBB := qhZ (bB9 HBW3.out (by first | omega | ((simp) <;> omega)) (bF9 HOW3.out (Nat.le_of_lt hsd)) hgrowB); have hszB : w1.heap.size + 2 ≤ wB.heap.size := (by have h9 := hgrowB.size; simp at h9; omega); clear hownB hgrowB hooB)
     | (refine aN9 _ rfl (.tmp 36) (.tmp 37) 53 rfl w1.heap.size 126 i9 (.agg #[.string ⟨#[]⟩, .int .i64 0]) 2 24 Tryz.underlying53 hi9 hz0 hz1 hz2 rfl (by decide) (.slice ooB 1 capB) 1 [.string xn, .int .i64 x.node] (by simp [Act.eval, Act.put]) HOB.out ⟨b6, 0, none⟩ 0 0 [] (by simp [Act.eval, Act.put]) (by simp) (by simp) (by simp) (by unfold maxLen; omega) (by omega) (by omega) ?_; intro ooC capC wC hownC hgrowC hooC; have HOC : Hid (wC.ownsRow w1.heap.size 126 2 (.slice ooC 1 capC) 1 [.string xn, .int .i64 x.node]) := qhZ (by simpa using hownC); have HBC := qhZ (bB9 HBB.out (by omega) (bF9 HOB.out (Nat.le_of_lt hsd)) hgrowC); clear hownC hgrowC hooC))
   all_goals
     go_wp2
     go_ret
     refine ⟨_, rfl, ?_, HBC.out⟩
     have hq := bF9 HOC.out (Nat.le_of_lt hsd)
     unfold Ents
     have e2 : aX9 [x] = [.string xn, .int .i64 x.node] := by rw [HXN.out]; simp [aX9, entV]
     rw [e2]
     exact hq
end Go.Proofs.YtknhacblialboaaGreatDoor
