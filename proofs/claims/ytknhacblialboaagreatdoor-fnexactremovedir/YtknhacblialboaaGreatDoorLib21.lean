/-
  Joined: LayF PutM GivM AddM NewD.
  Conditions: as each states.
-/
import Derived.Deep.RegionHeld3
import Derived.Test.YtknhacblialboaaGreatDoorLib2
import Derived.Test.YtknhacblialboaaGreatDoorLib7
import Derived.Test.YtknhacblialboaaGreatDoorLib8
import Derived.Test.YtknhacblialboaaGreatDoorLib18
import Derived.Test.YtknhacblialboaaGreatDoorLib19
import Derived.Test.YtknhacblialboaaGreatDoorLib20
namespace Go.Proofs.YtknhacblialboaaGreatDoor
open Go.ChangeShapes Go.WideShapes Go.ChangeAt Go.RowKit Go.Joins
set_option linter.unusedVariables false
set_option linter.unusedSimpArgs false
set_option maxHeartbeats 16000000
theorem l3Lay_in (es : List Ent) (R : Nat) (lv : Value) (x : Ent) (w : World) (hE : Ents w R lv es) (hs : es.length ≤ 1048576) (hr : Rise es) (hn : isE es x.name = false) :
   Calls Tryz.prog 106 #[lv, .agg #[.string (bs x.name), .int .i64 x.node]] w fun e w' => ∃ v', e = .returned v' ∧ Ents w' w.heap.size v' (insE es x) ∧ Below w.heap.size w w' := by
 have hE2 := hE
 rcases hE.2 with ⟨rfl, h⟩ | ⟨g, cap, cur, rfl, _⟩
 · obtain rfl : es = [] := List.eq_nil_of_length_eq_zero h
   refine (l3Lay_nil x w).mono ?_
   rintro e w' ⟨v', rfl, hE', hb⟩
   exact ⟨v', rfl, hE', hb⟩
 · refine (l3Lay_at es R g cap x w hE2 hs).mono ?_
   rintro e w' ⟨v', k, rfl, hk, hP, hE', hb⟩
   refine ⟨v', rfl, ?_, hb⟩
   have := laysAt_pos hr hn hk hP
   unfold insE
   rw [this]; exact hE'
theorem grown_bel {w w' : World} (hb : Below w.heap.size w w') (row : Option Nat) : w.grownBy w' row := ⟨hb.os, hb.tape, hb.output, hb.size, fun i hi _ => hb.block i hi⟩
theorem ents_new {w : World} {R : Nat} {lv : Value} {es : List Ent} (h : Ents w R lv es) (h0 : 0 < es.length) : ∃ b, lv.ownBlock = some b ∧ R ≤ b := by
 rcases h.2 with ⟨rfl, hz⟩ | ⟨g, cap, cur, rfl, hB, _⟩
 · omega
 · exact ⟨g, rfl, hB⟩
theorem l5Change_is {f : FsD} {v : Value} {u g : Int} {m : Nat} {w : World} {b : Bool} (hb : mayB u g (aC9 f.nodes m).mode (aC9 f.nodes m).uid (aC9 f.nodes m).gid 3 = b) (hR : FsA w v f) (hm : m < f.nodes.length) (hmo : inB 0 511 (aC9 f.nodes m).mode = true) (hs : f.nodes.length ≤ 1048576) :
   Calls Tryz.prog 65 #[v, .agg #[.int .i64 u, .int .i64 g], .int .i64 m] w fun e w' => e = .returned (.bool b) ∧ Below w.heap.size w w' := by
 have HR := qhZ hR
 obtain ⟨nv, rfl, hN⟩ := hR
 obtain ⟨o, c, rfl, -, -⟩ := hN
 have HBM := qhZ hb
 have HMO := qhZ hmo
 have HB0 : Hid (Below w.heap.size w ((w.alloc (.cells #[.slice o f.nodes.length c, .int .i64 f.room] 30)).alloc (.cells #[.int .i64 u, .int .i64 g] 34))) := qhZ (((Below.refl _ _).alloc (Nat.le_refl _) _).alloc (by simp) _)
 clear hb hmo
 go_enter Tryz.func65, Tryz.ntmps65
 go_wp2_with fail
 refine (l4May_is HBM.out (HR.out.below HB0.out) hm HMO.out hs).mono ?_
 rintro e w1 ⟨rfl, hb1⟩
 have HB1 := qhZ (HB0.out.trans (hb1.mono HB0.out.size))
 clear hb1
 go_wp2
 go_ret
 exact ⟨rfl, HB1.out⟩
theorem Own.again {w : World} {R g cap i : Nat} {ps : List (Nod × Value)} (hi : i < ps.length) {qc : Nod} (h : Own w R (.slice (some ⟨g, 0, none⟩) ps.length cap) (ps.set i (qc, (ps[i]).2))) {j : Nat} (hj : j < 7) (u : Value) (q : Nod) (hq : (nodV (qc, (ps[i]).2)).set j u = nodV (q, (ps[i]).2)) (hl : q.list = qc.list) :
   Own (w.setCell ⟨g, i * 7 + j, none⟩ u) R (.slice (some ⟨g, 0, none⟩) ps.length cap) (ps.set i (q, (ps[i]).2)) := by
 have hlen8 : (ps.set i (qc, (ps[i]).2)).length = ps.length := by simp
 have hnd8 : i < (ps.set i (qc, (ps[i]).2)).length := by simpa using hi
 have hel8 : (ps.set i (qc, (ps[i]).2))[i]'hnd8 = (qc, (ps[i]).2) := by simp
 have h8 : Own w R (.slice (some ⟨g, 0, none⟩) (ps.set i (qc, (ps[i]).2)).length cap) (ps.set i (qc, (ps[i]).2)) := by rw [hlen8]; exact h
 have h9 := h8.turn hnd8 hj u q (by rw [hel8]; exact hq) (by rw [hel8]; exact hl)
 rw [hel8, hlen8, List.set_set] at h9
 exact h9
theorem bel_row {v w : World} {B g i : Nat} (h : Below B v w) (hB : B ≤ g) (a0 a1 a2 a3 a4 a5 a6 : Value) : Below B v (((((((w.setCell ⟨g, i * 7, none⟩ a0).setCell ⟨g, i * 7 + 1, none⟩ a1).setCell ⟨g, i * 7 + 2, none⟩ a2).setCell ⟨g, i * 7 + 3, none⟩ a3).setCell ⟨g, i * 7 + 4, none⟩ a4).setCell ⟨g, i * 7 + 5, none⟩ a5).setCell ⟨g, i * 7 + 6, none⟩ a6) :=
 ((((((h.setCell (p := ⟨g, i * 7, none⟩) hB _).setCell (p := ⟨g, i * 7 + 1, none⟩) hB _).setCell (p := ⟨g, i * 7 + 2, none⟩) hB _).setCell (p := ⟨g, i * 7 + 3, none⟩) hB _).setCell (p := ⟨g, i * 7 + 4, none⟩) hB _).setCell (p := ⟨g, i * 7 + 5, none⟩) hB _).setCell (p := ⟨g, i * 7 + 6, none⟩) hB _
theorem row_ne {w : World} {g i b : Nat} (hb : b ≠ g) (a0 a1 a2 a3 a4 a5 a6 : Value) : (((((((w.setCell ⟨g, i * 7, none⟩ a0).setCell ⟨g, i * 7 + 1, none⟩ a1).setCell ⟨g, i * 7 + 2, none⟩ a2).setCell ⟨g, i * 7 + 3, none⟩ a3).setCell ⟨g, i * 7 + 4, none⟩ a4).setCell ⟨g, i * 7 + 5, none⟩ a5).setCell ⟨g, i * 7 + 6, none⟩ a6).heap[b]? = w.heap[b]? :=
 (Below.heap_setCell _ ⟨g, i * 7 + 6, none⟩ a6 b hb).trans ((Below.heap_setCell _ ⟨g, i * 7 + 5, none⟩ a5 b hb).trans ((Below.heap_setCell _ ⟨g, i * 7 + 4, none⟩ a4 b hb).trans ((Below.heap_setCell _ ⟨g, i * 7 + 3, none⟩ a3 b hb).trans ((Below.heap_setCell _ ⟨g, i * 7 + 2, none⟩ a2 b hb).trans ((Below.heap_setCell _ ⟨g, i * 7 + 1, none⟩ a1 b hb).trans (Below.heap_setCell w ⟨g, i * 7, none⟩ a0 b hb))))))
def spotC (f : FsD) (u g : Int) (l : List UInt8) : Int :=
 if (fp0 f.nodes u g l).1 ≠ 0 then (fp0 f.nodes u g l).1 else if isE (aC9 f.nodes (fp0 f.nodes u g l).2.1).list (fp0 f.nodes u g l).2.2 = true then 6
 else if mayB u g (aC9 f.nodes (fp0 f.nodes u g l).2.1).mode (aC9 f.nodes (fp0 f.nodes u g l).2.1).uid (aC9 f.nodes (fp0 f.nodes u g l).2.1).gid 3 = false then 4 else 0
theorem spotC_bad {f : FsD} {u g : Int} {l : List UInt8} {cd : Int} {nd : Nat} {nm : List UInt8} (h : fp0 f.nodes u g l = (cd, nd, nm)) (hc : cd ≠ 0) : spotC f u g l = cd := by unfold spotC; rw [h]; simp [hc]
theorem spotC_there {f : FsD} {u g : Int} {l : List UInt8} {nd : Nat} {nm : List UInt8} (h : fp0 f.nodes u g l = (0, nd, nm)) (hi : isE (aC9 f.nodes nd).list nm = true) : spotC f u g l = 6 := by unfold spotC; rw [h]; simp [hi]
theorem spotC_may {f : FsD} {u g : Int} {l : List UInt8} {nd : Nat} {nm : List UInt8} (h : fp0 f.nodes u g l = (0, nd, nm)) (hi : isE (aC9 f.nodes nd).list nm = false) (hm : mayB u g (aC9 f.nodes nd).mode (aC9 f.nodes nd).uid (aC9 f.nodes nd).gid 3 = false) : spotC f u g l = 4 := by unfold spotC; rw [h]; simp [hi, hm]
theorem spotC_ok {f : FsD} {u g : Int} {l : List UInt8} {nd : Nat} {nm : List UInt8} (h : fp0 f.nodes u g l = (0, nd, nm)) (hi : isE (aC9 f.nodes nd).list nm = false) (hm : mayB u g (aC9 f.nodes nd).mode (aC9 f.nodes nd).uid (aC9 f.nodes nd).gid 3 = true) : spotC f u g l = 0 := by unfold spotC; rw [h]; simp [hi, hm]
theorem spotC_zero {f : FsD} {u g : Int} {l : List UInt8} (h : spotC f u g l = 0) : ∃ nd nm, fp0 f.nodes u g l = (0, nd, nm) ∧ isE (aC9 f.nodes nd).list nm = false ∧ mayB u g (aC9 f.nodes nd).mode (aC9 f.nodes nd).uid (aC9 f.nodes nd).gid 3 = true := by
 obtain ⟨⟨cd, nd, nm⟩, hf⟩ : ∃ q, fp0 f.nodes u g l = q := ⟨_, rfl⟩
 by_cases hc : cd = 0
 · subst hc
   refine ⟨nd, nm, hf, ?_⟩
   cases hi : isE (aC9 f.nodes nd).list nm with
   | true => rw [spotC_there hf hi] at h; cases h
   | false =>
     refine ⟨rfl, ?_⟩
     cases hm : mayB u g (aC9 f.nodes nd).mode (aC9 f.nodes nd).uid (aC9 f.nodes nd).gid 3 with
     | true => rfl
     | false => rw [spotC_may hf hi hm] at h; cases h
 · rw [spotC_bad hf hc] at h; exact absurd h hc
theorem atE_there {f : FsD} (hg : goodF f = true) {i : Nat} {nm : List UInt8} (h : isE (aC9 f.nodes i).list nm = true) : 0 ≤ atE (aC9 f.nodes i).list nm := by
 have hr := rise_node (good_nods hg) i
 rw [atE_is hr, if_pos h]
 have hl : posE (aC9 f.nodes i).list nm < (aC9 f.nodes i).list.length := by unfold isE at h; simp at h; exact h.1
 rw [show (aC9 f.nodes i).list.getD (posE (aC9 f.nodes i).list nm) ent0 = (aC9 f.nodes i).list[posE (aC9 f.nodes i).list nm] from getE_at hl]
 have hi : i < f.nodes.length := by
   rcases Nat.lt_or_ge i f.nodes.length with h1 | h1
   · exact h1
   · have : aC9 f.nodes i = ⟨0, 0, 0, 0, 0, [], []⟩ := by unfold aC9; rw [List.getD_eq_getElem?_getD, List.getElem?_eq_none h1]; rfl
     rw [this] at hl; simp at hl
 exact (leadI (good_nods hg) _ (by rw [show aC9 f.nodes i = f.nodes[i] from aR9 hi]; exact List.getElem_mem hi) _ (List.getElem_mem hl)).1
theorem atE_not {f : FsD} (hg : goodF f = true) {i : Nat} {nm : List UInt8} (h : isE (aC9 f.nodes i).list nm = false) : atE (aC9 f.nodes i).list nm = -1 := by
 rw [atE_is (rise_node (good_nods hg) i), if_neg (by rw [h]; decide)]
theorem l3At_isA {es : List Ent} {v : Value} {p : ByteArray} {w : World} {y : Int} (h : atE es p.data.toList = y) (hR : EntsA w v es) (hs : es.length ≤ 1048576) : Calls Tryz.prog 64 #[v, .string p] w fun e w' => e = .returned (.int .i64 y) ∧ Below w.heap.size w w' := by
 rw [← h]; exact l3At_any es v p w hR hs
theorem mode_at {f : FsD} (hg : goodF f = true) {i : Nat} (hi : i < f.nodes.length) (hk : (aC9 f.nodes i).kind = 2) : inB 0 511 (aC9 f.nodes i).mode = true := by
 have h1 := node_ok (good_nods hg) hi
 unfold bP9 at h1
 rw [if_neg (by omega)] at h1
 simp only [Bool.and_eq_true] at h1
 exact h1.1
set_option maxRecDepth 100000 in
theorem l5Put_big (f : FsD) (v : Value) (up : Nat) (nm : List UInt8) (nd t : Int) (w : World) (hR : FsA w v f) (hs : szF f ≤ 2097152) (hll : (aC9 f.nodes up).list.length ≤ 1048576) (hup : up < f.nodes.length) (hr : Rise (aC9 f.nodes up).list) (hn : isE (aC9 f.nodes up).list nm = false) :
   Calls Tryz.prog 67 #[v, .int .i64 up, .string (bs nm), .int .i64 nd, .int .i64 t] w fun e w' => ∃ nv ps, e = .returned (.agg #[nv, .int .i64 f.room]) ∧ ps.map Prod.fst = (putFs f up nm nd t).nodes ∧ Own w' w.heap.size nv ps ∧ Below w.heap.size w w' := by
 have HR := qhZ hR
 obtain ⟨nv, rfl, hN⟩ := hR
 obtain ⟨o, c, rfl, hm, hH⟩ := hN
 have HS := qhZ hs
 have hl : f.nodes.length ≤ 2097152 := (lists_big hs).1
 have HQL : Hid ((aC9 f.nodes up).list.length ≤ 1048576) := qhZ hll
 have HRI := qhZ hr
 have HIS := qhZ hn
 have HB0 : Hid (Below w.heap.size w ((w.alloc (.cells #[.slice o f.nodes.length c, .int .i64 f.room] 30)).alloc (.cells #[.slice none 0 0, .int .i64 0] 30))) := qhZ (((Below.refl _ _).alloc (Nat.le_refl _) _).alloc (by simp) _)
 have KZ0 := qhZ (al2_1 w (.cells #[.slice o f.nodes.length c, .int .i64 f.room] 30) (.cells #[.slice none 0 0, .int .i64 0] 30))
 obtain ⟨xn, hxn⟩ : ∃ xn, xn = bs nm := ⟨_, rfl⟩
 have HXN := qhZ hxn
 rw [← hxn]
 clear hH hs hr hn hxn hm hll
 go_enter Tryz.func67, Tryz.ntmps67
 go_wp2_with fail
 refine (l3Own_big f _ _ (HR.out.below HB0.out) HS.out).mono ?_
 rintro e w2 ⟨nv2, ps2, rfl, hps2, hO2, hb2⟩
 obtain ⟨oo2, cc2, rfl, -⟩ := aM9 hO2.row
 have hlen : ps2.length = f.nodes.length := by rw [← hps2]; simp
 have hupl : up < ps2.length := by omega
 have hpl8 : ps2.length ≤ 2097152 := by omega
 have HPS := qhZ hps2
 have HB2 := qhZ (HB0.out.trans (hb2.mono HB0.out.size))
 have KZ2 := qhZ (aD9 hb2 KZ0.out)
 have hsz2 := aB9 KZ2.out
 have HO2 := qhZ (hO2.low (R := w.heap.size + 2) (aB9 KZ0.out))
 have HB2a := qhZ (HB2.out.alloc HB2.out.size (.cells #[.slice oo2 ps2.length cc2, .int .i64 f.room] 30))
 have KO2 := qhZ (heap_alloc_new w2 (.cells #[.slice oo2 ps2.length cc2, .int .i64 f.room] 30))
 have HO2a := qhZ (HO2.out.below ((Below.refl _ w2).alloc (Nat.le_refl _) (.cells #[.slice oo2 ps2.length cc2, .int .i64 f.room] 30)))
 have KZ2a := qhZ ((Below.heap_alloc w2 (.cells #[.slice oo2 ps2.length cc2, .int .i64 f.room] 30) _ (aB9 KZ2.out)).trans KZ2.out)
 have hlt2 : ∀ b, (Value.slice oo2 ps2.length cc2).ownBlock = some b → b < w2.heap.size := HO2.out.ltE.1
 clear hps2 hO2 hb2 hlen
 go_wp2
 obtain ⟨W, hW⟩ : ∃ W, W = w2.alloc (.cells #[.slice oo2 ps2.length cc2, .int .i64 f.room] 30) := ⟨_, rfl⟩
 have hWs : W.heap.size = w2.heap.size + 1 := by rw [hW, World.size_alloc]
 rw [← hW] at HB2a KO2 HO2a KZ2a ⊢
 clear hW
 obtain ⟨g9, cap9, e9, hRg, hgl, hn9, hm9, hc9, hfr9⟩ := HO2a.out.at (i := up) hupl
 simp only [Value.slice.injEq, true_and] at e9
 obtain ⟨rfl, rfl⟩ := e9
 have hg2 : g9 < w2.heap.size := hlt2 g9 rfl
 have hq1 : ps2[up].1 = aC9 f.nodes up := at_map HPS.out hupl
 have HEN : Hid (Ents W (w.heap.size + 2) ps2[up].2 (aC9 f.nodes up).list) := qhZ (by rw [← hq1]; exact HO2a.out.ent _ (List.getElem_mem hupl))
 have x6 : W.cell? ⟨g9, up * 7 + 6, none⟩ = some ps2[up].2 := hc9.c6
 obtain ⟨lv, hlv⟩ : ∃ lv, lv = ps2[up].2 := ⟨_, rfl⟩
 have HLV := qhZ hlv
 rw [← hlv] at x6 HEN
 have HQ1 := qhZ hq1
 obtain ⟨oe, ce, rfl, -⟩ := aM9 HEN.out
 have ko0 : W.cell? ⟨w2.heap.size, 0, none⟩ = some (.slice (some ⟨g9, 0, none⟩) ps2.length cc2) := aA9 KO2.out 0
 have HLAY := qhZ (l3Lay_in (aC9 f.nodes up).list (w.heap.size + 2) (.slice oe (aC9 f.nodes up).list.length ce) ⟨nm, nd⟩ W.drew HEN.out HQL.out HRI.out HIS.out)
 rw [← HXN.out] at HLAY
 clear hq1 hc9 hlt2 hlv
 go_region_with (first | (go_at_call 106; (with_reducible refine HLAY.out.mono ?_); rintro e w3 ⟨v3, rfl, hE3, hb3⟩; obtain ⟨o3, c3, rfl, -⟩ := aM9 hE3; have HE3 := qhZ hE3; have HB3 := qhZ hb3; have kk0 : w3.cell? ⟨w2.heap.size, 0, none⟩ = some (.slice (some ⟨g9, 0, none⟩) ps2.length cc2) := (hb3.cell (p := ⟨w2.heap.size, 0, none⟩) (by show w2.heap.size < W.heap.size; omega)).trans ko0; have kk6 : w3.cell? ⟨g9, up * 7 + 6, none⟩ = some (Value.slice oe (aC9 f.nodes up).list.length ce) := (hb3.cell (p := ⟨g9, up * 7 + 6, none⟩) (by show g9 < W.heap.size; omega)).trans x6; have kkf : w3.frozen? ⟨g9, up * 7 + 6, none⟩ = false := (World.frozen?_of_block (hb3.block g9 (by show g9 < W.heap.size; omega))).trans (hfr9 _); clear hE3 hb3))
 all_goals
   have HOW := qhZ ((HO2a.out.up (w' := W.drew) (fun _ _ _ => rfl)).list hupl (lv' := (.slice o3 (insE (aC9 f.nodes up).list ⟨nm, nd⟩).length c3)) (es' := insE (aC9 f.nodes up).list ⟨nm, nd⟩) (grown_bel HB3.out _) (by have := HE3.out; exact bF9 this (by show w.heap.size + 2 ≤ W.heap.size; omega)) (.inr (by
     obtain ⟨b, h1, h2⟩ := ents_new HE3.out (by rw [insE_len]; omega)
     exact ⟨b, h1, h2⟩)))
   have KOs : Hid ((w3.setCell ⟨g9, up * 7 + 6, none⟩ (.slice o3 (insE (aC9 f.nodes up).list ⟨nm, nd⟩).length c3)).heap[w2.heap.size]? = some (.cells #[.slice (some ⟨g9, 0, none⟩) ps2.length cc2, .int .i64 f.room] 30)) := qhZ ((Below.heap_setCell w3 ⟨g9, up * 7 + 6, none⟩ _ _ (by simp only; omega)).trans ((HB3.out.block _ (by show w2.heap.size < W.heap.size; omega)).trans KO2.out))
   have KZs : Hid ((w3.setCell ⟨g9, up * 7 + 6, none⟩ (.slice o3 (insE (aC9 f.nodes up).list ⟨nm, nd⟩).length c3)).heap[w.heap.size + 1]? = some (.cells #[.slice none 0 0, .int .i64 0] 30)) := qhZ ((Below.heap_setCell w3 ⟨g9, up * 7 + 6, none⟩ _ _ (by simp only; omega)).trans ((HB3.out.block _ (aB9 KZ2a.out)).trans KZ2a.out))
   have HBs : Hid (Below w.heap.size w (w3.setCell ⟨g9, up * 7 + 6, none⟩ (.slice o3 (insE (aC9 f.nodes up).list ⟨nm, nd⟩).length c3))) := qhZ ((HB2a.out.drew.trans (HB3.out.mono HB2a.out.size)).setCell (p := ⟨g9, up * 7 + 6, none⟩) (by simp only; omega) _)
   obtain ⟨W4, hW4⟩ : ∃ W4, W4 = w3.setCell ⟨g9, up * 7 + 6, none⟩ (.slice o3 (insE (aC9 f.nodes up).list ⟨nm, nd⟩).length c3) := ⟨_, rfl⟩
   rw [← hW4] at HOW KOs KZs HBs ⊢
   clear hW4 kk0 kk6 kkf
   obtain ⟨qs, hqs⟩ : ∃ qs, qs = ps2.set up ({ ps2[up].1 with list := insE (aC9 f.nodes up).list ⟨nm, nd⟩ }, (.slice o3 (insE (aC9 f.nodes up).list ⟨nm, nd⟩).length c3)) := ⟨_, rfl⟩
   have hql : qs.length = ps2.length := by rw [hqs]; simp
   rw [← hqs, ← hql] at HOW
   rw [← hql] at KOs
   have hqu : up < qs.length := by omega
   have hql9 : qs.length ≤ 2097152 := by omega
   clear hql
   have hq9 : qs[up]'hqu = ({ ps2[up].1 with list := insE (aC9 f.nodes up).list ⟨nm, nd⟩ }, (.slice o3 (insE (aC9 f.nodes up).list ⟨nm, nd⟩).length c3)) := by simp [hqs]
   obtain ⟨g8, cap8, e8, hRg8, hgl8, hn8, hm8, hc8, hfr8⟩ := HOW.out.at (i := up) hqu
   simp only [Value.slice.injEq, Option.some.injEq, Addr.mk.injEq, and_true, true_and] at e8
   obtain ⟨rfl, rfl⟩ := e8
   have x4 := hc8.c4
   have HWT := qhZ (HOW.out.turn (i := up) (j := 4) hqu (by decide) (.int .i64 t) { (qs[up]'hqu).1 with time := t } rfl rfl)
   have hMP : (qs.set up ({ (qs[up]'hqu).1 with time := t }, (qs[up]'hqu).2)).map Prod.fst = (putFs f up nm nd t).nodes := by
     rw [List.map_set, hq9, hqs, List.map_set, HPS.out, HQ1.out]
     simp [putFs, putN]
   have HMP := qhZ hMP
   have jo0 : W4.cell? ⟨w2.heap.size, 0, none⟩ = some (.slice (some ⟨g9, 0, none⟩) qs.length cc2) := aA9 KOs.out 0
   have KO5 : Hid ((W4.setCell ⟨g9, up * 7 + 4, none⟩ (.int .i64 t)).heap[w2.heap.size]? = some (.cells #[.slice (some ⟨g9, 0, none⟩) qs.length cc2, .int .i64 f.room] 30)) := qhZ ((Below.heap_setCell W4 ⟨g9, up * 7 + 4, none⟩ _ _ (by simp only; omega)).trans KOs.out)
   have KZ5 : Hid ((W4.setCell ⟨g9, up * 7 + 4, none⟩ (.int .i64 t)).heap[w.heap.size + 1]? = some (.cells #[.slice none 0 0, .int .i64 0] 30)) := qhZ ((Below.heap_setCell W4 ⟨g9, up * 7 + 4, none⟩ _ _ (by simp only; omega)).trans KZs.out)
   have HB5 : Hid (Below w.heap.size w (W4.setCell ⟨g9, up * 7 + 4, none⟩ (.int .i64 t))) := qhZ (HBs.out.setCell (p := ⟨g9, up * 7 + 4, none⟩) (by simp only; omega) _)
   have j50 : (W4.setCell ⟨g9, up * 7 + 4, none⟩ (.int .i64 t)).cell? ⟨w2.heap.size, 0, none⟩ = some (.slice (some ⟨g9, 0, none⟩) qs.length cc2) := aA9 KO5.out 0
   have j51 : (W4.setCell ⟨g9, up * 7 + 4, none⟩ (.int .i64 t)).cell? ⟨w2.heap.size, 1, none⟩ = some (.int .i64 f.room) := aA9 KO5.out 1
   have z50 : (W4.setCell ⟨g9, up * 7 + 4, none⟩ (.int .i64 t)).cell? ⟨w.heap.size + 1, 0, none⟩ = some (.slice none 0 0) := aA9 KZ5.out 0
   have z51 : (W4.setCell ⟨g9, up * 7 + 4, none⟩ (.int .i64 t)).cell? ⟨w.heap.size + 1, 1, none⟩ = some (.int .i64 0) := aA9 KZ5.out 1
   have z5f := aE9 KZ5.out
   clear hqs hq9 hc8 hMP
   go_wp2
   have hq := bG9 KZ5.out (.slice (some ⟨g9, 0, none⟩) qs.length cc2) (.int .i64 f.room)
   have t0 := (aA9 hq 0).trans rfl
   have t1 := (aA9 hq 1).trans rfl
   refine bodyPost_ret (v := .agg #[(.slice (some ⟨g9, 0, none⟩) qs.length cc2), .int .i64 f.room]) (by simp [results, Tryz.results67, go_sem, t0, t1]) rfl ?_
   first | refine ⟨_, _, rfl, HMP.out, ?_, aP9 HB5.out (by omega)⟩ | refine ⟨_, rfl, _, HMP.out, ?_, aP9 HB5.out (by omega)⟩
   have h9 := ((HWT.out.besides (b := w.heap.size + 1) (by omega) 0 (.slice (some ⟨g9, 0, none⟩) qs.length cc2)).besides (b := w.heap.size + 1) (by omega) 1 (.int .i64 f.room)).low (R := w.heap.size) (by omega)
   simpa using h9
theorem Own.wholeE {w : World} {R g cap i : Nat} {ps : List (Nod × Value)} (hi : i < ps.length) (q : Nod) (hq : q.list = []) {qc : Nod} (h : Own w R (.slice (some ⟨g, 0, none⟩) ps.length cap) (ps.set i (qc, (ps[i]).2))) (hv : (nodV (qc, (ps[i]).2)).set 6 (.slice none 0 0) = nodV (q, .slice none 0 0)) :
   Own (w.setCell ⟨g, i * 7 + 6, none⟩ (.slice none 0 0)) R (.slice (some ⟨g, 0, none⟩) ps.length cap) (ps.set i (q, .slice none 0 0)) := by
 obtain ⟨qs, hqs⟩ : ∃ qs, qs = ps.set i (qc, (ps[i]).2) := ⟨_, rfl⟩
 have hlen : qs.length = ps.length := by rw [hqs]; simp
 have hi8 : i < qs.length := by omega
 have hel : qs[i]'hi8 = (qc, (ps[i]).2) := by simp [hqs]
 rw [← hqs, ← hlen] at h
 have h6 := (h.put (i := i) (j := 6) hi8 (by decide) (.slice none 0 0) (q, .slice none 0 0) (by rw [hel]; exact hv) (by simp only; rw [hq]; exact World.ownsRow_nil _ _ _ _) (dist_set h.dist fun j hj hne => .inl rfl)).1
 rw [hlen] at h6
 rw [hqs, List.set_set] at h6
 exact h6
theorem Own.whole {w : World} {R g cap i : Nat} {ps : List (Nod × Value)} (h : Own w R (.slice (some ⟨g, 0, none⟩) ps.length cap) ps) (hi : i < ps.length) (q : Nod) (hq : q.list = []) :
   Own (((((((w.setCell ⟨g, i * 7, none⟩ (.int .i64 q.kind)).setCell ⟨g, i * 7 + 1, none⟩ (.int .i64 q.mode)).setCell ⟨g, i * 7 + 2, none⟩ (.int .i64 q.uid)).setCell ⟨g, i * 7 + 3, none⟩ (.int .i64 q.gid)).setCell ⟨g, i * 7 + 4, none⟩ (.int .i64 q.time)).setCell ⟨g, i * 7 + 5, none⟩ (.string (bs q.data))).setCell ⟨g, i * 7 + 6, none⟩ (.slice none 0 0)) R (.slice (some ⟨g, 0, none⟩) ps.length cap) (ps.set i (q, .slice none 0 0)) := by
 have h0 := h.turn (i := i) (j := 0) hi (by decide) (.int .i64 q.kind) { ps[i].1 with kind := q.kind } rfl rfl
 have h1 := h0.again hi (j := 1) (by decide) (.int .i64 q.mode) { ps[i].1 with kind := q.kind, mode := q.mode } rfl rfl
 have h2 := h1.again hi (j := 2) (by decide) (.int .i64 q.uid) { ps[i].1 with kind := q.kind, mode := q.mode, uid := q.uid } rfl rfl
 have h3 := h2.again hi (j := 3) (by decide) (.int .i64 q.gid) { ps[i].1 with kind := q.kind, mode := q.mode, uid := q.uid, gid := q.gid } rfl rfl
 have h4 := h3.again hi (j := 4) (by decide) (.int .i64 q.time) { ps[i].1 with kind := q.kind, mode := q.mode, uid := q.uid, gid := q.gid, time := q.time } rfl rfl
 have h5 := h4.again hi (j := 5) (by decide) (.string (bs q.data)) { ps[i].1 with kind := q.kind, mode := q.mode, uid := q.uid, gid := q.gid, time := q.time, data := q.data } rfl rfl
 exact Own.wholeE hi q hq h5 rfl
def nodF (f : FsD) (k : Nat) (n : Nod) : FsD := ⟨if k = f.nodes.length then f.nodes ++ [n] else f.nodes.set k n, f.room⟩
def newN (u g kd md t : Int) (x : List UInt8) : Nod := ⟨kd, md, u, g, t, x, []⟩
theorem nodF_app {f : FsD} {n : Nod} : nodF f f.nodes.length n = ⟨f.nodes ++ [n], f.room⟩ := by unfold nodF; rw [if_pos rfl]
theorem nodF_set {f : FsD} {k : Nat} {n : Nod} (h : k ≠ f.nodes.length) : nodF f k n = ⟨f.nodes.set k n, f.room⟩ := by unfold nodF; rw [if_neg h]
theorem nodF_len {f : FsD} {k : Nat} {n : Nod} : f.nodes.length ≤ (nodF f k n).nodes.length ∧ (nodF f k n).nodes.length ≤ f.nodes.length + 1 := by
 unfold nodF; split <;> simp
theorem nodF_at {f : FsD} {k i : Nat} {n : Nod} (hi : i < f.nodes.length) (hk : i ≠ k) : aC9 (nodF f k n).nodes i = aC9 f.nodes i := by
 unfold nodF aC9
 split
 · simp [List.getD, List.getElem?_append_left hi]
 · simp only [List.getD_eq_getElem?_getD]
   rw [List.getElem?_set_ne (Ne.symm hk)]
theorem nodF_sz {f : FsD} {k : Nat} {n : Nod} (hk : k ≤ f.nodes.length) : szF (nodF f k n) ≤ szF f + 1 + szN n := by
 unfold nodF szF
 split
 · simp only [List.length_append, List.length_cons, List.length_nil]
   have : szNs (f.nodes ++ [n]) = szNs f.nodes + szN n := by unfold szNs; simp
   omega
 · rename_i h
   have := szNs_set (ns := f.nodes) (i := k) (by omega) n
   simp only [List.length_set]
   omega
theorem nodF_fit {f : FsD} {k : Nat} {n : Nod} (hf : aV9 f.nodes) (hd : n.data.length ≤ maxLen) (hl : n.list = []) : aV9 (nodF f k n).nodes := by
 have hn : n.data.length ≤ maxLen ∧ ∀ e ∈ n.list, e.name.length ≤ maxLen := ⟨hd, by rw [hl]; intro e he; cases he⟩
 intro x hx
 unfold nodF at hx
 split at hx
 · rcases List.mem_append.1 hx with h | h
   · exact hf _ h
   · rw [List.mem_singleton.1 h]; exact hn
 · rcases List.mem_or_eq_of_mem_set hx with h | rfl
   · exact hf _ h
   · exact hn
def newC (f : FsD) (u g : Int) (l x : List UInt8) : Int :=
 if spotC f u g l ≠ 0 then spotC f u g l else if bE9 f.nodes < 0 then 8 else if f.room < (sumD f.nodes : Int) + (x.length : Int) then 8 else 0
def newG (f : FsD) (u g : Int) (l : List UInt8) (n : Nod) (t : Int) : FsD :=
 putFs (nodF f (bE9 f.nodes).toNat n) (fp0 f.nodes u g l).2.1 (fp0 f.nodes u g l).2.2 (bE9 f.nodes) t
theorem free_lt {ns : List Nod} (h : 0 ≤ bE9 ns) : (bE9 ns).toNat ≤ ns.length ∧ ((bE9 ns).toNat < ns.length → (aC9 ns (bE9 ns).toNat).kind = 0 ∨ True) := by
 unfold bE9 at h ⊢
 split
 · rename_i k hk
   have := List.findIdx?_eq_some_iff_getElem.1 hk
   obtain ⟨h1, -⟩ := this
   simp only [Int.toNat_natCast]
   exact ⟨Nat.le_of_lt h1, fun _ => .inr trivial⟩
 · rename_i hk
   split
   · rename_i h40
     rw [hk] at h; simp [h40] at h
   · simp only [Int.toNat_natCast]; exact ⟨Nat.le_refl _, fun _ => .inr trivial⟩
theorem free_kind {ns : List Nod} (h : 0 ≤ bE9 ns) (hl : (bE9 ns).toNat < ns.length) : (aC9 ns (bE9 ns).toNat).kind = 0 := by
 unfold bE9 at h hl ⊢
 split at hl
 · rename_i k hk
   obtain ⟨h1, h2, -⟩ := List.findIdx?_eq_some_iff_getElem.1 hk
   simp only [hk, Int.toNat_natCast]
   rw [show aC9 ns k = ns[k] from aR9 h1]
   simpa using h2
 · rename_i hk
   rw [hk] at h
   simp only at h
   split at hl
   · rename_i h40
     rw [if_pos h40] at h; omega
   · rename_i h40; simp at hl
end Go.Proofs.YtknhacblialboaaGreatDoor
