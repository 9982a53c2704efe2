/-
  Joined: TakS.
  Conditions: as each states.
-/
import Derived.Test.YtknhacblialboaaGreatDoorLib21
import Derived.Test.YtknhacblialboaaGreatDoorLib22
import Derived.Test.YtknhacblialboaaGreatDoorLib27
namespace Go.Proofs.YtknhacblialboaaGreatDoor
open Go.ChangeShapes Go.WideShapes Go.ChangeAt Go.RowKit Go.Joins
set_option linter.unusedVariables false
set_option linter.unusedSimpArgs false
set_option maxHeartbeats 16000000
theorem remE_take {es : List Ent} {p : List UInt8} {k : Nat} (h : k < es.length) : remE (es.take (k + 1)) p = if es[k].name ≠ p then remE (es.take k) p ++ [es[k]] else remE (es.take k) p := by
 unfold remE
 rw [List.take_succ_eq_append_getElem h, List.filter_append]
 by_cases hn : es[k].name ≠ p
 · rw [if_pos hn, List.filter_cons, if_pos (by simpa using hn)]; rfl
 · rw [if_neg hn, List.filter_cons, if_neg (by simpa using hn)]; simp
theorem ents_snocT {w : World} {B : Nat} {v : Value} {L : List Ent} {e : Ent} {x : ByteArray} (hx : x = bs e.name) (h : w.ownsRow B 126 2 v (L.length + 1) (aX9 L ++ [.string x, .int .i64 e.node])) : Ents w B v (L ++ [e]) := by
 unfold Ents
 rw [entsV_app, List.length_append]
 simpa [aX9, entV, hx] using h
theorem Own.listN {w w1 : World} {R g cap : Nat} {ps : List (Nod × Value)} (h : Own w R (.slice (some ⟨g, 0, none⟩) ps.length cap) ps) {i : Nat} (hi : i < ps.length) {lv' : Value} {es' : List Ent}
   (hg : w.grownBy w1 ps[i].2.ownBlock) (he : Ents w1 R lv' es') (hb : lv'.ownBlock = none ∨ ∃ b, lv'.ownBlock = some b ∧ w.heap.size ≤ b) :
   Own (w1.setCell ⟨g, i * 7 + 6, none⟩ lv') R (.slice (some ⟨g, 0, none⟩) ps.length cap) (ps.set i ({ ps[i].1 with list := es' }, lv')) := by
 have hrow : w1.ownsRow R 55 7 (.slice (some ⟨g, 0, none⟩) ps.length cap) ps.length (nodsV ps) := by
   refine World.ownsRow.kept h.row hg (.inr ?_)
   rcases ents_ne h.row (h.ent _ (List.getElem_mem hi)) rfl with h1 | h1
   · rw [h1]; simp [Value.ownBlock]
   · exact Ne.symm h1
 obtain ⟨h1, h2⟩ := hrow.stored (i * 7 + 6) lv'
 have hset : (nodsV ps).set (i * 7 + 6) lv' = nodsV (ps.set i ({ ps[i].1 with list := es' }, lv')) := by
   unfold nodsV
   rw [flat_set (nodV_len ps) (by simpa using hi) (by decide), List.map_set]
   congr 2
   simp only [List.getElem_map]
   rfl
 have hne : ∀ {lv : Value} {es : List Ent}, Ents w1 R lv es → Ents (w1.setCell ⟨g, i * 7 + 6, none⟩ lv') R lv es := fun {lv es} k => World.ownsRow.kept k h2 (ents_ne hrow k rfl)
 refine ⟨?_, ?_, ?_⟩
 · rw [hset] at h1; simpa using h1
 · intro p hp
   obtain ⟨j, hj, rfl⟩ := List.getElem_of_mem hp
   have hj' : j < ps.length := by simpa using hj
   rw [List.getElem_set]
   split
   · exact hne he
   · rename_i hij
     exact hne (World.ownsRow.kept (h.ent _ (List.getElem_mem hj')) hg (h.dist j i hj' hi (Ne.symm hij)))
 · refine dist_set h.dist fun j hj hne => ?_
   rcases hb with hb | ⟨b, hb, hl⟩
   · exact .inl hb
   · refine .inr ?_
     simp only; rw [hb]
     intro e
     have := rows_lt (h.ent _ (List.getElem_mem hj)) b e.symm
     omega
theorem l3Links_is {f : FsD} {v : Value} {w : World} {nd : Nat} {n : Nat} (h : links (nd : Int) f.nodes = n) (hR : FsA w v f) (hs : szF f ≤ 1048576) : Calls Tryz.prog 124 #[v, .int .i64 nd] w fun e w' => e = .returned (.int .i64 (n : Int)) ∧ Below w.heap.size w w' := by
 subst h; exact l3Links_any f nd v w hR hs
set_option maxRecDepth 100000 in
theorem l5Take_is (f : FsD) (v : Value) (up : Nat) (nm : List UInt8) (nd : Nat) (t : Int) (w : World) (hR : FsA w v f) (hs : szF f ≤ 1048576) (hup : up < f.nodes.length) (hnb : nbN (aC9 f.nodes up).list nm = (nd : Int)) (hndl : nd < f.nodes.length) (hat : atE (aC9 f.nodes up).list nm = (nd : Int)) (hnf : aV9 f.nodes) :
   Calls Tryz.prog 86 #[v, .int .i64 up, .string (bs nm), .int .i64 t] w fun e w' => ∃ nv ps, e = .returned (.agg #[nv, .int .i64 f.room]) ∧ ps.map Prod.fst = (takFs f up nm t).nodes ∧ Own w' w.heap.size nv ps ∧ Below w.heap.size w w' := by
 have HR := qhZ hR
 obtain ⟨nv, rfl, hN⟩ := hR
 obtain ⟨o, c, rfl, hm, hH⟩ := hN
 obtain ⟨g0, f0, lv0, rfl, hgg, hc, he, -⟩ := hH up hup
 rw [show f.nodes[up] = aC9 f.nodes up from (aR9 hup).symm] at hc he
 have HC6 := qhZ hc.c6
 have HEE := qhZ he
 obtain ⟨oe, ce, rfl, -, hHe⟩ := he
 have HHE := qhZ hHe
 have HS := qhZ hs
 have HNF := qhZ hnf
 have HND := qhZ hnb
 have hnm : aC9 f.nodes up ∈ f.nodes := by rw [show aC9 f.nodes up = f.nodes[up] from aR9 hup]; exact List.getElem_mem hup
 have hql : (aC9 f.nodes up).list.length ≤ 1048576 := ((aG9 hs).2 _ hnm).1
 have HQL := qhZ hql
 have HB0 : Hid (Below w.heap.size w ((w.alloc (.cells #[.slice (some ⟨g0, f0, none⟩) f.nodes.length c, .int .i64 f.room] 30)).alloc (.cells #[.slice none 0 0, .int .i64 0] 30))) := qhZ (((Below.refl _ _).alloc (Nat.le_refl _) _).alloc (by simp) _)
 have KA0 := qhZ (al2_0 w (.cells #[.slice (some ⟨g0, f0, none⟩) f.nodes.length c, .int .i64 f.room] 30) (.cells #[.slice none 0 0, .int .i64 0] 30))
 have KZ0 := qhZ (al2_1 w (.cells #[.slice (some ⟨g0, f0, none⟩) f.nodes.length c, .int .i64 f.room] 30) (.cells #[.slice none 0 0, .int .i64 0] 30))
 obtain ⟨xn, hxn⟩ : ∃ xn, xn = bs nm := ⟨_, rfl⟩
 have HXN := qhZ hxn
 have HXL : Hid (xn.toList = nm) := qhZ (by rw [hxn, ByteArray.toList_eq]; exact aY9 _)
 have HAT : Hid (atE (aC9 f.nodes up).list xn.data.toList = (nd : Int)) := qhZ (by rw [hxn, aY9]; exact hat)
 obtain ⟨es, hes⟩ : ∃ es, es = (aC9 f.nodes up).list := ⟨_, rfl⟩
 have HES := qhZ hes
 rw [← hes] at HC6 HEE HHE HQL HAT hql
 rw [← hxn]
 obtain ⟨i9, hi9, hz0, hz1, hz2⟩ := info_ent
 clear hH hs hxn hm hnf hnb hat hc hHe hes hnm
 go_enter Tryz.func86, Tryz.ntmps86
 go_wp2_with fail
 refine (l3Own_any f _ _ (HR.out.below HB0.out) HS.out).mono ?_
 rintro e w2 ⟨nv2, ps2, rfl, hps2, hO2, hb2⟩
 obtain ⟨oo2, cc2, rfl, -⟩ := aM9 hO2.row
 have hlen : ps2.length = f.nodes.length := by rw [← hps2]; simp
 have hupl : up < ps2.length := by omega
 have hndp : nd < ps2.length := by omega
 have hpl8 : ps2.length ≤ 1048576 := by rw [hlen]; exact (aG9 HS.out).1
 have HPS := qhZ hps2
 have HLEN := qhZ hlen
 have HB2 := qhZ (HB0.out.trans (hb2.mono HB0.out.size))
 have KA2 := qhZ (aD9 hb2 KA0.out)
 have KZ2 := qhZ (aD9 hb2 KZ0.out)
 have hsz2 := aB9 KZ2.out
 have HO2 := qhZ (hO2.low (R := w.heap.size + 2) (aB9 KZ0.out))
 have HB2a := qhZ (HB2.out.alloc HB2.out.size (.cells #[.slice oo2 ps2.length cc2, .int .i64 f.room] 30))
 have KO2 := qhZ (heap_alloc_new w2 (.cells #[.slice oo2 ps2.length cc2, .int .i64 f.room] 30))
 have HO2a := qhZ (HO2.out.below ((Below.refl _ w2).alloc (Nat.le_refl _) (.cells #[.slice oo2 ps2.length cc2, .int .i64 f.room] 30)))
 have KA2a := qhZ ((Below.heap_alloc w2 (.cells #[.slice oo2 ps2.length cc2, .int .i64 f.room] 30) _ (aB9 KA2.out)).trans KA2.out)
 have KZ2a := qhZ ((Below.heap_alloc w2 (.cells #[.slice oo2 ps2.length cc2, .int .i64 f.room] 30) _ (aB9 KZ2.out)).trans KZ2.out)
 clear hps2 hO2 hb2 hlen
 obtain ⟨W, hW⟩ : ∃ W, W = w2.alloc (.cells #[.slice oo2 ps2.length cc2, .int .i64 f.room] 30) := ⟨_, rfl⟩
 have hWs : W.heap.size = w2.heap.size + 1 := by rw [hW, World.size_alloc]
 rw [← hW] at HB2a KO2 HO2a KZ2a KA2a
 have HWX := qhZ hW
 have HWS := qhZ hWs
 clear hW hWs
 have hu0 : (0 : Int) ≤ (up : Int) := by omega
 have hu1 : (up : Int) < (f.nodes.length : Int) := by omega
 have a0 : W.cell? ⟨w.heap.size, 0, none⟩ = some (.slice (some ⟨g0, f0, none⟩) f.nodes.length c) := (aA9 KA2a.out 0).trans rfl
 have d6 : W.cell? ⟨g0, f0 + up * 7 + 6, none⟩ = some (.slice oe es.length ce) := (HB2a.out.cell (p := ⟨g0, f0 + up * 7 + 6, none⟩) hgg).trans HC6.out
 go_upto_region 2 with fail
 rw [← HWX.out]
 go_wp2_with fail
 refine (l3At_isA HAT.out (HEE.out.below HB2a.out) HQL.out).mono ?_
 rintro e w3 ⟨rfl, hb3⟩
 have HB3 := qhZ (HB2a.out.trans (hb3.mono HB2a.out.size))
 have HC3 := qhZ hb3
 have a3 : w3.cell? ⟨w.heap.size, 0, none⟩ = some (.slice (some ⟨g0, f0, none⟩) f.nodes.length c) := (aA9 (aD9 hb3 KA2a.out) 0).trans rfl
 have d3 : w3.cell? ⟨g0, f0 + up * 7 + 6, none⟩ = some (.slice oe es.length ce) := (HB3.out.cell (p := ⟨g0, f0 + up * 7 + 6, none⟩) hgg).trans HC6.out
 have HE0 : Hid (Ents w3 w3.heap.size (.slice none 0 0) (remE (es.take 0) nm)) := qhZ (World.ownsRow_nil _ _ _ _)
 have HX0 : Hid (Below w3.heap.size w3 w3) := qhZ (Below.refl _ _)
 clear hb3 a0 d6
 go_wp2
 go_loopw [11, 31] (fun l i wr => ∃ (k : Nat) (lv : Value), k ≤ es.length ∧ i = .int .i64 k ∧ lv = l ∧ Ents wr w3.heap.size lv (remE (es.take k) nm) ∧ Below w3.heap.size w3 wr) (fun _ i _ => es.length - (intOf i).toNat)
 case atStart => exact ⟨0, _, Nat.zero_le _, rfl, rfl, HE0.out, HX0.out⟩
 case round =>
   obtain ⟨k, lv, hk, rfl, rfl, hE, hBr⟩ := hrel
   have HE := qhZ hE
   have HBr := qhZ hBr
   have HBw := qhZ (HB3.out.trans (hBr.mono HB3.out.size))
   have hrs := hBr.size
   by_cases hlt : k < es.length
   · obtain ⟨g7, f7, rfl, hg7, c1, c2, hml7⟩ := HHE.out k hlt
     have HTK := qhZ (remE_take (p := nm) hlt)
     have d1 : wr.cell? ⟨g7, f7 + k * 2, none⟩ = some (.string (bs es[k].name)) := (HBw.out.cell (p := ⟨g7, f7 + k * 2, none⟩) hg7).trans c1
     have d2 : wr.cell? ⟨g7, f7 + k * 2 + 1, none⟩ = some (.int .i64 es[k].node) := (HBw.out.cell (p := ⟨g7, f7 + k * 2 + 1, none⟩) hg7).trans c2
     obtain ⟨x, hx⟩ : ∃ x, x = bs es[k].name := ⟨_, rfl⟩
     have HX := qhZ hx
     have HXX : Hid (x.toList = es[k].name) := qhZ (by rw [hx, ByteArray.toList_eq]; exact aY9 _)
     have hrl : (remE (es.take k) nm).length ≤ 1048576 := Nat.le_trans (remE_len _ _) (by rw [List.length_take]; omega)
     rw [← hx] at d1
     obtain ⟨n7, hn7⟩ : ∃ n7, n7 = es[k].node := ⟨_, rfl⟩
     have HN7 := qhZ hn7
     rw [← hn7] at d2
     clear hx c1 c2 hml7 hE hBr hn7 a3 d3
     cases hq : (x.toList == xn.toList) with
     | true =>
       have HT : Hid (remE (es.take (k + 1)) nm = remE (es.take k) nm) := qhZ (by
         rw [HTK.out, if_neg]
         intro h; apply h; rw [← HXX.out, ← HXL.out]; simpa using hq)
       have HB9 := qhZ (HBr.out.alloc HBr.out.size (.cells #[.string x, .int .i64 n7] 126))
       have HE9 : Hid (Ents (wr.alloc (.cells #[.string x, .int .i64 n7] 126)) w3.heap.size lv (remE (es.take (k + 1)) nm)) := qhZ (by rw [HT.out]; exact World.ownsRow.alloc HE.out _)
       go_wp2
       go_roundw
       case rel => exact ⟨k + 1, _, hlt, by go_num, rfl, HE9.out, HB9.out⟩
       case measure => simp [intOf]; omega
     | false =>
       have HT : Hid (remE (es.take (k + 1)) nm = remE (es.take k) nm ++ [es[k]]) := qhZ (by
         rw [HTK.out, if_pos]
         intro h; rw [← HXX.out, ← HXL.out] at h; rw [h] at hq; simp at hq)
       have HNEW : Hid (∀ j u, ([.string x, .int .i64 n7] : List Value)[j]? = some u → ((wr.alloc (.cells #[.string x, .int .i64 n7] 126)).alloc (.cells #[.string x, .int .i64 n7] 126)).cell? ((⟨wr.heap.size + 1, 0, none⟩ : Addr).add j) = some u) := qhZ (by
         have h9 := cells_new (wr.alloc (.cells #[.string x, .int .i64 n7] 126)) [.string x, .int .i64 n7] 126
         rw [World.size_alloc] at h9
         exact h9)
       have HOA := qhZ (World.ownsRow.alloc (World.ownsRow.alloc HE.out (.cells #[.string x, .int .i64 n7] 126)) (.cells #[.string x, .int .i64 n7] 126))
       have HBA := qhZ ((HBr.out.alloc HBr.out.size (.cells #[.string x, .int .i64 n7] 126)).alloc (by simp; omega) (.cells #[.string x, .int .i64 n7] 126))
       go_wp2_with (at_builtin; refine wpList_append_own _ rfl _ _ 53 rfl w3.heap.size 126 i9 (.agg #[.string ⟨#[]⟩, .int .i64 0]) 2 24 Tryz.underlying53 hi9 hz0 hz1 hz2 rfl (by decide) _ _ _ rfl HOA.out ⟨wr.heap.size + 1, 0, none⟩ 1 1 [.string x, .int .i64 n7] rfl rfl HNEW.out (by simp [Value.oneCell']) (by unfold maxLen; omega) (by omega) (by simp; omega) ?_)
       intro v1 w1 hown hgrow _
       have HE9 : Hid (Ents w1 w3.heap.size v1 (remE (es.take (k + 1)) nm)) := qhZ (by rw [HT.out]; exact ents_snocT HX.out (by rw [← HN7.out]; exact hown))
       have HB9 := qhZ (bB9 HBA.out (by simp; omega) HOA.out hgrow)
       clear hown hgrow
       go_wp2
       go_roundw
       case rel => exact ⟨k + 1, _, hlt, by go_num, rfl, HE9.out, HB9.out⟩
       case measure => simp [intOf]; omega
   · have hT : es.take k = es := List.take_of_length_le (by omega)
     rw [hT] at HE hE
     obtain ⟨o3, c3, rfl, -⟩ := aM9 hE
     obtain ⟨n3, hn3⟩ : ∃ n3, n3 = (remE es nm).length := ⟨_, rfl⟩
     rw [← hn3] at HE ⊢
     have KOr := qhZ (aD9 hBr (aD9 HC3.out KO2.out))
     have KZr := qhZ (aD9 hBr (aD9 HC3.out KZ2a.out))
     have HO3 := qhZ (HO2a.out.below HC3.out)
     have HOr := qhZ (HO3.out.below hBr)
     have hsz3 := HC3.out.size
     have hws := HWS.out
     obtain ⟨G, cap9, e9, hRg, hgl, hn9, hm9, hc9, hfr9⟩ := HOr.out.at (i := up) hupl
     simp only [Value.slice.injEq, true_and] at e9
     obtain ⟨rfl, rfl⟩ := e9
     have hG2 : G < w2.heap.size := HO2.out.ltE.1 G rfl
     have hq1 : ps2[up].1 = aC9 f.nodes up := at_map HPS.out hupl
     have HOW := qhZ (HO3.out.listN hupl (lv' := .slice o3 n3 c3) (es' := remE es nm) (grown_bel hBr _) (bF9 (show wr.ownsRow _ _ 2 _ (remE es nm).length _ from HE.out) (by omega)) (by
       cases o3 with
       | none => exact .inl rfl
       | some a => exact .inr ⟨a.block, rfl, (World.ownsRow.lt HE.out a.block rfl).1⟩))
     have o0 : wr.cell? ⟨w2.heap.size, 0, none⟩ = some (.slice (some ⟨G, 0, none⟩) ps2.length cc2) := (aA9 KOr.out 0).trans rfl
     have o1 : wr.cell? ⟨w2.heap.size, 1, none⟩ = some (.int .i64 f.room) := (aA9 KOr.out 1).trans rfl
     have k6 := hc9.c6
     have k4 := hc9.c4
     obtain ⟨lz, hlz⟩ : ∃ lz, lz = ps2[up].2 := ⟨_, rfl⟩
     rw [← hlz] at k6
     obtain ⟨tz, htz⟩ : ∃ tz, tz = ps2[up].1.time := ⟨_, rfl⟩
     rw [← htz] at k4
     have kf := hfr9
     obtain ⟨W5, hW5⟩ : ∃ W5, W5 = (wr.setCell ⟨G, up * 7 + 6, none⟩ (.slice o3 n3 c3)).setCell ⟨G, up * 7 + 4, none⟩ (.int .i64 t) := ⟨_, rfl⟩
     have hOG : w2.heap.size ≠ G := by omega
     have hZG : w.heap.size + 1 ≠ G := by omega
     have KO5 : Hid (W5.heap[w2.heap.size]? = some (.cells #[.slice (some ⟨G, 0, none⟩) ps2.length cc2, .int .i64 f.room] 30)) := qhZ (by
       rw [hW5]; exact (Below.heap_setCell _ ⟨G, up * 7 + 4, none⟩ _ _ hOG).trans ((Below.heap_setCell wr ⟨G, up * 7 + 6, none⟩ _ _ hOG).trans KOr.out))
     have KZ5 : Hid (W5.heap[w.heap.size + 1]? = some (.cells #[.slice none 0 0, .int .i64 0] 30)) := qhZ (by
       rw [hW5]; exact (Below.heap_setCell _ ⟨G, up * 7 + 4, none⟩ _ _ hZG).trans ((Below.heap_setCell wr ⟨G, up * 7 + 6, none⟩ _ _ hZG).trans KZr.out))
     have HB5 : Hid (Below w.heap.size w W5) := qhZ (by
       rw [hW5]; exact (HBw.out.setCell (p := ⟨G, up * 7 + 6, none⟩) (by simp only; omega) _).setCell (p := ⟨G, up * 7 + 4, none⟩) (by simp only; omega) _)
     obtain ⟨qs, hqs⟩ : ∃ qs, qs = (ps2.set up ({ ps2[up].1 with list := remE es nm }, Value.slice o3 n3 c3)).set up (remN nm t (aC9 f.nodes up), Value.slice o3 n3 c3) := ⟨_, rfl⟩
     have hql9 : qs.length = ps2.length := by rw [hqs]; simp
     have HO5 : Hid (Own W5 (w.heap.size + 2) (.slice (some ⟨G, 0, none⟩) ps2.length cc2) qs) := qhZ (by
       have h1 := HOW.out
       obtain ⟨rs, hrs⟩ : ∃ rs, rs = ps2.set up ({ ps2[up].1 with list := remE es nm }, Value.slice o3 n3 c3) := ⟨_, rfl⟩
       have hrl : rs.length = ps2.length := by rw [hrs]; simp
       rw [← hrs, ← hrl] at h1
       have hru : up < rs.length := by omega
       have hr9 : rs[up]'hru = ({ ps2[up].1 with list := remE es nm }, Value.slice o3 n3 c3) := by simp [hrs]
       have h2 := h1.turn (i := up) (j := 4) hru (by decide) (.int .i64 t) { (rs[up]'hru).1 with time := t } rfl rfl
       rw [hr9, hrl] at h2
       rw [hW5, hqs, ← hrs]
       have e9 : ({ ({ ps2[up].1 with list := remE es nm } : Nod) with time := t } : Nod) = remN nm t (aC9 f.nodes up) := by
         unfold remN; rw [← HES.out, hq1]
       rw [← e9]
       exact h2)
     have HMP : Hid (qs.map Prod.fst = (remFs f up nm t).nodes) := qhZ (by
       rw [hqs, List.map_set, List.map_set, HPS.out, List.set_set]; rfl)
     have HFA5 : Hid (FsA W5 (.agg #[.slice (some ⟨G, 0, none⟩) ps2.length cc2, .int .i64 f.room]) (remFs f up nm t)) := qhZ (by
       have h := HO5.out.read f.room (by rw [HMP.out]; exact remFs_fit hup HNF.out)
       rw [HMP.out] at h
       exact h)
     obtain ⟨lk, hlk⟩ : ∃ lk, links (nd : Int) (remFs f up nm t).nodes = lk := ⟨_, rfl⟩
     have HLK := qhZ (l3Links_is hlk HFA5.out (by have := remFs_sz (p := nm) (t := t) hup; have := HS.out; omega))
     clear hqs hc9 hlz htz hE hT hq1 hn3 hfr9 a3 d3
     go_wp2_with fail
     rw [← hW5]
     refine HLK.out.mono ?_
     rintro e w6 ⟨rfl, hb6⟩
     have HB6 := qhZ (HB5.out.trans (hb6.mono HB5.out.size))
     have KO6 := qhZ (aD9 hb6 KO5.out)
     have KZ6 := qhZ (aD9 hb6 KZ5.out)
     have HO6 := qhZ (HO5.out.below hb6)
     have o6 : w6.cell? ⟨w2.heap.size, 0, none⟩ = some (.slice (some ⟨G, 0, none⟩) ps2.length cc2) := (aA9 KO6.out 0).trans rfl
     have p6 : w6.cell? ⟨w2.heap.size, 1, none⟩ = some (.int .i64 f.room) := (aA9 KO6.out 1).trans rfl
     have z6 : w6.cell? ⟨w.heap.size + 1, 0, none⟩ = some (.slice none 0 0) := (aA9 KZ6.out 0).trans rfl
     have y6 : w6.cell? ⟨w.heap.size + 1, 1, none⟩ = some (.int .i64 0) := (aA9 KZ6.out 1).trans rfl
     have zf6 := aE9 KZ6.out
     have hn0 : (0 : Int) ≤ (nd : Int) := by omega
     have hn1 : (nd : Int) < (ps2.length : Int) := by omega
     clear hb6 k6 k4 kf o0 o1 hW5
     by_cases hz : lk = 0
     · have HF : Hid (takFs f up nm t = ⟨(remFs f up nm t).nodes.set nd nod0, f.room⟩) := qhZ (takFs_yes HND.out (by rw [hlk, hz]))
       subst hz
       rw [← hql9] at HO6
       have hnq : nd < qs.length := by omega
       obtain ⟨g9, cap9, e9, hRg9, hgl9, hn9', hm9', hc9, hfr9⟩ := HO6.out.at (i := nd) hnq
       simp only [Value.slice.injEq, Option.some.injEq, Addr.mk.injEq, and_true, true_and] at e9
       obtain ⟨rfl, rfl⟩ := e9
       have HMZ : Hid ((qs.set nd (nod0, Value.slice none 0 0)).map Prod.fst = (takFs f up nm t).nodes) := qhZ (by rw [List.map_set, HMP.out, HF.out])
       obtain ⟨W9, hW9⟩ : ∃ W9, W9 = (((((((w6.setCell ⟨G, nd * 7, none⟩ (.int .i64 0)).setCell ⟨G, nd * 7 + 1, none⟩ (.int .i64 0)).setCell ⟨G, nd * 7 + 2, none⟩ (.int .i64 0)).setCell ⟨G, nd * 7 + 3, none⟩ (.int .i64 0)).setCell ⟨G, nd * 7 + 4, none⟩ (.int .i64 0)).setCell ⟨G, nd * 7 + 5, none⟩ (.string ⟨#[]⟩)).setCell ⟨G, nd * 7 + 6, none⟩ (.slice none 0 0)) := ⟨_, rfl⟩
       have HOZ : Hid (Own W9 (w.heap.size + 2) (.slice (some ⟨G, 0, none⟩) ps2.length cc2) (qs.set nd (nod0, Value.slice none 0 0))) := qhZ (by
         have h := HO6.out.whole (i := nd) hnq nod0 rfl
         rw [hql9] at h
         rw [hW9]; exact h)
       have HBZ : Hid (Below w.heap.size w W9) := qhZ (by rw [hW9]; exact bel_row (i := nd) HB6.out (show w.heap.size ≤ G by omega) (.int .i64 0) (.int .i64 0) (.int .i64 0) (.int .i64 0) (.int .i64 0) (.string ⟨#[]⟩) (.slice none 0 0))
       have KZ9 : Hid (W9.heap[w.heap.size + 1]? = some (.cells #[.slice none 0 0, .int .i64 0] 30)) := qhZ (by rw [hW9]; exact (row_ne (w := w6) (i := nd) hZG (.int .i64 0) (.int .i64 0) (.int .i64 0) (.int .i64 0) (.int .i64 0) (.string ⟨#[]⟩) (.slice none 0 0)).trans KZ6.out)
       have KO9 : Hid (W9.heap[w2.heap.size]? = some (.cells #[.slice (some ⟨G, 0, none⟩) ps2.length cc2, .int .i64 f.room] 30)) := qhZ (by rw [hW9]; exact (row_ne (w := w6) (i := nd) hOG (.int .i64 0) (.int .i64 0) (.int .i64 0) (.int .i64 0) (.int .i64 0) (.string ⟨#[]⟩) (.slice none 0 0)).trans KO6.out)
       have HW9 := qhZ hW9
       obtain ⟨q0, q1, q2, q3, q4, q5, q6⟩ := hc9
       have qf := hfr9
       have hq := bG9 KZ9.out (.slice (some ⟨G, 0, none⟩) ps2.length cc2) (.int .i64 f.room)
       have t0 := (aA9 hq 0).trans rfl
       have t1 := (aA9 hq 1).trans rfl
       have h9 := qhZ (((HOZ.out.besides (b := w.heap.size + 1) (by omega) 0 (.slice (some ⟨G, 0, none⟩) ps2.length cc2)).besides (b := w.heap.size + 1) (by omega) 1 (.int .i64 f.room)).low (R := w.heap.size) (by omega))
       have hB9 := qhZ (aP9 (G := w.heap.size + 1) (x := .slice (some ⟨G, 0, none⟩) ps2.length cc2) (y := .int .i64 f.room) HBZ.out (by omega))
       have HT0 := qhZ t0
       have HT1 := qhZ t1
       clear hql9 hlk hq hW9 t0 t1 p6 z6 y6 zf6
       go_upto_region 14 with fail
       rw [← HW9.out]
       have o9 : W9.cell? ⟨w2.heap.size, 0, none⟩ = some (.slice (some ⟨G, 0, none⟩) ps2.length cc2) := (aA9 KO9.out 0).trans rfl
       have p9 : W9.cell? ⟨w2.heap.size, 1, none⟩ = some (.int .i64 f.room) := (aA9 KO9.out 1).trans rfl
       have z9 : W9.cell? ⟨w.heap.size + 1, 0, none⟩ = some (.slice none 0 0) := (aA9 KZ9.out 0).trans rfl
       have y9 : W9.cell? ⟨w.heap.size + 1, 1, none⟩ = some (.int .i64 0) := (aA9 KZ9.out 1).trans rfl
       have zf9 := aE9 KZ9.out
       clear q0 q1 q2 q3 q4 q5 q6 qf hfr9 o6
       go_wp2
       have t0 := HT0.out
       have t1 := HT1.out
       refine bodyPost_ret (v := .agg #[(.slice (some ⟨G, 0, none⟩) ps2.length cc2), .int .i64 f.room]) (by simp [results, Tryz.results86, go_sem, t0, t1]) rfl ?_
       first | exact ⟨_, _, rfl, HMZ.out, h9.out, hB9.out⟩ | exact ⟨_, rfl, _, HMZ.out, h9.out, hB9.out⟩
     · have HF : Hid (takFs f up nm t = remFs f up nm t) := qhZ (takFs_no HND.out (by rw [hlk]; exact hz))
       have hzb : ((lk : Int) == 0) = false := beq_eq_false_iff_ne.2 (by omega)
       have hq := bG9 KZ6.out (.slice (some ⟨G, 0, none⟩) ps2.length cc2) (.int .i64 f.room)
       have t0 := (aA9 hq 0).trans rfl
       have t1 := (aA9 hq 1).trans rfl
       have h9 := qhZ (((HO6.out.besides (b := w.heap.size + 1) (by omega) 0 (.slice (some ⟨G, 0, none⟩) ps2.length cc2)).besides (b := w.heap.size + 1) (by omega) 1 (.int .i64 f.room)).low (R := w.heap.size) (by omega))
       have hB9 := qhZ (aP9 (G := w.heap.size + 1) (x := .slice (some ⟨G, 0, none⟩) ps2.length cc2) (y := .int .i64 f.room) HB6.out (by omega))
       have HMZ : Hid (qs.map Prod.fst = (takFs f up nm t).nodes) := qhZ (by rw [HF.out]; exact HMP.out)
       clear hlk hz hq hql9
       go_wp2
       refine bodyPost_ret (v := .agg #[(.slice (some ⟨G, 0, none⟩) ps2.length cc2), .int .i64 f.room]) (by simp [results, Tryz.results86, go_sem, t0, t1]) rfl ?_
       first | exact ⟨_, _, rfl, HMZ.out, h9.out, hB9.out⟩ | exact ⟨_, rfl, _, HMZ.out, h9.out, hB9.out⟩
end Go.Proofs.YtknhacblialboaaGreatDoor
