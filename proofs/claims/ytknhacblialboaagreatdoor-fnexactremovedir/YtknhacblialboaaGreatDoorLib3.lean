/-
  Joined: CopG ErrC ErrD ErrE TryA ErrF InC NameC NameD.
  Conditions: as each states.
-/
import Derived.Stop.Asserts
import Derived.RowKitTokens
import Derived.LaidEql
import Derived.Defers
import Derived.Lib.OthersKept
import Derived.Test.YtknhacblialboaaGreatDoorLib1
import Derived.Test.YtknhacblialboaaGreatDoorLib2
namespace Go.Proofs.YtknhacblialboaaGreatDoor
open Go.ChangeShapes Go.WideShapes Go.ChangeAt Go.RowKit Go.Joins
set_option linter.unusedVariables false
set_option linter.unusedSimpArgs false
set_option maxHeartbeats 16000000
theorem al3_1 (w : World) (a b c : Obj) : (((w.alloc a).alloc b).alloc c).heap[w.heap.size + 1]? = some b := by
 rw [Below.heap_alloc _ c _ (by simp)]
 have h := heap_alloc_new (w.alloc a) b
 rw [World.size_alloc] at h
 exact h
theorem al3_2 (w : World) (a b c : Obj) : (((w.alloc a).alloc b).alloc c).heap[w.heap.size + 2]? = some c := by
 have h := heap_alloc_new ((w.alloc a).alloc b) c
 rw [World.size_alloc, World.size_alloc] at h
 exact h
theorem own_entG (w : World) : (w.alloc (.cells #[] 126)).ownsRow w.heap.size 126 2 (.slice (some ⟨w.heap.size, 0, none⟩) 0 0) 0 [] :=
 World.ownsRow_made w #[] 0 (Nat.le_refl _) (by unfold maxLen; omega) rfl
theorem list_newG (w : World) (l : List Value) (t : TypeId) : ∀ j u, l[j]? = some u → (w.alloc (.cells l.toArray t)).cell? ((⟨w.heap.size, 0, none⟩ : Addr).add j) = some u := by
 intro j u h
 rw [add_plainG]
 have h2 := heap_alloc_new w (.cells l.toArray t)
 simp only [World.cell?, h2]
 simpa using h
theorem SrcC.mono {w w' : World} {o : Option Addr} {m : Nat} {news : List Value} (h : SrcC w o m news) (hl : ∀ g off j u, w.cell? ⟨g, off + j, none⟩ = some u → w'.cell? ⟨g, off + j, none⟩ = some u) : SrcC w' o m news := fun hm => by
 obtain ⟨g, off, e, hc⟩ := h hm
 exact ⟨g, off, e, fun j u hj => hl g off j u (hc j u hj)⟩
theorem SrcC.below {w w' : World} {o : Option Addr} {m : Nat} {news : List Value} (h : SrcC w o m news) (hb : Below w.heap.size w w') : SrcC w' o m news :=
 h.mono fun g off j u hc => (hb.cell (p := ⟨g, off + j, none⟩) (by
   rcases Nat.lt_or_ge g w.heap.size with h9 | h9
   · exact h9
   · simp [World.cell?, Array.getElem?_eq_none h9] at hc)).trans hc
theorem dist_new {ps : List (Nod × Value)} {q : Nod × Value} {n : Nat} (h : Dist ps) (hlt : ∀ p ∈ ps, ∀ b, p.2.ownBlock = some b → b < n) (hq : ∀ b, q.2.ownBlock = some b → n ≤ b) : Dist (ps ++ [q]) := by
 intro i j hi hj hne
 simp at hi hj
 have hlast : ∀ k (hk : k < (ps ++ [q]).length), ¬ k < ps.length → (ps ++ [q])[k] = q := fun k hk h9 => by
   simp at hk
   rw [List.getElem_append_right (by omega)]; simp
 by_cases hi2 : i < ps.length
 · by_cases hj2 : j < ps.length
   · rw [List.getElem_append_left hi2, List.getElem_append_left hj2]; exact h i j hi2 hj2 hne
   · rw [List.getElem_append_left hi2, hlast j (by simp; omega) hj2]
     cases hb : ps[i].2.ownBlock with
     | none => exact .inl rfl
     | some b =>
       refine .inr fun e => ?_
       have h1 := hlt _ (List.getElem_mem hi2) b hb
       have h2 := hq b e.symm
       omega
 · rw [hlast i (by simp; omega) hi2]
   have hj2 : j < ps.length := by omega
   rw [List.getElem_append_left hj2]
   cases hb : q.2.ownBlock with
   | none => exact .inl rfl
   | some b =>
     refine .inr fun e => ?_
     have h1 := hlt _ (List.getElem_mem hj2) b e.symm
     have h2 := hq b hb
     omega
theorem lists_big {f : FsD} (h : szF f ≤ 2097152) : f.nodes.length ≤ 2097152 ∧ ∀ n ∈ f.nodes, n.list.length ≤ 2097152 ∧ n.data.length ≤ 2097152 ∧ lensE n.list ≤ 2097152 := by
 unfold szF at h
 refine ⟨by omega, fun n hn => ?_⟩
 have := szN_mem hn
 unfold szN at this
 omega
theorem l3Own_big (f : FsD) (v : Value) (w : World) (hR : FsA w v f) (hs : szF f ≤ 2097152) : Calls Tryz.prog 37 #[v] w fun e w' => ∃ nv ps, e = .returned (.agg #[nv, .int .i64 f.room]) ∧ ps.map Prod.fst = f.nodes ∧ Own w' w.heap.size nv ps ∧ Below w.heap.size w w' := by
 obtain ⟨i8, hi8, hy0, hy1, hy2⟩ := info_parts nodInfo
 obtain ⟨i9, hi9, hz0, hz1, hz2⟩ := info_parts entInfo
 obtain ⟨nv0, rfl, hN⟩ := hR
 obtain ⟨o, c, rfl, hm, hH⟩ := hN
 have HH := qhZ hH
 have HL2 := qhZ (lists_big hs)
 have hl : f.nodes.length ≤ 2097152 := HL2.out.1
 clear hH hs
 unfold maxLen at hm
 go_enter Tryz.func37, Tryz.ntmps37
 go_wp2
 go_loopw [12] (fun i wr => ∃ (k : Nat) (ps : List (Nod × Value)) (nv : Value), k ≤ f.nodes.length ∧ i = .int .i64 k ∧ ps.length = k ∧ ps.map Prod.fst = f.nodes.take k ∧ wr.heap[w.heap.size + 1]? = some (.cells #[.slice none 0 0, .int .i64 0] 30) ∧ wr.heap[w.heap.size + 2]? = some (.cells #[nv, .int .i64 f.room] 30) ∧ Own wr (w.heap.size + 3) nv ps ∧ Below w.heap.size w wr) (fun i _ => f.nodes.length - (intOf i).toNat)
 case atStart => exact ⟨0, [], .slice none 0 0, Nat.zero_le _, rfl, rfl, rfl, al3_1 _ _ _ _, al3_2 _ _ _ _, Own.nil _ _, (((Below.refl _ _).alloc (Nat.le_refl _) _).alloc (by simp) _).alloc (by simp; omega) _⟩
 case round =>
   obtain ⟨kz, ps, nv, hk, rfl, hpl, hps, hb1, hb2, hO, hB⟩ := hrel
   subst hpl
   have HPS := qhZ hps
   have HO := qhZ hO
   have HB1 := qhZ hb1
   have HB2 := qhZ hb2
   have hsz := hB.size
   have hC := aB9 hb2
   have k0 : wr.cell? ⟨w.heap.size + 2, 0, none⟩ = some nv := aA9 hb2 0
   have k1 : wr.cell? ⟨w.heap.size + 2, 1, none⟩ = some (.int .i64 f.room) := aA9 hb2 1
   obtain ⟨on, cn, rfl, hon⟩ := aM9 hO.row
   have HON := qhZ hon
   clear hps hO hon
   by_cases hlt : ps.length < f.nodes.length
   · obtain ⟨g, off, lv, rfl, hg, hc, he, hml⟩ := HH.out _ hlt
     obtain ⟨d0, d1, d2, d3, d4, d5, d6⟩ := hc.below hB hg
     have HTK : Hid (f.nodes.take (ps.length + 1) = f.nodes.take ps.length ++ [f.nodes[ps.length]]) := qhZ (List.take_succ_eq_append_getElem hlt)
     have hql : f.nodes[ps.length].list.length ≤ 2097152 := (HL2.out.2 _ (List.getElem_mem hlt)).1
     obtain ⟨q, hqq⟩ : ∃ q, q = f.nodes[ps.length] := ⟨_, rfl⟩
     rw [← hqq] at d0 d1 d2 d3 d4 d5 he HTK hql
     obtain ⟨o2, c2, rfl, hsrc⟩ := entsA_src (he.below hB)
     have HSRC := qhZ hsrc
     obtain ⟨x, hxx⟩ : ∃ x, x = bs q.data := ⟨_, rfl⟩
     have HXX := qhZ hxx
     rw [← hxx] at d5
     obtain ⟨X, hX⟩ : ∃ X : Obj, X = .cells #[.int .i64 q.kind, .int .i64 q.mode, .int .i64 q.uid, .int .i64 q.gid, .int .i64 q.time, .string x, .slice o2 q.list.length c2] 55 := ⟨_, rfl⟩
     have hba : Below wr.heap.size wr ((wr.alloc X).alloc (.cells #[] 126)) := ((Below.refl _ _).alloc (Nat.le_refl _) _).alloc (by simp) _
     have HBA := qhZ hba
     have HSR2 : Hid (SrcC ((wr.alloc X).alloc (.cells #[] 126)) o2 q.list.length (aX9 q.list)) := qhZ (hsrc.below hba)
     have HXA : Hid (((wr.alloc X).alloc (.cells #[] 126)).heap[wr.heap.size]? = some X) := qhZ (by rw [Below.heap_alloc _ _ _ (by simp)]; exact heap_alloc_new wr X)
     rw [hX] at HSR2 HBA HXA
     clear hc he hml hqq hxx hsrc hba hX
     go_wp2_with (at_builtin; go_loud (refine wpList_append_src _ rfl _ _ 53 rfl (wr.heap.size + 1) 126 i9 (.agg #[.string ⟨#[]⟩, .int .i64 0]) 2 24 Tryz.underlying53 hi9 hz0 hz1 hz2 rfl (by decide) _ _ _ rfl (by have h9 := own_entG (wr.alloc (.cells #[.int .i64 q.kind, .int .i64 q.mode, .int .i64 q.uid, .int .i64 q.gid, .int .i64 q.time, .string x, .slice o2 q.list.length c2] 55)); rw [World.size_alloc] at h9; exact h9) o2 q.list.length c2 (aX9 q.list) rfl (bJ9 _) HSR2.out (entsV_one _) (by unfold maxLen; omega) (by omega) (by simp) ?_))
     intro v5 w5 hown5 hgrow5 _
     obtain ⟨oo5, cap5, rfl, hoo5⟩ := aM9 hown5
     have HOWN5 := qhZ hown5
     have HX5 := qhZ ((hgrow5.block wr.heap.size (by simp; omega) (by simp [Value.ownBlock])).trans HXA.out)
     have HB5 : Hid (Below wr.heap.size wr w5) := qhZ (HBA.out.grown hgrow5 HBA.out.size (fun b eb => by simp [Value.ownBlock] at eb; omega))
     have hsz5 : wr.heap.size + 2 ≤ w5.heap.size := by have h9 := hgrow5.size; simp at h9; omega
     have HLT5 : Hid (∀ b, oo5 = some b → wr.heap.size + 1 ≤ b.block ∧ b.block < w5.heap.size) := qhZ (fun b eb => by
       obtain ⟨g5, rfl, h1, h2⟩ := hoo5 b eb
       exact ⟨h1, h2⟩)
     have x0 : w5.cell? ⟨wr.heap.size, 0, none⟩ = some (.int .i64 q.kind) := aA9 HX5.out 0
     have x1 : w5.cell? ⟨wr.heap.size, 1, none⟩ = some (.int .i64 q.mode) := aA9 HX5.out 1
     have x2 : w5.cell? ⟨wr.heap.size, 2, none⟩ = some (.int .i64 q.uid) := aA9 HX5.out 2
     have x3 : w5.cell? ⟨wr.heap.size, 3, none⟩ = some (.int .i64 q.gid) := aA9 HX5.out 3
     have x4 : w5.cell? ⟨wr.heap.size, 4, none⟩ = some (.int .i64 q.time) := aA9 HX5.out 4
     have x5 : w5.cell? ⟨wr.heap.size, 5, none⟩ = some (.string x) := aA9 HX5.out 5
     have x6 : w5.cell? ⟨wr.heap.size, 6, none⟩ = some (.slice o2 q.list.length c2) := aA9 HX5.out 6
     have xf := aE9 HX5.out
     have y0 : w5.cell? ⟨w.heap.size + 2, 0, none⟩ = some (.slice on ps.length cn) := (HB5.out.cell (p := ⟨w.heap.size + 2, 0, none⟩) hC).trans k0
     obtain ⟨W6, hW6⟩ : ∃ W6, w5.setCell ⟨wr.heap.size, 6, none⟩ (.slice oo5 q.list.length cap5) = W6 := ⟨_, rfl⟩
     have HW6 := qhZ hW6
     have hu6 : ∀ i, i < wr.heap.size → W6.heap[i]? = wr.heap[i]? := fun i hi => by
       rw [← hW6, Below.heap_setCell _ ⟨wr.heap.size, 6, none⟩ _ i (by simp only; omega)]
       exact HB5.out.block i hi
     have HU6 := qhZ hu6
     have hs6 : W6.heap.size = w5.heap.size := by rw [← hW6]; simp
     have HS6 := qhZ hs6
     have HO6 : Hid (Own W6 (w.heap.size + 3) (.slice on ps.length cn) ps) := qhZ (HO.out.up fun i _ hi => hu6 i hi)
     have HE6 : Hid (Ents W6 (w.heap.size + 3) (.slice oo5 q.list.length cap5) q.list) := qhZ (by
       have h9 : w5.ownsRow (w.heap.size + 3) 126 2 (.slice oo5 q.list.length cap5) q.list.length (aX9 q.list) := by
         have h8 := HOWN5.out
         rcases h8 with ⟨hl9, h0 | ⟨g9, cap9, cur9, e9, hB9, r9⟩⟩
         · exact ⟨hl9, .inl h0⟩
         · exact ⟨hl9, .inr ⟨g9, cap9, cur9, e9, by omega, r9⟩⟩
       have h7 : w5.grownBy W6 (some wr.heap.size) := by rw [← hW6]; exact ⟨rfl, rfl, rfl, by simp, fun k _ hk => Below.heap_setCell w5 ⟨wr.heap.size, 6, none⟩ _ k (fun e => hk (by simp [e]))⟩
       refine World.ownsRow.kept h9 h7 ?_
       cases oo5 with
       | none => exact .inl rfl
       | some a9 =>
         refine .inr ?_
         have := (HLT5.out a9 rfl).1
         simp [Value.ownBlock]; omega)
     have HB6 : Hid (Below w.heap.size w W6) := qhZ (by rw [← hW6]; exact (hB.trans (HB5.out.mono hB.size)).setCell (p := ⟨wr.heap.size, 6, none⟩) (by simp only; omega) _)
     have HROW := qhZ HO6.out.row
     have hnew := list_newG W6 [.int .i64 q.kind, .int .i64 q.mode, .int .i64 q.uid, .int .i64 q.gid, .int .i64 q.time, .string x, .slice oo5 q.list.length cap5] 55
     rw [hs6] at hnew
     have HNEW := qhZ hnew
     have hD : Dist (ps ++ [(q, .slice oo5 q.list.length cap5)]) := dist_new (n := wr.heap.size) HO.out.dist (fun p hp b hb => (World.ownsRow.lt (HO.out.ent p hp) b hb).2) (fun b hb => by
       cases oo5 with
       | none => simp [Value.ownBlock] at hb
       | some a9 =>
         have := (HLT5.out a9 rfl).1
         simp [Value.ownBlock] at hb
         omega)
     have HD := qhZ hD
     have hpl2 : ps.length ≤ 2097152 := by omega
     have hs7 : wr.heap.size + 2 ≤ W6.heap.size := by omega
     clear hown5 hgrow5 hoo5 hu6 hD hs6 hnew
     clear hW6
     go_wp2_with (at_builtin; go_loud (rw [HW6.out]; refine wpList_append_own _ rfl _ _ 28 rfl (w.heap.size + 3) 55 i8 (.agg #[.int .i64 0, .int .i64 0, .int .i64 0, .int .i64 0, .int .i64 0, .string ⟨#[]⟩, .slice none 0 0]) 7 80 Tryz.underlying28 hi8 hy0 hy1 hy2 rfl (by decide) (.slice on ps.length cn) ps.length (nodsV ps) rfl (World.ownsRow.alloc HROW.out _) ⟨w5.heap.size, 0, none⟩ 1 1 [.int .i64 q.kind, .int .i64 q.mode, .int .i64 q.uid, .int .i64 q.gid, .int .i64 q.time, .string x, .slice oo5 q.list.length cap5] rfl rfl HNEW.out (by simp [Value.oneCell']) (by unfold maxLen; omega) (by omega) (by simp; omega) ?_))
     intro v7 w7 hown7 hgrow7 _
     obtain ⟨oo7, cap7, rfl, -⟩ := aM9 hown7
     have hba6 : Below W6.heap.size W6 (W6.alloc (.cells #[.int .i64 q.kind, .int .i64 q.mode, .int .i64 q.uid, .int .i64 q.gid, .int .i64 q.time, .string x, .slice oo5 q.list.length cap5] 55)) := (Below.refl _ _).alloc (Nat.le_refl _) _
     have hne : ∀ b, b < w.heap.size + 3 → some b ≠ (Value.slice on ps.length cn).ownBlock := fun b hb e => by
       cases on with
       | none => simp [Value.ownBlock] at e
       | some a9 =>
         obtain ⟨g9, rfl, h1, h2⟩ := HON.out a9 rfl
         simp [Value.ownBlock] at e
         omega
     have HO7 : Hid (Own w7 (w.heap.size + 3) (.slice oo7 (ps.length + 1) cap7) (ps ++ [(q, .slice oo5 q.list.length cap5)])) := qhZ ((HO6.out.below hba6).snoc (q := (q, .slice oo5 q.list.length cap5)) (by
       have e9 : nodV (q, .slice oo5 q.list.length cap5) = [.int .i64 q.kind, .int .i64 q.mode, .int .i64 q.uid, .int .i64 q.gid, .int .i64 q.time, .string x, .slice oo5 q.list.length cap5] := by rw [HXX.out]; rfl
       rw [e9]; exact hown7) hgrow7 (World.ownsRow.alloc HE6.out _) HD.out)
     have hX1 : w7.heap[w.heap.size + 1]? = some (.cells #[.slice none 0 0, .int .i64 0] 30) := (hgrow7.block _ (by simp; omega) (hne _ (by omega))).trans ((hba6.block _ (by omega)).trans ((HU6.out _ (by omega)).trans HB1.out))
     have hX2 : w7.heap[w.heap.size + 2]? = some (.cells #[.slice on ps.length cn, .int .i64 f.room] 30) := (hgrow7.block _ (by simp; omega) (hne _ (by omega))).trans ((hba6.block _ (by omega)).trans ((HU6.out _ (by omega)).trans HB2.out))
     have HX1 := qhZ hX1
     have HX2 := qhZ hX2
     have HB7 : Hid (Below w.heap.size w w7) := qhZ ((HB6.out.alloc HB6.out.size _).grown hgrow7 (by simp; omega) (fun b eb => by
       rcases Nat.lt_or_ge b w.heap.size with h9 | h9
       · exact absurd eb.symm (hne b (by omega))
       · exact h9))
     have s0 : w7.cell? ⟨w.heap.size + 2, 0, none⟩ = some (.slice on ps.length cn) := aA9 hX2 0
     have s1 := aE9 hX2
     clear hown7 hgrow7 hba6 hne hX1 hX2 x0 x1 x2 x3 x4 x5 x6 xf y0
     go_wp2
     go_roundw
     case rel =>
       refine ⟨ps.length + 1, _, _, hlt, by go_num, by simp, by rw [List.map_append, HPS.out, HTK.out]; rfl, ?_, heap_setCell_same w7 (w.heap.size + 2) 0 _ _ _ HX2.out, HO7.out.up fun i hi _ => ?_, HB7.out.setCell (p := ⟨w.heap.size + 2, 0, none⟩) (by simp only; omega) _⟩
       · exact (Below.heap_setCell _ ⟨w.heap.size + 2, 0, none⟩ _ _ (by simp only; omega)).trans HX1.out
       · exact Below.heap_setCell _ ⟨w.heap.size + 2, 0, none⟩ _ _ (by simp only; omega)
     case measure => simp [intOf]; omega
   · have HT : Hid (f.nodes.take ps.length = f.nodes) := qhZ (List.take_of_length_le (by omega))
     have r0 : wr.cell? ⟨w.heap.size + 1, 0, none⟩ = some (.slice none 0 0) := aA9 hb1 0
     have r1 : wr.cell? ⟨w.heap.size + 1, 1, none⟩ = some (.int .i64 0) := aA9 hb1 1
     have rf := aE9 hb1
     have HBr := qhZ hB
     clear hB hb1 hb2
     go_wp2
     refine bodyPost_ret (v := .agg #[.slice on ps.length cn, .int .i64 f.room]) (by simp [results, Tryz.results37, go_sem, r0, r1]) rfl ?_
     refine ⟨_, ps, rfl, by rw [HPS.out, HT.out], ((HO.out.up fun i hi _ => ?_).low (by omega)), (HBr.out.setCell (p := ⟨w.heap.size + 1, 0, none⟩) (by simp only; omega) _).setCell (p := ⟨w.heap.size + 1, 1, none⟩) (by simp only; omega) _⟩
     rw [Below.heap_setCell _ ⟨w.heap.size + 1, 1, none⟩ _ _ (by simp only; omega), Below.heap_setCell _ ⟨w.heap.size + 1, 0, none⟩ _ _ (by simp only; omega)]
theorem row_at {w : World} {R g cap : Nat} {ps : List (Nod × Value)} (h : w.ownsRow R 55 7 (.slice (some ⟨g, 0, none⟩) ps.length cap) ps.length (nodsV ps)) {i : Nat} (hi : i < ps.length) :
   R ≤ g ∧ g < w.heap.size ∧ ps.length ≤ cap ∧ cap ≤ maxLen ∧ NodC w g (i * 7) ps[i].2 ps[i].1 ∧ ∀ j, w.frozen? ⟨g, j, none⟩ = false := by
 obtain ⟨hl, hd⟩ := h
 rcases hd with ⟨e, h0⟩ | ⟨g1, cap1, cur, e, hB, hg, hn, hm, hs, ht⟩
 · omega
 · simp only [Value.slice.injEq, Option.some.injEq, Addr.mk.injEq, and_true, true_and] at e
   obtain ⟨rfl, rfl⟩ := e
   have hc : ∀ j, j < 7 → w.cell? ⟨g, i * 7 + j, none⟩ = (nodV ps[i])[j]? := by
     intro j hj
     have h1 : cur.toList[i * 7 + j]? = (nodsV ps)[i * 7 + j]? := by
       rw [← ht, List.getElem?_take, if_pos (by omega)]
     have h2 : (nodsV ps)[i * 7 + j]? = (nodV ps[i])[j]? := by
       unfold nodsV
       rw [flat_get (nodV_len ps) (by simpa using hi) hj]
       simp
     simp only [World.cell?, hg]
     rw [← h2, ← h1]
     simp
   refine ⟨hB, (Array.getElem?_eq_some_iff.1 hg).1, hn, hm, ⟨?_, ?_, ?_, ?_, ?_, ?_, ?_⟩, aE9 hg⟩
   · have := hc 0 (by decide); simpa [nodV] using this
   · have := hc 1 (by decide); simpa [nodV] using this
   · have := hc 2 (by decide); simpa [nodV] using this
   · have := hc 3 (by decide); simpa [nodV] using this
   · have := hc 4 (by decide); simpa [nodV] using this
   · have := hc 5 (by decide); simpa [nodV] using this
   · have := hc 6 (by decide); simpa [nodV] using this
theorem nodsV_put {ps : List (Nod × Value)} {i : Nat} (hi : i < ps.length) (u : Value) : (nodsV ps).set (i * 7 + 6) u = nodsV (ps.set i (ps[i].1, u)) := by
 unfold nodsV
 rw [flat_set (nodV_len ps) (by simpa using hi) (by decide), List.map_set]
 congr 2
 simp only [List.getElem_map]
 rfl
theorem set_mid {α : Type} (a b : List α) (x q : α) : (a ++ x :: b).set a.length q = (a ++ [q]) ++ b := by simp
theorem nodsV_len (ps : List (Nod × Value)) : (nodsV ps).length = ps.length * 7 := by unfold nodsV; rw [flat_len (nodV_len ps)]; simp
theorem nodsV_one (ps : List (Nod × Value)) (h : ∀ p ∈ ps, p.2.oneCell' = true) : ∀ u ∈ nodsV ps, u.oneCell' = true := by
 intro u hu
 unfold nodsV at hu
 obtain ⟨r, hr, hu⟩ := List.mem_flatten.1 hu
 obtain ⟨e, he, rfl⟩ := List.mem_map.1 hr
 unfold nodV at hu
 simp only [List.mem_cons, List.not_mem_nil, or_false] at hu
 rcases hu with rfl | rfl | rfl | rfl | rfl | rfl | rfl
 · rfl
 · rfl
 · rfl
 · rfl
 · rfl
 · rfl
 · exact h e he
theorem al2_1 (w : World) (a b : Obj) : ((w.alloc a).alloc b).heap[w.heap.size + 1]? = some b := by
 have h := heap_alloc_new (w.alloc a) b
 rw [World.size_alloc] at h
 exact h
theorem al2_0 (w : World) (a b : Obj) : ((w.alloc a).alloc b).heap[w.heap.size]? = some a := by
 rw [Below.heap_alloc (w.alloc a) b w.heap.size (by simp)]; exact heap_alloc_new w a
theorem l3Own_any (f : FsD) (v : Value) (w : World) (hR : FsA w v f) (hs : szF f ≤ 1048576) : Calls Tryz.prog 37 #[v] w fun e w' => ∃ nv ps, e = .returned (.agg #[nv, .int .i64 f.room]) ∧ ps.map Prod.fst = f.nodes ∧ Own w' w.heap.size nv ps ∧ Below w.heap.size w w' := l3Own_big f v w hR (by omega)
theorem copyFs_any (f : FsD) (v : Value) (w : World) (hR : FsA w v f) (hs : szF f ≤ 1048576) : Calls Tryz.prog 80 #[v] w fun e w' => ∃ nv ps, e = .returned (.agg #[nv, .int .i64 f.room]) ∧ ps.map Prod.fst = f.nodes ∧ Own w' w.heap.size nv ps ∧ Below w.heap.size w w' := by
 obtain ⟨i8, hi8, hy0, hy1, hy2⟩ := info_parts nodInfo
 obtain ⟨i9, hi9, hz0, hz1, hz2⟩ := info_parts entInfo
 obtain ⟨nv0, rfl, hN⟩ := hR
 have HL2 := qhZ (aG9 hs)
 have hl : f.nodes.length ≤ 1048576 := HL2.out.1
 obtain ⟨o, c, ps0, rfl, hm, hps, hsrc, hent⟩ := nodsA_src hN
 have HENT := qhZ hent
 have HPS := qhZ hps
 have hlp : ps0.length = f.nodes.length := by rw [← hps]; simp
 rw [← hlp] at hl hsrc ⊢
 have hba : Below w.heap.size w ((w.alloc (.cells #[.slice o ps0.length c, .int .i64 f.room] 30)).alloc (.cells #[.slice none 0 0, .int .i64 0] 30)) := ((Below.refl _ _).alloc (Nat.le_refl _) _).alloc (by simp) _
 have HBA := qhZ hba
 have HSRC := qhZ (hsrc.below hba)
 have HONE : Hid (∀ p ∈ ps0, p.2.oneCell' = true) := qhZ (fun p hp => by
   obtain ⟨o9, c9, e9, -, -⟩ := hent p hp
   rw [e9]; rfl)
 clear hs hm hps hsrc hent hlp hN hba
 go_enter Tryz.func80, Tryz.ntmps80
 go_wp2_with (at_builtin; go_loud (refine wpList_append_src _ rfl _ _ 28 rfl (w.heap.size + 2) 55 i8 (.agg #[.int .i64 0, .int .i64 0, .int .i64 0, .int .i64 0, .int .i64 0, .string ⟨#[]⟩, .slice none 0 0]) 7 80 Tryz.underlying28 hi8 hy0 hy1 hy2 rfl (by decide) _ _ _ rfl (World.ownsRow_nil _ _ _ _) o ps0.length c (nodsV ps0) rfl (nodsV_len _) HSRC.out (nodsV_one _ HONE.out) (by unfold maxLen; omega) (by omega) (by simp) ?_))
 intro v1 w1 hown1 hgrow1 _
 obtain ⟨oo1, cap1, rfl, hoo1⟩ := aM9 hown1
 have HB1 : Hid (Below w.heap.size w w1) := qhZ (HBA.out.grown hgrow1 HBA.out.size (fun b eb => by simp [Value.ownBlock] at eb))
 have HX0 : Hid (w1.heap[w.heap.size]? = some (.cells #[.slice o ps0.length c, .int .i64 f.room] 30)) := qhZ ((hgrow1.block _ (by simp; omega) (by simp [Value.ownBlock])).trans (al2_0 _ _ _))
 have HX1 : Hid (w1.heap[w.heap.size + 1]? = some (.cells #[.slice none 0 0, .int .i64 0] 30)) := qhZ ((hgrow1.block _ (by simp) (by simp [Value.ownBlock])).trans (al2_1 _ _ _))
 have HOWN1 := qhZ hown1
 have hs1 : w.heap.size + 2 ≤ w1.heap.size := by have h9 := hgrow1.size; simp at h9; omega
 clear hown1 hgrow1 hoo1
 go_wp2
 go_loopw [10] (fun i wr => ∃ (k : Nat) (qs : List (Nod × Value)), k ≤ ps0.length ∧ i = .int .i64 k ∧ qs.length = k ∧ qs.map Prod.fst = (ps0.take k).map Prod.fst ∧ wr.ownsRow (w.heap.size + 2) 55 7 (.slice oo1 ps0.length cap1) ps0.length (nodsV (qs ++ ps0.drop k)) ∧ (∀ p ∈ qs, Ents wr (w.heap.size + 2) p.2 p.1.list) ∧ Dist qs ∧ wr.heap[w.heap.size]? = some (.cells #[.slice o ps0.length c, .int .i64 f.room] 30) ∧ wr.heap[w.heap.size + 1]? = some (.cells #[.slice none 0 0, .int .i64 0] 30) ∧ Below w.heap.size w wr) (fun i _ => ps0.length - (intOf i).toNat)
 case atStart => exact ⟨0, [], Nat.zero_le _, rfl, rfl, rfl, HOWN1.out, fun p hp => (by cases hp), fun i j hi => absurd hi (by simp), HX0.out, HX1.out, HB1.out⟩
 case round =>
   obtain ⟨kz, qs, hk, rfl, hql, hqm, hrow, hE, hD, hb0, hb1, hB⟩ := hrel
   subst hql
   have HROW := qhZ hrow
   have HE := qhZ hE
   have HQM := qhZ hqm
   have HD := qhZ hD
   have HB := qhZ hB
   have HX0r := qhZ hb0
   have HX1r := qhZ hb1
   have hsz := hB.size
   have hsx := aB9 hb1
   by_cases hlt : qs.length < ps0.length
   · obtain ⟨g1, rfl⟩ : ∃ g1, oo1 = some ⟨g1, 0, none⟩ := by
       rcases hrow.2 with ⟨e, h0⟩ | ⟨g, cap9, cur9, e, -⟩
       · omega
       · simp only [Value.slice.injEq] at e
         exact ⟨g, e.1⟩
     have hlen : (qs ++ ps0.drop qs.length).length = ps0.length := by simp; omega
     have hrow2 : wr.ownsRow (w.heap.size + 2) 55 7 (.slice (some ⟨g1, 0, none⟩) (qs ++ ps0.drop qs.length).length cap1) (qs ++ ps0.drop qs.length).length (nodsV (qs ++ ps0.drop qs.length)) := by rw [hlen]; exact hrow
     obtain ⟨hRg, hgl, -, hcm, hNC, hfr⟩ := row_at hrow2 (i := qs.length) (by omega)
     have hel : (qs ++ ps0.drop qs.length)[qs.length]'(by omega) = ps0[qs.length] := by simp
     rw [hel] at hNC
     have hdr : ps0.drop qs.length = ps0[qs.length] :: ps0.drop (qs.length + 1) := List.drop_eq_getElem_cons hlt
     have htk : ps0.take (qs.length + 1) = ps0.take qs.length ++ [ps0[qs.length]] := List.take_succ_eq_append_getElem hlt
     have hEA := (HENT.out _ (List.getElem_mem hlt)).below hB
     have hqlen : ps0[qs.length].1.list.length ≤ 1048576 := (HL2.out.2 _ (by rw [← HPS.out]; exact List.mem_map_of_mem (List.getElem_mem hlt))).1
     obtain ⟨⟨q, lv⟩, hp⟩ : ∃ p, p = ps0[qs.length] := ⟨_, rfl⟩
     rw [← hp] at hNC hdr htk hEA hqlen
     simp only at hEA hqlen
     obtain ⟨o2, c2, rfl, hsrc2⟩ := entsA_src hEA
     have HSRC2 := qhZ hsrc2
     have HDR := qhZ hdr
     have HTK := qhZ htk
     have d6 := hNC.c6
     simp only at d6
     unfold maxLen at hcm
     clear hrow hE hqm hD hb0 hb1 hrow2 hel hEA hp hsrc2 hNC hlen hdr htk
     go_wp2_with (at_builtin; go_loud (refine wpList_append_src _ rfl _ _ 53 rfl wr.heap.size 126 i9 (.agg #[.string ⟨#[]⟩, .int .i64 0]) 2 24 Tryz.underlying53 hi9 hz0 hz1 hz2 rfl (by decide) _ _ _ rfl (World.ownsRow_nil _ _ _ _) o2 q.list.length c2 (aX9 q.list) rfl (bJ9 _) HSRC2.out (entsV_one _) (by unfold maxLen; omega) (by omega) (Nat.le_refl _) ?_))
     intro v5 w5 hown5 hgrow5 _
     obtain ⟨oo5, cap5, rfl, hoo5⟩ := aM9 hown5
     have HOWN5 := qhZ hown5
     have HLT5 : Hid (∀ b, oo5 = some b → wr.heap.size ≤ b.block) := qhZ (fun b eb => by
       obtain ⟨g5, rfl, h1, h2⟩ := hoo5 b eb
       exact h1)
     have hb5 : Below wr.heap.size wr w5 := (Below.refl _ _).grown hgrow5 (Nat.le_refl _) (fun b eb => by simp [Value.ownBlock] at eb)
     have HB5 := qhZ hb5
     have HROW5 : Hid (w5.ownsRow (w.heap.size + 2) 55 7 (.slice (some ⟨g1, 0, none⟩) ps0.length cap1) ps0.length (nodsV (qs ++ (q, .slice o2 q.list.length c2) :: ps0.drop (qs.length + 1)))) := qhZ (by
       rw [← HDR.out]
       exact World.ownsRow.kept HROW.out hgrow5 (.inr (by simp [Value.ownBlock])))
     have c6 : w5.cell? ⟨g1, qs.length * 7 + 6, none⟩ = some (.slice o2 q.list.length c2) := (hb5.cell (p := ⟨g1, qs.length * 7 + 6, none⟩) hgl).trans d6
     have cf : ∀ j, w5.frozen? ⟨g1, j, none⟩ = false := fun j => by rw [World.frozen?_of_block (a := ⟨g1, j, none⟩) (hb5.block g1 hgl)]; exact hfr j
     clear hown5 hgrow5 hoo5 hb5 d6 hfr
     go_wp2
     go_roundw
     case rel =>
       obtain ⟨hst, hgr⟩ := HROW5.out.stored (qs.length * 7 + 6) (.slice oo5 q.list.length cap5)
       rw [nodsV_put (by simp)] at hst
       have hel2 : (qs ++ (q, Value.slice o2 q.list.length c2) :: ps0.drop (qs.length + 1))[qs.length]'(by simp) = (q, Value.slice o2 q.list.length c2) := by simp
       rw [hel2, set_mid] at hst
       have hg1b : w.heap.size + 2 ≤ g1 := hRg
       have hne : ∀ {lv : Value} {es : List Ent} {S : Nat}, w5.ownsRow S 126 2 lv es.length (aX9 es) → (w5.setCell ⟨g1, qs.length * 7 + 6, none⟩ (.slice oo5 q.list.length cap5)).ownsRow S 126 2 lv es.length (aX9 es) := fun k => World.ownsRow.kept k hgr (ents_ne HROW5.out k rfl)
       refine ⟨qs.length + 1, qs ++ [(q, .slice oo5 q.list.length cap5)], hlt, by go_num, by simp, by rw [HTK.out, List.map_append, List.map_append, HQM.out]; rfl, hst, fun p hp => ?_, ?_, ?_, ?_, ?_⟩
       · rcases List.mem_append.1 hp with hp | hp
         · exact hne (World.ownsRow.kept (HE.out p hp) (row := none) ⟨HB5.out.os, HB5.out.tape, HB5.out.output, HB5.out.size, fun i hi _ => HB5.out.block i hi⟩ (by
             rcases (HE.out p hp).2 with ⟨e, _⟩ | ⟨g9, c9, cur9, e, _⟩
             · rw [e]; exact .inl rfl
             · rw [e]; exact .inr (by simp [Value.ownBlock])))
         · rw [List.mem_singleton.1 hp]
           have h8 := hne HOWN5.out
           rcases h8 with ⟨hl9, h0 | ⟨g9, cap9, cur9, e9, hB9, r9⟩⟩
           · exact ⟨hl9, .inl h0⟩
           · exact ⟨hl9, .inr ⟨g9, cap9, cur9, e9, by omega, r9⟩⟩
       · refine dist_new (n := wr.heap.size) HD.out (fun p hp b hb => (World.ownsRow.lt (HE.out p hp) b hb).2) (fun b hb => ?_)
         cases oo5 with
         | none => simp [Value.ownBlock] at hb
         | some a9 =>
           have := HLT5.out a9 rfl
           simp [Value.ownBlock] at hb
           omega
       · rw [Below.heap_setCell _ ⟨g1, qs.length * 7 + 6, none⟩ _ _ (by simp only; omega)]; exact (HB5.out.block _ (by omega)).trans HX0r.out
       · rw [Below.heap_setCell _ ⟨g1, qs.length * 7 + 6, none⟩ _ _ (by simp only; omega)]; exact (HB5.out.block _ (by omega)).trans HX1r.out
       · exact (HB.out.trans (HB5.out.mono HB.out.size)).setCell (p := ⟨g1, qs.length * 7 + 6, none⟩) (by simp only; omega) _
     case measure => simp [intOf]; omega
   · have hle : ps0.length ≤ qs.length := by omega
     have HO : Hid (Own wr (w.heap.size + 2) (.slice oo1 ps0.length cap1) qs) := qhZ (by
       rw [List.drop_of_length_le hle, List.append_nil] at hrow
       have he : ps0.length = qs.length := by omega
       refine ⟨?_, hE, hD⟩
       rw [← he]; exact hrow)
     have HT : Hid (qs.map Prod.fst = f.nodes) := qhZ (by rw [hqm, List.take_of_length_le hle]; exact HPS.out)
     have k1 : wr.cell? ⟨w.heap.size, 1, none⟩ = some (.int .i64 f.room) := aA9 hb0 1
     have r0 : wr.cell? ⟨w.heap.size + 1, 0, none⟩ = some (.slice none 0 0) := aA9 hb1 0
     have r1 : wr.cell? ⟨w.heap.size + 1, 1, none⟩ = some (.int .i64 0) := aA9 hb1 1
     have rf := aE9 hb1
     clear hB hb0 hb1 hrow hE hqm hD
     go_wp2
     refine bodyPost_ret (v := .agg #[.slice oo1 ps0.length cap1, .int .i64 f.room]) (by simp [results, Tryz.results80, go_sem, r0, r1]) rfl ?_
     refine ⟨_, qs, rfl, HT.out, ((HO.out.up fun i hi _ => ?_).low (by omega)), (HB.out.setCell (p := ⟨w.heap.size + 1, 0, none⟩) (by simp only; omega) _).setCell (p := ⟨w.heap.size + 1, 1, none⟩) (by simp only; omega) _⟩
     rw [Below.heap_setCell _ ⟨w.heap.size + 1, 1, none⟩ _ _ (by simp only; omega), Below.heap_setCell _ ⟨w.heap.size + 1, 0, none⟩ _ _ (by simp only; omega)]
end Go.Proofs.YtknhacblialboaaGreatDoor
namespace Go.Proofs.YtknhacblialboaaGreatDoor
open Go.ChangeShapes Go.WideShapes Go.ChangeAt Go.RowKit Go.Joins Go.Extern.Stop Go.Stop Go.Extern
set_option linter.unusedVariables false
set_option linter.unusedSimpArgs false
set_option maxHeartbeats 16000000
def faultV (p : ByteArray) (c : Int) : Value := .iface 120 (.agg #[.string p, .iface 105 (.agg #[.int .i64 c])])
def codeV (c : Int) : Value := .iface 105 (.agg #[.int .i64 c])
def ErrT (w : World) : Prop := 0 < w.heap.size ∧ w.cell? ⟨0, 0, none⟩ = some (.iface 206 (.agg #[.pointer (some ⟨2, 66, none⟩)]))
theorem ErrT.below {B : Nat} {w w' : World} (h : ErrT w) (hb : Below B w w') (hB : 0 < B) : ErrT w' :=
 ⟨Nat.lt_of_lt_of_le h.1 hb.size, by rw [hb.cell (p := ⟨0, 0, none⟩) hB]; exact h.2⟩
theorem ErrT.drew {w : World} (h : ErrT w) : ErrT w.drew := h
theorem as_nil (t : Value) (w : World) : Calls Tryz.prog 99 #[.nilIface, t] w fun e w' => e = .returned (.bool false) ∧ w = w' := by
 go_enter Tryz.func99, Tryz.ntmps99
 go_wp2
 go_ret
 exact ⟨rfl, rfl⟩
theorem ec_valueOfP (t : Addr) (w : World) : (ReflectliteValue.unpack (.iface 142 (.pointer (some t)))).run Tryz.prog w
   = .ok (.agg #[.pointer (some ⟨2, 142, none⟩), .pointer (some ⟨w.heap.size, 0, none⟩), .int .u64 150]) (w.alloc (.cells #[.pointer (some t)] 142)) := by kernel_rfl
theorem ec_typeP (a : Addr) (w : World) : (ReflectliteValue.methodAny (ReflectliteValue.valueError "reflectlite.Value.Type" 0) (fun t _ _ _ => ReflectliteType.toType t) #[.agg #[.pointer (some ⟨2, 142, none⟩), .pointer (some a), .int .u64 150]]).run Tryz.prog w
   = .ok (.iface 206 (.agg #[.pointer (some ⟨2, 142, none⟩)])) w := by kernel_rfl
theorem ec_mKind (h : Value) (w : World) : (Go.method 368 206 (.agg #[h]) "Kind").run Tryz.prog w = .ok (203, h) w := by kernel_rfl
theorem ec_mElem (h : Value) (w : World) : (Go.method 368 206 (.agg #[h]) "Elem").run Tryz.prog w = .ok (215, .agg #[h]) w := by kernel_rfl
theorem ec_mImpl (h : Value) (w : World) : (Go.method 368 206 (.agg #[h]) "Implements").run Tryz.prog w = .ok (216, .agg #[h]) w := by kernel_rfl
theorem ec_mAssg (h : Value) (w : World) : (Go.method 368 206 (.agg #[h]) "AssignableTo").run Tryz.prog w = .ok (213, .agg #[h]) w := by kernel_rfl
theorem ec_kindP (w : World) : ((ReflectliteType.abiMethod fun t => (fun a : Nat => Value.int IntKind.u8 (a : Int)) <$> Rtype.kind t) #[.pointer (some ⟨2, 142, none⟩)]).run Tryz.prog w = .ok (.int .u8 22) w := by kernel_rfl
theorem ec_kindE (w : World) : ((ReflectliteType.abiMethod fun t => (fun a : Nat => Value.int IntKind.u8 (a : Int)) <$> Rtype.kind t) #[.pointer (some ⟨2, 105, none⟩)]).run Tryz.prog w = .ok (.int .u8 25) w := by kernel_rfl
theorem rlm (z : Sem Value) (f : TypeId → Addr → Nat → Nat → Sem Value) (v : Value) :
   ReflectliteValue.method z f #[v] = (do match ← ReflectliteValue.parts v with | none => z | some (t, a, fl) => f t a fl (fl % 32)) := rfl
theorem ec_partsP (a : Addr) (w : World) : (ReflectliteValue.parts (.agg #[.pointer (some ⟨2, 142, none⟩), .pointer (some a), .int .u64 150])).run Tryz.prog w = .ok (some (142, a, 150)) w := by kernel_rfl
theorem ec_isNil (a p : Addr) (W : World) (ha : W.cell? a = some (.pointer (some p))) :
   (ReflectliteValue.method (ReflectliteValue.valueError "reflectlite.Value.IsNil" 0) ReflectliteValue.isNil #[.agg #[.pointer (some ⟨2, 142, none⟩), .pointer (some a), .int .u64 150]]).run Tryz.prog W = .ok (.bool false) W := by
 rw [rlm]
 simp only [Sem.run_bind, ec_partsP, Result.andThen]
 simp [ReflectliteValue.isNil, loadVar, isAgg, underlying, Tryz.underlying142, ha, Result.andThen]
theorem ec_elemT (w : World) : (ReflectliteType.method ReflectliteType.elem #[.agg #[.pointer (some ⟨2, 142, none⟩)]]).run Tryz.prog w = .ok (.iface 206 (.agg #[.pointer (some ⟨2, 105, none⟩)])) w := by kernel_rfl
theorem ec_implE (w : World) : (ReflectliteType.relation "Implements" ReflectliteType.implements_ #[.agg #[.pointer (some ⟨2, 105, none⟩)], .iface 206 (.agg #[.pointer (some ⟨2, 66, none⟩)])]).run Tryz.prog w = .ok (.bool true) w := by kernel_rfl
theorem ec_typeOfE (v : Value) (w : World) : (ReflectliteType.typeOf #[.iface 105 v]).run Tryz.prog w = .ok (.iface 206 (.agg #[.pointer (some ⟨2, 105, none⟩)])) w := by kernel_rfl
theorem ec_typeOfF (v : Value) (w : World) : (ReflectliteType.typeOf #[.iface 120 v]).run Tryz.prog w = .ok (.iface 206 (.agg #[.pointer (some ⟨2, 120, none⟩)])) w := by kernel_rfl
theorem ec_assgE (w : World) : (ReflectliteType.relation "AssignableTo" ReflectliteType.assignableTo #[.agg #[.pointer (some ⟨2, 105, none⟩)], .iface 206 (.agg #[.pointer (some ⟨2, 105, none⟩)])]).run Tryz.prog w = .ok (.bool true) w := by kernel_rfl
theorem ec_assgF (w : World) : (ReflectliteType.relation "AssignableTo" ReflectliteType.assignableTo #[.agg #[.pointer (some ⟨2, 120, none⟩)], .iface 206 (.agg #[.pointer (some ⟨2, 105, none⟩)])]).run Tryz.prog w = .ok (.bool false) w := by kernel_rfl
theorem ec_valueOfE (c : Int) (w : World) : (ReflectliteValue.unpack (.iface 105 (.agg #[.int .i64 c]))).run Tryz.prog w
   = .ok (.agg #[.pointer (some ⟨2, 105, none⟩), .pointer (some ⟨w.heap.size, 0, none⟩), .int .u64 153]) (w.alloc (.cells #[.int .i64 c] 105)) := by kernel_rfl
theorem ec_elemOf (w : World) : (Rtype.elem? 142).run Tryz.prog w = .ok (some 105) w := by kernel_rfl
theorem ec_mkE (p : Addr) (w : World) : (ReflectliteValue.mk 105 p ReflectliteValue.flagAddr).run Tryz.prog w = .ok (.agg #[.pointer (some ⟨2, 105, none⟩), .pointer (some p), .int .u64 409]) w := by kernel_rfl
theorem ec_elemV (a p : Addr) (W : World) (ha : W.cell? a = some (.pointer (some p))) :
   (ReflectliteValue.method (ReflectliteValue.valueError "reflectlite.Value.Elem" 0) ReflectliteValue.elem #[.agg #[.pointer (some ⟨2, 142, none⟩), .pointer (some a), .int .u64 150]]).run Tryz.prog W
     = .ok (.agg #[.pointer (some ⟨2, 105, none⟩), .pointer (some p), .int .u64 409]) W := by
 rw [rlm]
 simp only [Sem.run_bind, ec_partsP, Result.andThen]
 simp [ReflectliteValue.elem, loadVar, isAgg, underlying, Tryz.underlying142, ha, Result.andThen, ec_elemOf, ec_mkE]
theorem rls (v x : Value) : ReflectliteValue.set #[v, x] = (do
   let (some (dst, a, fl), some (src, b, _)) := (← ReflectliteValue.parts v, ← ReflectliteValue.parts x)
     | unsupported (.noEntry "extern/(internal/reflectlite.Value).Set.zeroValue")
   if fl / ReflectliteValue.flagAddr % 2 == 0 then unsupported (.noEntry "extern/(internal/reflectlite.Value).Set.unaddressable")
   let val ← loadVar src b
   if ← Rtype.directlyAssignable dst src then storeVar dst a val
   else if ← Rtype.implements dst src then
     if (← Rtype.kind src) == 20 then
       match val with
       | .nilIface => unsupported (.noEntry "extern/reflectlite: a nil value of one interface type handed on as a value of another")
       | _ => storeVar dst a val
     else storeVar dst a (.iface src val)
   else panicString ("reflectlite.Set: value of type " ++ (← Rtype.spelt src) ++ " is not assignable to type " ++ (← Rtype.spelt dst))
   pure (.tuple #[])) := rfl
theorem ec_partsEa (a : Addr) (w : World) : (ReflectliteValue.parts (.agg #[.pointer (some ⟨2, 105, none⟩), .pointer (some a), .int .u64 409])).run Tryz.prog w = .ok (some (105, a, 409)) w := by kernel_rfl
theorem ec_partsE (a : Addr) (w : World) : (ReflectliteValue.parts (.agg #[.pointer (some ⟨2, 105, none⟩), .pointer (some a), .int .u64 153])).run Tryz.prog w = .ok (some (105, a, 153)) w := by kernel_rfl
theorem ec_direct (w : World) : (Rtype.directlyAssignable 105 105).run Tryz.prog w = .ok true w := by kernel_rfl
theorem ec_size (w : World) : (sizeOf 105).run Tryz.prog w = .ok 1 w := by kernel_rfl
theorem ec_load (b : Addr) (c : Int) (W : World) (hb : W.cell? b = some (.int .i64 c)) : (loadVar 105 b).run Tryz.prog W = .ok (.agg #[.int .i64 c]) W := by
 have hb0 : W.cell? (b.add 0) = some (.int .i64 c) := by simpa [Addr.add] using hb
 have h1 : (loadCells b 1).run Tryz.prog W = .ok #[.int .i64 c] W := by
   unfold loadCells loadCellsFrom loadCellsFrom
   simp [hb0, Result.andThen]
 have h2 : (isAgg 105).run Tryz.prog W = .ok true W := by kernel_rfl
 unfold loadVar
 simp only [Sem.run_bind, h2, Result.andThen, if_true, ec_size, h1, Sem.run_pure]
theorem ec_store (ta : Addr) (c : Int) (old : Value) (W : World) (ht : W.cell? ta = some old) (hf : W.frozen? ta = false) : (storeVar 105 ta (.agg #[.int .i64 c])).run Tryz.prog W = .ok () (W.setCell ta (.int .i64 c)) := by
 have h1 : (Value.agg #[.int .i64 c]).cells = #[.int .i64 c] := rfl
 have h3 : ta.add 0 = ta := by simp [Addr.add]
 have h2 : (store ta (.int .i64 c)).run Tryz.prog W = .ok () (W.setCell ta (.int .i64 c)) := by
   rw [run_store Tryz.prog W ta _ _ (by rfl)]
   simp [ht, hf]
 unfold storeVar
 simp only [Sem.run_bind, h1, ec_size, Result.andThen]
 simp [storeCells, h3, h2, Result.andThen]
theorem ec_set (ta b : Addr) (c : Int) (old : Value) (W : World) (hb : W.cell? b = some (.int .i64 c)) (ht : W.cell? ta = some old) (hf : W.frozen? ta = false) :
   (ReflectliteValue.set #[.agg #[.pointer (some ⟨2, 105, none⟩), .pointer (some ta), .int .u64 409], .agg #[.pointer (some ⟨2, 105, none⟩), .pointer (some b), .int .u64 153]]).run Tryz.prog W
     = .ok (.tuple #[]) (W.setCell ta (.int .i64 c)) := by
 rw [rls]
 simp only [Sem.run_bind, ec_partsEa, ec_partsE, Result.andThen]
 simp [ReflectliteValue.flagAddr, ec_load b c W hb, Result.andThen, ec_direct, ec_store ta c old W ht hf]
theorem ec_noAs (v : Value) (xT : TypeId) (w : World) : (Instr.typeAssert (.iface 120 v) xT 210 true).run Tryz.prog w = .ok (.tuple #[.nilIface, .bool false]) w :=
 run_typeAssert_lacksB Tryz.underlying210 (by kernel_rfl) (by kernel_rfl) v xT w
theorem ec_unwrap (v : Value) (xT : TypeId) (w : World) : (Instr.typeAssert (.iface 120 v) xT 213 true).run Tryz.prog w = .ok (.tuple #[.iface 120 v, .bool true]) w :=
 run_typeAssert_hasB Tryz.underlying213 (by kernel_rfl) v xT w
theorem ec_mUnwrap (v : Array Value) (w : World) : (Go.method 368 120 (.agg v) "Unwrap").run Tryz.prog w = .ok (208, .agg v) w := by kernel_rfl
set_option maxRecDepth 100000 in
theorem as_fault (p : ByteArray) (c : Int) (t : Addr) (old : Value) (w : World) (hg : ErrT w) (ht0 : w.cell? t = some old) (hf0 : w.frozen? t = false) :
   Calls Tryz.prog 99 #[faultV p c, .iface 142 (.pointer (some t))] w fun ev w' => ev = .returned (.bool true) ∧ w' = (((((w.alloc (.cells #[.pointer (some t)] 142)).alloc (.cells #[.pointer (some ⟨2, 142, none⟩), .pointer (some ⟨w.heap.size, 0, none⟩), .int .u64 150] 167)).alloc (.cells #[.pointer (some ⟨2, 142, none⟩), .pointer (some ⟨w.heap.size, 0, none⟩), .int .u64 150] 167)).alloc (.cells #[.string p, .iface 105 (.agg #[.int .i64 c])] 120)).alloc (.cells #[.int .i64 c] 105)).setCell t (.int .i64 c) := by
 obtain ⟨hg1, hg0⟩ := hg
 unfold faultV
 have h6 := @run_callFunc_extern Tryz.prog 136 _ (fun args => ReflectliteValue.unpack (args.getD 0 (.tuple #[]))) Tryz.func136 (by kernel_rfl) (by kernel_rfl) (by kernel_rfl) (by kernel_rfl)
 have h7 := @run_callFunc_extern Tryz.prog 137 _ (ReflectliteValue.methodAny (ReflectliteValue.valueError "reflectlite.Value.Type" 0) (fun t _ _ _ => ReflectliteType.toType t)) Tryz.func137 (by kernel_rfl) (by kernel_rfl) (by kernel_rfl) (by kernel_rfl)
 have h8 := @run_callFunc_extern Tryz.prog 138 _ (ReflectliteValue.method (ReflectliteValue.valueError "reflectlite.Value.IsNil" 0) ReflectliteValue.isNil) Tryz.func138 (by kernel_rfl) (by kernel_rfl) (by kernel_rfl) (by kernel_rfl)
 have h27 := @run_callFunc_extern Tryz.prog 203 _ (ReflectliteType.abiMethod fun t => do pure (.int .u8 (← Rtype.kind t))) Tryz.func203 (by kernel_rfl) (by kernel_rfl) (by kernel_rfl) (by kernel_rfl)
 have h37 := @run_callFunc_extern Tryz.prog 215 _ (ReflectliteType.method ReflectliteType.elem) Tryz.func215 (by kernel_rfl) (by kernel_rfl) (by kernel_rfl) (by kernel_rfl)
 have h38 := @run_callFunc_extern Tryz.prog 216 _ (ReflectliteType.relation "Implements" ReflectliteType.implements_) Tryz.func216 (by kernel_rfl) (by kernel_rfl) (by kernel_rfl) (by kernel_rfl)
 have h10 := @run_callFunc_extern Tryz.prog 154 _ ReflectliteType.typeOf Tryz.func154 (by kernel_rfl) (by kernel_rfl) (by kernel_rfl) (by kernel_rfl)
 have h35 := @run_callFunc_extern Tryz.prog 213 _ (ReflectliteType.relation "AssignableTo" ReflectliteType.assignableTo) Tryz.func213 (by kernel_rfl) (by kernel_rfl) (by kernel_rfl) (by kernel_rfl)
 have h11 := @run_callFunc_extern Tryz.prog 168 _ (ReflectliteValue.method (ReflectliteValue.valueError "reflectlite.Value.Elem" 0) ReflectliteValue.elem) Tryz.func168 (by kernel_rfl) (by kernel_rfl) (by kernel_rfl) (by kernel_rfl)
 have h12 := @run_callFunc_extern Tryz.prog 169 _ ReflectliteValue.set Tryz.func169 (by kernel_rfl) (by kernel_rfl) (by kernel_rfl) (by kernel_rfl)
 have tE := ec_typeOfE
 have tF := ec_typeOfF
 have mA := ec_mAssg
 have aE := ec_assgE
 have aF := ec_assgF
 have vE := ec_valueOfE
 have f6 := ec_valueOfP
 have f7 := ec_typeP
 have mK := ec_mKind
 have mE := ec_mElem
 have mI := ec_mImpl
 have kP := ec_kindP
 have kE := ec_kindE
 have eT := ec_elemT
 have iE := ec_implE
 have nA := ec_noAs
 have uW := ec_unwrap
 have mU := ec_mUnwrap
 have n8 := ec_isNil ⟨w.heap.size, 0, none⟩ t ((w.alloc (.cells #[.pointer (some t)] 142)).alloc (.cells #[.pointer (some ⟨2, 142, none⟩), .pointer (some ⟨w.heap.size, 0, none⟩), .int .u64 150] 167)) (by simp)
 have hg2 : ((w.alloc (.cells #[.pointer (some t)] 142)).alloc (.cells #[.pointer (some ⟨2, 142, none⟩), .pointer (some ⟨w.heap.size, 0, none⟩), .int .u64 150] 167)).cell? ⟨0, 0, none⟩ = some (.iface 206 (.agg #[.pointer (some ⟨2, 66, none⟩)])) := by
   rw [World.cell?_alloc_lt _ _ ⟨0, 0, none⟩ (by first | (simp; done) | (simp; omega)), World.cell?_alloc_lt _ _ ⟨0, 0, none⟩ hg1]; exact hg0
 have htl : t.block < w.heap.size := by
   rcases Nat.lt_or_ge t.block w.heap.size with h | h
   · exact h
   · simp [World.cell?, Array.getElem?_eq_none h] at ht0
 have el := ec_elemV ⟨w.heap.size, 0, none⟩ t ((((w.alloc (.cells #[.pointer (some t)] 142)).alloc (.cells #[.pointer (some ⟨2, 142, none⟩), .pointer (some ⟨w.heap.size, 0, none⟩), .int .u64 150] 167)).alloc (.cells #[.pointer (some ⟨2, 142, none⟩), .pointer (some ⟨w.heap.size, 0, none⟩), .int .u64 150] 167)).alloc (.cells #[.string p, .iface 105 (.agg #[.int .i64 c])] 120)) (by rw [World.cell?_alloc_lt _ _ ⟨w.heap.size, 0, none⟩ (by simp; omega), World.cell?_alloc_lt _ _ ⟨w.heap.size, 0, none⟩ (by simp; omega)]; simp)
 have st := ec_set t ⟨w.heap.size + 1 + 1 + 1 + 1, 0, none⟩ c old (((((w.alloc (.cells #[.pointer (some t)] 142)).alloc (.cells #[.pointer (some ⟨2, 142, none⟩), .pointer (some ⟨w.heap.size, 0, none⟩), .int .u64 150] 167)).alloc (.cells #[.pointer (some ⟨2, 142, none⟩), .pointer (some ⟨w.heap.size, 0, none⟩), .int .u64 150] 167)).alloc (.cells #[.string p, .iface 105 (.agg #[.int .i64 c])] 120)).alloc (.cells #[.int .i64 c] 105))
   (by rw [World.cell?_alloc_at _ _ _ _ (by simp)]; rfl)
   (by rw [World.cell?_alloc_lt _ _ t (by simp; omega), World.cell?_alloc_lt _ _ t (by simp; omega), World.cell?_alloc_lt _ _ t (by simp; omega), World.cell?_alloc_lt _ _ t (by simp; omega), World.cell?_alloc_lt _ _ t htl]; exact ht0)
   (by rw [World.frozen?_alloc_old _ _ t (by simp; omega), World.frozen?_alloc_old _ _ t (by simp; omega), World.frozen?_alloc_old _ _ t (by simp; omega), World.frozen?_alloc_old _ _ t (by simp; omega), World.frozen?_alloc_old _ _ t (Nat.ne_of_lt htl)]; exact hf0)
 go_enter Tryz.func99, Tryz.ntmps99
 go_wp2
 refine wp_loop_rounds 2 ?_
 rw [rounds_succ]
 go_wp2
 rw [rounds_succ]
 go_wp2
 go_ret
 exact ⟨rfl, rfl⟩
end Go.Proofs.YtknhacblialboaaGreatDoor
namespace Go.Proofs.YtknhacblialboaaGreatDoor
open Go.ChangeShapes Go.WideShapes Go.ChangeAt Go.RowKit Go.Joins
set_option linter.unusedVariables false
set_option linter.unusedSimpArgs false
set_option maxHeartbeats 16000000
def errV (p : ByteArray) (c : Int) : Value := if c = 0 then .nilIface else faultV p c
def errC (c : Int) : Value := if c = 0 then .nilIface else codeV c
theorem codeOf_any (p : ByteArray) (c : Int) (w : World) (hg : ErrT w) : Calls Tryz.prog 82 #[errV p c] w fun e w' => e = .returned (.int .i64 c) ∧ Below w.heap.size w w' := by
 have hb0 : Below w.heap.size w (w.alloc (.cells #[.int .i64 0] 105)) := (Below.refl _ _).alloc (Nat.le_refl _) _
 by_cases h : c = 0
 · subst h
   have he : errV p 0 = .nilIface := rfl
   rw [he]
   go_enter Tryz.func82, Tryz.ntmps82
   go_wp2_with fail
   refine (as_nil _ _).mono ?_
   rintro e w1 ⟨rfl, rfl⟩
   go_wp2
   go_ret
   exact ⟨rfl, hb0⟩
 · have he : errV p c = faultV p c := by unfold errV; rw [if_neg h]
   rw [he]
   have hE := hg.below hb0 hg.1
   have hc0 : (w.alloc (.cells #[.int .i64 0] 105)).cell? ⟨w.heap.size, 0, none⟩ = some (.int .i64 0) := by simp
   have hf0 : (w.alloc (.cells #[.int .i64 0] 105)).frozen? ⟨w.heap.size, 0, none⟩ = false := by simp
   have HE := qhZ hE
   have HC := qhZ hc0
   have HF := qhZ hf0
   have HB := qhZ hb0
   obtain ⟨fv, hfv⟩ : ∃ fv, fv = faultV p c := ⟨_, rfl⟩
   rw [← hfv]
   have HV := qhZ hfv
   clear hE hc0 hf0 hb0 hfv he
   go_enter Tryz.func82, Tryz.ntmps82
   go_wp2_with fail
   rw [HV.out]
   refine (as_fault p c _ _ _ HE.out HC.out HF.out).mono ?_
   rintro e w1 ⟨rfl, hw1⟩
   have hb1 : Below w.heap.size w w1 := by
     rw [hw1]
     exact ((((((HB.out.alloc HB.out.size _).alloc (by simp; omega) _).alloc (by simp; omega) _).alloc (by simp; omega) _).alloc (by simp; omega) _)).setCell (p := ⟨w.heap.size, 0, none⟩) (Nat.le_refl _) _
   have hc1 : w1.cell? ⟨w.heap.size, 0, none⟩ = some (.int .i64 c) := by
     rw [hw1]
     have hX : Below (w.heap.size + 1) (w.alloc (.cells #[.int .i64 0] 105)) ((((((w.alloc (.cells #[.int .i64 0] 105)).alloc (.cells #[.pointer (some ⟨w.heap.size, 0, none⟩)] 142)).alloc (.cells #[.pointer (some ⟨2, 142, none⟩), .pointer (some ⟨(w.alloc (.cells #[.int .i64 0] 105)).heap.size, 0, none⟩), .int .u64 150] 167)).alloc (.cells #[.pointer (some ⟨2, 142, none⟩), .pointer (some ⟨(w.alloc (.cells #[.int .i64 0] 105)).heap.size, 0, none⟩), .int .u64 150] 167)).alloc (.cells #[.string p, .iface 105 (.agg #[.int .i64 c])] 120)).alloc (.cells #[.int .i64 c] 105)) :=
       (((((Below.refl _ _).alloc (by simp) _).alloc (by simp) _).alloc (by simp) _).alloc (by simp) _).alloc (by simp) _
     exact World.cell?_setCell_same _ _ _ ((hX.cell (p := ⟨w.heap.size, 0, none⟩) (by simp)).trans HC.out)
   clear hw1
   go_wp2
   go_ret
   exact ⟨rfl, hb1⟩
theorem undo_idle (pc pf pg : Nat) (u : FrameMode) (w : World) (hc : w.heap[pc]? = some (.cells #[.int .i64 0] 3)) :
   CallsD Tryz.prog 81 #[.pointer (some ⟨pc, 0, none⟩), .pointer (some ⟨pf, 0, none⟩), .pointer (some ⟨pg, 0, none⟩)] u w fun e u' w' => u' = u ∧ (e = .returned (.tuple #[]) ∧ w' = w) := by
 have k0 : w.cell? ⟨pc, 0, none⟩ = some (.int .i64 0) := aA9 hc 0
 clear hc
 go_enter_d Tryz.func81, Tryz.ntmps81
 go_wp2
 go_end0
 exact ⟨rfl, rfl⟩
theorem undo_done (pc pf pg : Nat) (c : Int) (f : FsD) (nv gv : Value) (gr : Int) (B : Nat) (u : FrameMode) (w : World) (hz : c ≠ 0) (hc : w.heap[pc]? = some (.cells #[.int .i64 c] 3)) (hf : w.heap[pf]? = some (.cells #[nv, .int .i64 f.room] 30))
   (hg : w.heap[pg]? = some (.cells #[gv, .int .i64 gr] 30)) (hA : FsA w (.agg #[nv, .int .i64 f.room]) f) (hs : szF f ≤ 1048576) :
   CallsD Tryz.prog 81 #[.pointer (some ⟨pc, 0, none⟩), .pointer (some ⟨pf, 0, none⟩), .pointer (some ⟨pg, 0, none⟩)] u w fun e u' w' => u' = u ∧ (e = .returned (.tuple #[]) ∧ ∃ nv2 ps w2, ps.map Prod.fst = f.nodes ∧ Own w2 w.heap.size nv2 ps ∧ Below w.heap.size w w2 ∧ w' = (w2.setCell ⟨pg, 0, none⟩ nv2).setCell ⟨pg, 1, none⟩ (.int .i64 f.room)) := by
 have k0 : w.cell? ⟨pc, 0, none⟩ = some (.int .i64 c) := aA9 hc 0
 have f0 : w.cell? ⟨pf, 0, none⟩ = some nv := aA9 hf 0
 have f1 : w.cell? ⟨pf, 1, none⟩ = some (.int .i64 f.room) := aA9 hf 1
 have HG := qhZ hg
 have HA := qhZ hA
 have kz : (c != 0) = true := by rw [bne_iff_ne]; exact hz
 clear hc hf hg hA hz
 go_enter_d Tryz.func81, Tryz.ntmps81
 go_wp2_with fail
 refine (copyFs_any f _ _ HA.out hs).mono ?_
 rintro e w2 ⟨nv2, ps, rfl, hps, hO, hb⟩
 obtain ⟨on, cn, rfl, -⟩ := aM9 hO.row
 have hg2 := (hb.block pg (aB9 HG.out)).trans HG.out
 have g0 : w2.cell? ⟨pg, 0, none⟩ = some gv := aA9 hg2 0
 have g1 : w2.cell? ⟨pg, 1, none⟩ = some (.int .i64 gr) := aA9 hg2 1
 have gf := aE9 hg2
 have HO := qhZ hO
 have HB := qhZ hb
 have HPS := qhZ hps
 clear hO hb hg2 hps
 go_wp2
 go_end0
 exact ⟨rfl, _, ps, w2, HPS.out, HO.out, HB.out, rfl⟩
end Go.Proofs.YtknhacblialboaaGreatDoor
namespace Go.Proofs.YtknhacblialboaaGreatDoor
open Go.ChangeShapes Go.WideShapes Go.ChangeAt Go.RowKit Go.Joins Go.Extern.Stop Go.Stop Go.Extern
set_option linter.unusedVariables false
set_option linter.unusedSimpArgs false
set_option maxHeartbeats 16000000
set_option maxRecDepth 100000 in
theorem as_code (c : Int) (t : Addr) (old : Value) (w : World) (hg : ErrT w) (ht0 : w.cell? t = some old) (hf0 : w.frozen? t = false) :
   Calls Tryz.prog 99 #[codeV c, .iface 142 (.pointer (some t))] w fun ev w' => ev = .returned (.bool true) ∧ ∃ W1, Below w.heap.size w W1 ∧ w' = W1.setCell t (.int .i64 c) := by
 obtain ⟨hg1, hg0⟩ := hg
 unfold codeV
 have h6 := @run_callFunc_extern Tryz.prog 136 _ (fun args => ReflectliteValue.unpack (args.getD 0 (.tuple #[]))) Tryz.func136 (by kernel_rfl) (by kernel_rfl) (by kernel_rfl) (by kernel_rfl)
 have h7 := @run_callFunc_extern Tryz.prog 137 _ (ReflectliteValue.methodAny (ReflectliteValue.valueError "reflectlite.Value.Type" 0) (fun t _ _ _ => ReflectliteType.toType t)) Tryz.func137 (by kernel_rfl) (by kernel_rfl) (by kernel_rfl) (by kernel_rfl)
 have h8 := @run_callFunc_extern Tryz.prog 138 _ (ReflectliteValue.method (ReflectliteValue.valueError "reflectlite.Value.IsNil" 0) ReflectliteValue.isNil) Tryz.func138 (by kernel_rfl) (by kernel_rfl) (by kernel_rfl) (by kernel_rfl)
 have h27 := @run_callFunc_extern Tryz.prog 203 _ (ReflectliteType.abiMethod fun t => do pure (.int .u8 (← Rtype.kind t))) Tryz.func203 (by kernel_rfl) (by kernel_rfl) (by kernel_rfl) (by kernel_rfl)
 have h37 := @run_callFunc_extern Tryz.prog 215 _ (ReflectliteType.method ReflectliteType.elem) Tryz.func215 (by kernel_rfl) (by kernel_rfl) (by kernel_rfl) (by kernel_rfl)
 have h38 := @run_callFunc_extern Tryz.prog 216 _ (ReflectliteType.relation "Implements" ReflectliteType.implements_) Tryz.func216 (by kernel_rfl) (by kernel_rfl) (by kernel_rfl) (by kernel_rfl)
 have h10 := @run_callFunc_extern Tryz.prog 154 _ ReflectliteType.typeOf Tryz.func154 (by kernel_rfl) (by kernel_rfl) (by kernel_rfl) (by kernel_rfl)
 have h35 := @run_callFunc_extern Tryz.prog 213 _ (ReflectliteType.relation "AssignableTo" ReflectliteType.assignableTo) Tryz.func213 (by kernel_rfl) (by kernel_rfl) (by kernel_rfl) (by kernel_rfl)
 have h11 := @run_callFunc_extern Tryz.prog 168 _ (ReflectliteValue.method (ReflectliteValue.valueError "reflectlite.Value.Elem" 0) ReflectliteValue.elem) Tryz.func168 (by kernel_rfl) (by kernel_rfl) (by kernel_rfl) (by kernel_rfl)
 have h12 := @run_callFunc_extern Tryz.prog 169 _ ReflectliteValue.set Tryz.func169 (by kernel_rfl) (by kernel_rfl) (by kernel_rfl) (by kernel_rfl)
 have tE := ec_typeOfE
 have tF := ec_typeOfF
 have mA := ec_mAssg
 have aE := ec_assgE
 have aF := ec_assgF
 have vE := ec_valueOfE
 have f6 := ec_valueOfP
 have f7 := ec_typeP
 have mK := ec_mKind
 have mE := ec_mElem
 have mI := ec_mImpl
 have kP := ec_kindP
 have kE := ec_kindE
 have eT := ec_elemT
 have iE := ec_implE
 have nA := ec_noAs
 have n8 := ec_isNil ⟨w.heap.size, 0, none⟩ t ((w.alloc (.cells #[.pointer (some t)] 142)).alloc (.cells #[.pointer (some ⟨2, 142, none⟩), .pointer (some ⟨w.heap.size, 0, none⟩), .int .u64 150] 167)) (by simp)
 have hg2 : ((w.alloc (.cells #[.pointer (some t)] 142)).alloc (.cells #[.pointer (some ⟨2, 142, none⟩), .pointer (some ⟨w.heap.size, 0, none⟩), .int .u64 150] 167)).cell? ⟨0, 0, none⟩ = some (.iface 206 (.agg #[.pointer (some ⟨2, 66, none⟩)])) := by
   rw [World.cell?_alloc_lt _ _ ⟨0, 0, none⟩ (by first | (simp; done) | (simp; omega)), World.cell?_alloc_lt _ _ ⟨0, 0, none⟩ hg1]; exact hg0
 have htl : t.block < w.heap.size := by
   rcases Nat.lt_or_ge t.block w.heap.size with h | h
   · exact h
   · simp [World.cell?, Array.getElem?_eq_none h] at ht0
 have el := ec_elemV ⟨w.heap.size, 0, none⟩ t (((w.alloc (.cells #[.pointer (some t)] 142)).alloc (.cells #[.pointer (some ⟨2, 142, none⟩), .pointer (some ⟨w.heap.size, 0, none⟩), .int .u64 150] 167)).alloc (.cells #[.pointer (some ⟨2, 142, none⟩), .pointer (some ⟨w.heap.size, 0, none⟩), .int .u64 150] 167)) (by rw [World.cell?_alloc_lt _ _ ⟨w.heap.size, 0, none⟩ (by simp; omega), World.cell?_alloc_lt _ _ ⟨w.heap.size, 0, none⟩ (by simp)]; simp)
 have st := ec_set t ⟨w.heap.size + 1 + 1 + 1, 0, none⟩ c old ((((w.alloc (.cells #[.pointer (some t)] 142)).alloc (.cells #[.pointer (some ⟨2, 142, none⟩), .pointer (some ⟨w.heap.size, 0, none⟩), .int .u64 150] 167)).alloc (.cells #[.pointer (some ⟨2, 142, none⟩), .pointer (some ⟨w.heap.size, 0, none⟩), .int .u64 150] 167)).alloc (.cells #[.int .i64 c] 105))
   (by rw [World.cell?_alloc_at _ _ _ _ (by simp)]; rfl)
   (by rw [World.cell?_alloc_lt _ _ t (by simp; omega), World.cell?_alloc_lt _ _ t (by simp; omega), World.cell?_alloc_lt _ _ t (by simp; omega), World.cell?_alloc_lt _ _ t htl]; exact ht0)
   (by rw [World.frozen?_alloc_old _ _ t (by simp; omega), World.frozen?_alloc_old _ _ t (by simp; omega), World.frozen?_alloc_old _ _ t (by simp; omega), World.frozen?_alloc_old _ _ t (Nat.ne_of_lt htl)]; exact hf0)
 go_enter Tryz.func99, Tryz.ntmps99
 go_wp2
 refine wp_loop_rounds 1 ?_
 rw [rounds_succ]
 go_wp2
 go_ret
 exact ⟨rfl, _, ((((Below.refl _ _).alloc (Nat.le_refl _) _).alloc (by simp) _).alloc (by simp; omega) _).alloc (by simp; omega) _, rfl⟩
theorem codeOfC_any (c : Int) (w : World) (hg : ErrT w) : Calls Tryz.prog 82 #[errC c] w fun e w' => e = .returned (.int .i64 c) ∧ Below w.heap.size w w' := by
 by_cases h : c = 0
 · subst h
   exact codeOf_any ⟨#[]⟩ 0 w hg
 · have he : errC c = codeV c := by unfold errC; rw [if_neg h]
   rw [he]
   have hb0 : Below w.heap.size w (w.alloc (.cells #[.int .i64 0] 105)) := (Below.refl _ _).alloc (Nat.le_refl _) _
   have hE := hg.below hb0 hg.1
   have hc0 : (w.alloc (.cells #[.int .i64 0] 105)).cell? ⟨w.heap.size, 0, none⟩ = some (.int .i64 0) := by simp
   have hf0 : (w.alloc (.cells #[.int .i64 0] 105)).frozen? ⟨w.heap.size, 0, none⟩ = false := by simp
   have HE := qhZ hE
   have HC := qhZ hc0
   have HF := qhZ hf0
   have HB := qhZ hb0
   obtain ⟨fv, hfv⟩ : ∃ fv, fv = codeV c := ⟨_, rfl⟩
   rw [← hfv]
   have HV := qhZ hfv
   clear hE hc0 hf0 hb0 hfv he
   go_enter Tryz.func82, Tryz.ntmps82
   go_wp2_with fail
   rw [HV.out]
   refine (as_code c _ _ _ HE.out HC.out HF.out).mono ?_
   rintro e w1 ⟨rfl, W1, hW1, hw1⟩
   have hb1 : Below w.heap.size w w1 := by
     rw [hw1]
     exact (HB.out.trans (hW1.mono (by simp))).setCell (p := ⟨w.heap.size, 0, none⟩) (Nat.le_refl _) _
   have hc1 : w1.cell? ⟨w.heap.size, 0, none⟩ = some (.int .i64 c) := by
     rw [hw1]
     exact World.cell?_setCell_same _ _ _ ((hW1.cell (p := ⟨w.heap.size, 0, none⟩) (by simp)).trans HC.out)
   clear hw1 hW1
   go_wp2
   go_ret
   exact ⟨rfl, hb1⟩
end Go.Proofs.YtknhacblialboaaGreatDoor
namespace Go.Proofs.YtknhacblialboaaGreatDoor
open Go.ChangeShapes Go.WideShapes Go.ChangeAt Go.RowKit Go.Joins
set_option linter.unusedVariables false
set_option linter.unusedSimpArgs false
set_option maxHeartbeats 16000000
theorem l1In_any (n lo hi : Int) (w : World) : Calls Tryz.prog 61 #[.int .i64 n, .int .i64 lo, .int .i64 hi] w fun e w' => e = .returned (.bool (inB lo hi n)) ∧ w = w' := by
 by_cases h0 : lo ≤ n
 · by_cases h1 : n ≤ hi
   · go_enter Tryz.func61, Tryz.ntmps61
     go_wp2
     go_ret
     exact ⟨aK9 (inB_mk h0 h1), rfl⟩
   · go_enter Tryz.func61, Tryz.ntmps61
     go_wp2
     go_ret
     exact ⟨aK9 (inB_no (by omega)), rfl⟩
 · go_enter Tryz.func61, Tryz.ntmps61
   go_wp2
   go_ret
   exact ⟨aK9 (inB_no (by omega)), rfl⟩
theorem sign_any (n : Nat) (w : World) (h : n ≤ 2147483647) : Calls Tryz.prog 187 #[.int .i32 (n : Int)] w fun e w' => e = .returned (.bool (signN n)) ∧ w = w' := by
 go_enter Tryz.func187, Tryz.ntmps187
 go_wp2
 all_goals
   go_ret
   exact ⟨aK9 (by rw [Bool.eq_iff_iff]; simp [signN]; omega), rfl⟩
theorem below_iter (w : World) (s : ByteArray) (p : Nat) : Below w.heap.size w (w.iter s p) := (Below.refl _ _).alloc (Nat.le_refl _) _
theorem part_no {l : List UInt8} (h : ¬ (1 ≤ l.length ∧ l.length ≤ 8)) : false = partB l := by simp [partB, h]
theorem part_in {l : List UInt8} (h : 1 ≤ l.length ∧ l.length ≤ 8) : partB l = signsB l := by simp [partB, h]
theorem signs_bad {s : ByteArray} {k : Nat} (h : k < s.size) (hb : signN (s[k]'h).toNat = false) : signsB s.data.toList = false := by
 unfold signsB
 rw [List.all_eq_false]
 exact ⟨s[k]'h, List.getElem_mem (by simpa using h), by simp [hb]⟩
theorem isPart_any (s : ByteArray) (w : World) : Calls Tryz.prog 179 #[.string s] w fun e w' => e = .returned (.bool (partB s.data.toList)) ∧ Below w.heap.size w w' := by
 have hl : s.data.toList.length = s.size := aW9 s
 by_cases h1 : 1 ≤ s.size
 · by_cases h8 : s.size ≤ 8
   · have e0 : ¬ ((s.size : Int) < 1) := by omega
     have e8 : ¬ (8 < (s.size : Int)) := by omega
     have HP := qhZ (part_in (l := s.data.toList) (by omega))
     have HL := qhZ hl
     clear hl
     go_enter Tryz.func179, Tryz.ntmps179
     go_wp2
     go_loopw [] (fun wr => ∃ k : Nat, wr = w.iter s k ∧ k ≤ s.size ∧ signsB (s.data.toList.take k) = true) (fun wr => s.size - wr.iterPos w.heap.size)
     case atStart => exact ⟨0, rfl, Nat.zero_le _, rfl⟩
     case round =>
       obtain ⟨k, rfl, hk, hs⟩ := hrel
       have HS := qhZ hs
       clear hs
       by_cases hlt : k < s.size
       · by_cases hg : signN (s[k]'hlt).toNat = true
         · have HG := qhZ hg
           have hnx := fun ty => run_next_ascii (P := Tryz.prog) w s k ty hlt (signN_lt hg)
           clear hg
           go_wp2_with (go_at_call 187; refine (sign_any _ _ (by have := (s[k]'hlt).toNat_lt; omega)).mono ?_; rintro e w' ⟨rfl, rfl⟩; rw [HG.out])
           go_roundw
           case rel => exact ⟨k + 1, rfl, hlt, by rw [take_snoc' s k hlt, signsB_snoc, HS.out, HG.out]; rfl⟩
           case measure => simp; omega
         · have hr : signN (Utf8.decode s k).1 = false := by
             by_cases ha : (s[k]'hlt).toNat < 128
             · rw [decode_ascii s k hlt ha]; simpa using hg
             · exact signN_hi (decode_high s k hlt (by omega)).1
           have HR := qhZ hr
           have HB := qhZ (signs_bad hlt (by simpa using hg))
           have hnx := fun ty => run_next_any (P := Tryz.prog) w s k ty hlt
           have hdl := decode_le s k
           clear hg hr
           go_wp2_with (go_at_call 187; refine (sign_any _ _ hdl).mono ?_; rintro e w' ⟨rfl, rfl⟩; rw [HR.out])
           go_ret
           exact ⟨aK9 (by rw [HP.out, HB.out]), below_iter _ _ _⟩
       · have hnx := fun ty => run_next_end (P := Tryz.prog) w s k ty hlt
         go_wp2
         go_ret
         refine ⟨aK9 ?_, below_iter _ _ _⟩
         rw [HP.out, ← HS.out, List.take_of_length_le (by rw [HL.out]; omega)]
   · have e0 : ¬ ((s.size : Int) < 1) := by omega
     have HP := qhZ (part_no (l := s.data.toList) (by omega))
     clear hl
     go_enter Tryz.func179, Tryz.ntmps179
     go_wp2
     go_ret
     exact ⟨aK9 HP.out, Below.refl _ _⟩
 · have HP := qhZ (part_no (l := s.data.toList) (by omega))
   clear hl
   go_enter Tryz.func179, Tryz.ntmps179
   go_wp2
   go_ret
   exact ⟨aK9 HP.out, Below.refl _ _⟩
theorem goodName_any (s : ByteArray) (w : World) : Calls Tryz.prog 162 #[.string s] w fun e w' => e = .returned (.bool (nameB s.data.toList)) ∧ Below w.heap.size w w' := by
 go_enter Tryz.func162, Tryz.ntmps162
 go_wp2_with fail
 refine (isPart_any _ _).mono ?_
 rintro e w' ⟨rfl, hb⟩
 go_wp2
 all_goals
   go_ret
   refine ⟨aK9 ?_, hb⟩
   try simp only [ByteArray.toList_eq] at *
   simp [nameB, *]
theorem name_no {l : List UInt8} (h : signsB l = false) : false = nameB l := by simp [nameB, partB, h]
theorem name_in {l : List UInt8} (h : signsB l = true) : nameB l = (inB 1 8 l.length && (!(l == [46]) && !(l == [46, 46]))) := by
 have : decide (1 ≤ l.length ∧ l.length ≤ 8) = inB 1 8 l.length := by
   rw [Bool.eq_iff_iff]; simp [inB]; omega
 simp only [nameB, partB, h, this, Bool.and_true]
theorem l2Name_any (s : ByteArray) (w : World) (hs : s.size ≤ maxLen) : Calls Tryz.prog 77 #[.string s] w fun e w' => e = .returned (.bool (nameB s.data.toList)) ∧ w = w' := by
 unfold maxLen at hs
 go_enter Tryz.func77, Tryz.ntmps77
 go_wp2
 go_loop [3] (fun i => ∃ k : Nat, k ≤ s.size ∧ i = .int .i64 k ∧ signsB (s.data.toList.take k) = true) (fun i => s.size - (intOf i).toNat)
 case atStart => exact ⟨0, Nat.zero_le _, rfl, rfl⟩
 case round =>
   obtain ⟨k, hk, rfl, hg⟩ := hrel
   have HG := qhZ hg
   clear hg
   by_cases hlt : k < s.size
   · go_wp2
     all_goals first
       | (go_round
          case rel => exact ⟨k + 1, hlt, by go_num, by rw [take_snoc' s k hlt, signsB_snoc, HG.out]; simp at *; simp [signN]; omega⟩
          case measure => simp [intOf]; omega)
       | (go_ret
          refine ⟨aK9 (name_no (signs_bad hlt ?_)), rfl⟩
          simp at *; simp [signN]; omega)
   · have HN := qhZ (name_in (l := s.data.toList) (by rw [← HG.out, List.take_of_length_le (by rw [aW9]; omega)]))
     go_wp2_with (go_at_call 61; refine (l1In_any _ _ _ _).mono ?_; rintro e w' ⟨rfl, rfl⟩)
     all_goals
       go_ret
       refine ⟨aK9 ?_, rfl⟩
       rw [HN.out]
       simp only [ByteArray.toList_eq, aW9] at *
       simp [*]
end Go.Proofs.YtknhacblialboaaGreatDoor
