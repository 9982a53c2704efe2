/-
  Joined: CopF CopG FsV ListD.
  Conditions: as each states.
-/
import Derived.Laws.Cover1
import Derived.Test.YtpkmkpeabfmbiaaGreatDoorLib2
import Derived.Test.YtpkmkpeabfmbiaaGreatDoorLib3
import Derived.Test.YtpkmkpeabfmbiaaGreatDoorLib4

/-
  What a file system that can be read holds, as the source of a copy.
  Conditions: as each states.
-/
namespace Go.Proofs.YtpkmkpeabfmbiaaGreatDoor
open Go.ChangeShapes Go.WideShapes Go.ChangeAt Go.RowKit Go.Joins
set_option linter.unusedVariables false
set_option linter.unusedSimpArgs false

theorem entsA_src {w : World} {lv : Value} {es : List Ent} (h : EntsA w lv es) : ∃ o c, lv = .slice o es.length c ∧ SrcC w o es.length (entsV es) := by
  obtain ⟨o, c, rfl, hm, hH⟩ := h
  refine ⟨o, c, rfl, fun hne => ?_⟩
  obtain ⟨g, off, rfl, -, -, -, -⟩ := hH 0 (by omega)
  refine ⟨g, off, rfl, fun j u hj => ?_⟩
  have hlt : j < es.length * 2 := by rw [← entsV_len]; exact (List.getElem?_eq_some_iff.1 hj).1
  have hi : j / 2 < es.length := by omega
  obtain ⟨g2, off2, e2, -, h1, h2, -⟩ := hH (j / 2) hi
  simp only [Option.some.injEq, Addr.mk.injEq, and_true] at e2
  obtain ⟨rfl, rfl⟩ := e2
  have e1 : (entsV es)[j]? = (entV es[j / 2])[j % 2]? := by
    have := flat_get (entV_len es) (i := j / 2) (j := j % 2) (by simpa using hi) (Nat.mod_lt _ (by decide))
    rw [show j / 2 * 2 + j % 2 = j by omega] at this
    unfold entsV
    rw [this]; simp
  rw [e1] at hj
  rcases (show j % 2 = 0 ∨ j % 2 = 1 by omega) with h9 | h9
  · rw [h9] at hj
    rw [show off + j = off + j / 2 * 2 by omega, h1]
    exact hj
  · rw [h9] at hj
    rw [show off + j = off + j / 2 * 2 + 1 by omega, h2]
    exact hj
theorem nodsA_src {w : World} {v : Value} {ns : List Nod} (h : NodsA w v ns) : ∃ o c ps, v = .slice o ns.length c ∧ ns.length ≤ maxLen ∧ ps.map Prod.fst = ns ∧ SrcC w o ns.length (nodsV ps) ∧ ∀ p ∈ ps, EntsA w p.2 p.1.list := by
  obtain ⟨o, c, rfl, hm, hH⟩ := h
  have h1 : ∀ i, ∃ lv, ∀ (h : i < ns.length), ∃ g off, o = some ⟨g, off, none⟩ ∧ NodC w g (off + i * 7) lv ns[i] ∧ EntsA w lv ns[i].list := by
    intro i
    by_cases hi : i < ns.length
    · obtain ⟨g, off, lv, e, hg, hc, he, -⟩ := hH i hi
      exact ⟨lv, fun _ => ⟨g, off, e, hc, he⟩⟩
    · exact ⟨.slice none 0 0, fun h => absurd h hi⟩
  obtain ⟨L, hL⟩ := Classical.skolem.1 h1
  obtain ⟨ps, hps⟩ : ∃ ps, ps = (List.range ns.length).map fun i => (ns.getD i nod0, L i) := ⟨_, rfl⟩
  have hlen : ps.length = ns.length := by rw [hps]; simp
  have hat : ∀ i (h : i < ps.length), ps[i] = (ns[i]'(by omega), L i) := by
    intro i hi
    have h2 : i < ns.length := by omega
    subst hps
    simp [List.getD, h2]
  refine ⟨o, c, ps, rfl, by omega, ?_, ?_, ?_⟩
  · refine List.ext_getElem (by simpa using hlen) fun i h3 h4 => ?_
    simp only [List.getElem_map]
    rw [hat i (by simpa using h3)]
  · intro hne
    obtain ⟨g, off, rfl, -, -⟩ := hL 0 (by omega)
    refine ⟨g, off, rfl, fun j u hj => ?_⟩
    have hvl : (nodsV ps).length = ps.length * 7 := by unfold nodsV; rw [flat_len (nodV_len ps)]; simp
    have hlt : j < ps.length * 7 := by rw [← hvl]; exact (List.getElem?_eq_some_iff.1 hj).1
    have hi : j / 7 < ps.length := by omega
    obtain ⟨g2, off2, e2, hc, -⟩ := hL (j / 7) (by omega)
    simp only [Option.some.injEq, Addr.mk.injEq, and_true] at e2
    obtain ⟨rfl, rfl⟩ := e2
    have e1 : (nodsV ps)[j]? = (nodV ps[j / 7])[j % 7]? := by
      have := flat_get (nodV_len ps) (i := j / 7) (j := j % 7) (by simpa using hi) (Nat.mod_lt _ (by decide))
      rw [show j / 7 * 7 + j % 7 = j by omega] at this
      unfold nodsV
      rw [this]; simp
    rw [e1, hat _ hi] at hj
    obtain ⟨d0, d1, d2, d3, d4, d5, d6⟩ := hc
    rcases (show j % 7 = 0 ∨ j % 7 = 1 ∨ j % 7 = 2 ∨ j % 7 = 3 ∨ j % 7 = 4 ∨ j % 7 = 5 ∨ j % 7 = 6 by omega) with h9 | h9 | h9 | h9 | h9 | h9 | h9 <;> rw [h9] at hj
    · rw [show off + j = off + j / 7 * 7 by omega, d0]; exact hj
    · rw [show off + j = off + j / 7 * 7 + 1 by omega, d1]; exact hj
    · rw [show off + j = off + j / 7 * 7 + 2 by omega, d2]; exact hj
    · rw [show off + j = off + j / 7 * 7 + 3 by omega, d3]; exact hj
    · rw [show off + j = off + j / 7 * 7 + 4 by omega, d4]; exact hj
    · rw [show off + j = off + j / 7 * 7 + 5 by omega, d5]; exact hj
    · rw [show off + j = off + j / 7 * 7 + 6 by omega, d6]; exact hj
  · intro p hp
    obtain ⟨i, hi, rfl⟩ := List.getElem_of_mem hp
    rw [hat i hi]
    obtain ⟨g, off, -, -, he⟩ := hL i (by omega)
    exact he
end Go.Proofs.YtpkmkpeabfmbiaaGreatDoor


/-
  Contracts of the model's l3Own and the program's copyFs: the same file system in rows of the call's own.
  Conditions: at most 2^20 values and letters together.
-/
namespace Go.Proofs.YtpkmkpeabfmbiaaGreatDoor
open Go.ChangeShapes Go.WideShapes Go.ChangeAt Go.RowKit Go.Joins
set_option linter.unusedVariables false
set_option linter.unusedSimpArgs false

theorem al3_1 (w : World) (a b c : Obj) : (((w.alloc a).alloc b).alloc c).heap[w.heap.size + 1]? = some b := by
  rw [Below.heap_alloc _ c _ (by simp)]
  have h := heap_alloc_new (w.alloc a) b
  rw [World.size_alloc] at h
  exact h
theorem al3_2 (w : World) (a b c : Obj) : (((w.alloc a).alloc b).alloc c).heap[w.heap.size + 2]? = some c := by
  have h := heap_alloc_new ((w.alloc a).alloc b) c
  rw [World.size_alloc, World.size_alloc] at h
  exact h
theorem own_entG (w : World) : (w.alloc (.cells #[] 125)).ownsRow w.heap.size 125 2 (.slice (some ⟨w.heap.size, 0, none⟩) 0 0) 0 [] :=
  World.ownsRow_made w #[] 0 (Nat.le_refl _) (by unfold maxLen; omega) rfl
theorem list_newG (w : World) (l : List Value) (t : TypeId) : ∀ j u, l[j]? = some u → (w.alloc (.cells l.toArray t)).cell? ((⟨w.heap.size, 0, none⟩ : Addr).add j) = some u := by
  intro j u h
  rw [add_plainG]
  have h2 := heap_alloc_new w (.cells l.toArray t)
  simp only [World.cell?, h2]
  simpa using h
theorem SrcC.mono {w w' : World} {o : Option Addr} {m : Nat} {news : List Value} (h : SrcC w o m news) (hl : ∀ g off j u, w.cell? ⟨g, off + j, none⟩ = some u → w'.cell? ⟨g, off + j, none⟩ = some u) : SrcC w' o m news := fun hm => by
  obtain ⟨g, off, e, hc⟩ := h hm
  exact ⟨g, off, e, fun j u hj => hl g off j u (hc j u hj)⟩
theorem SrcC.below {w w' : World} {o : Option Addr} {m : Nat} {news : List Value} (h : SrcC w o m news) (hb : Below w.heap.size w w') : SrcC w' o m news :=
  h.mono fun g off j u hc => (hb.cell (p := ⟨g, off + j, none⟩) (by
    rcases Nat.lt_or_ge g w.heap.size with h9 | h9
    · exact h9
    · simp [World.cell?, Array.getElem?_eq_none h9] at hc)).trans hc
theorem dist_new {ps : List (Nod × Value)} {q : Nod × Value} {n : Nat} (h : Dist ps) (hlt : ∀ p ∈ ps, ∀ b, p.2.ownBlock = some b → b < n) (hq : ∀ b, q.2.ownBlock = some b → n ≤ b) : Dist (ps ++ [q]) := by
  intro i j hi hj hne
  simp at hi hj
  have hlast : ∀ k (hk : k < (ps ++ [q]).length), ¬ k < ps.length → (ps ++ [q])[k] = q := fun k hk h9 => by
    simp at hk
    rw [List.getElem_append_right (by omega)]; simp
  by_cases hi2 : i < ps.length
  · by_cases hj2 : j < ps.length
    · rw [List.getElem_append_left hi2, List.getElem_append_left hj2]; exact h i j hi2 hj2 hne
    · rw [List.getElem_append_left hi2, hlast j (by simp; omega) hj2]
      cases hb : ps[i].2.ownBlock with
      | none => exact .inl rfl
      | some b =>
        refine .inr fun e => ?_
        have h1 := hlt _ (List.getElem_mem hi2) b hb
        have h2 := hq b e.symm
        omega
  · rw [hlast i (by simp; omega) hi2]
    have hj2 : j < ps.length := by omega
    rw [List.getElem_append_left hj2]
    cases hb : q.2.ownBlock with
    | none => exact .inl rfl
    | some b =>
      refine .inr fun e => ?_
      have h1 := hlt _ (List.getElem_mem hj2) b e.symm
      have h2 := hq b hb
      omega

set_option maxHeartbeats 4000000 in
theorem l3Own_any (f : FsD) (v : Value) (w : World) (hR : FsA w v f) (hs : szF f ≤ 1048576) : Calls Tryz.prog 52 #[v] w fun e w' => ∃ nv ps, e = .returned (.agg #[nv, .int .i64 f.room]) ∧ ps.map Prod.fst = f.nodes ∧ Own w' w.heap.size nv ps ∧ Below w.heap.size w w' := by
  obtain ⟨i8, hi8, hy0, hy1, hy2⟩ := info_parts nodInfo
  obtain ⟨i9, hi9, hz0, hz1, hz2⟩ := info_parts entInfo
  obtain ⟨nv0, rfl, hN⟩ := hR
  obtain ⟨o, c, rfl, hm, hH⟩ := hN
  have HH := Lib.hid hH
  have HL2 := Lib.hid (lists_small hs)
  have hl : f.nodes.length ≤ 1048576 := HL2.out.1
  clear hH hs
  unfold maxLen at hm
  go_enter Tryz.func52, Tryz.ntmps52
  go_wp2
  go_loopw [12] (fun i wr => ∃ (k : Nat) (ps : List (Nod × Value)) (nv : Value), k ≤ f.nodes.length ∧ i = .int .i64 k ∧ ps.length = k ∧ ps.map Prod.fst = f.nodes.take k ∧ wr.heap[w.heap.size + 1]? = some (.cells #[.slice none 0 0, .int .i64 0] 34) ∧ wr.heap[w.heap.size + 2]? = some (.cells #[nv, .int .i64 f.room] 34) ∧ Own wr (w.heap.size + 3) nv ps ∧ Below w.heap.size w wr) (fun i _ => f.nodes.length - (intOf i).toNat)
  case atStart => exact ⟨0, [], .slice none 0 0, Nat.zero_le _, rfl, rfl, rfl, al3_1 _ _ _ _, al3_2 _ _ _ _, Own.nil _ _, (((Below.refl _ _).alloc (Nat.le_refl _) _).alloc (by simp) _).alloc (by simp; omega) _⟩
  case round =>
    obtain ⟨kz, ps, nv, hk, rfl, hpl, hps, hb1, hb2, hO, hB⟩ := hrel
    subst hpl
    have HPS := Lib.hid hps
    have HO := Lib.hid hO
    have HB1 := Lib.hid hb1
    have HB2 := Lib.hid hb2
    have hsz := hB.size
    have hC := lt_of_heap hb2
    have k0 : wr.cell? ⟨w.heap.size + 2, 0, none⟩ = some nv := cell_blk hb2 0
    have k1 : wr.cell? ⟨w.heap.size + 2, 1, none⟩ = some (.int .i64 f.room) := cell_blk hb2 1
    obtain ⟨on, cn, rfl, hon⟩ := owns_form hO.row
    have HON := Lib.hid hon
    clear hps hO hon
    by_cases hlt : ps.length < f.nodes.length
    · obtain ⟨g, off, lv, rfl, hg, hc, he, hml⟩ := HH.out _ hlt
      obtain ⟨d0, d1, d2, d3, d4, d5, d6⟩ := hc.below hB hg
      have HTK : Hid (f.nodes.take (ps.length + 1) = f.nodes.take ps.length ++ [f.nodes[ps.length]]) := Lib.hid (List.take_succ_eq_append_getElem hlt)
      have hql : f.nodes[ps.length].list.length ≤ 1048576 := (HL2.out.2 _ (List.getElem_mem hlt)).1
      obtain ⟨q, hqq⟩ : ∃ q, q = f.nodes[ps.length] := ⟨_, rfl⟩
      rw [← hqq] at d0 d1 d2 d3 d4 d5 he HTK hql
      obtain ⟨o2, c2, rfl, hsrc⟩ := entsA_src (he.below hB)
      have HSRC := Lib.hid hsrc
      obtain ⟨x, hxx⟩ : ∃ x, x = bs q.data := ⟨_, rfl⟩
      have HXX := Lib.hid hxx
      rw [← hxx] at d5
      obtain ⟨X, hX⟩ : ∃ X : Obj, X = .cells #[.int .i64 q.kind, .int .i64 q.mode, .int .i64 q.uid, .int .i64 q.gid, .int .i64 q.time, .string x, .slice o2 q.list.length c2] 91 := ⟨_, rfl⟩
      have hba : Below wr.heap.size wr ((wr.alloc X).alloc (.cells #[] 125)) := ((Below.refl _ _).alloc (Nat.le_refl _) _).alloc (by simp) _
      have HBA := Lib.hid hba
      have HSR2 : Hid (SrcC ((wr.alloc X).alloc (.cells #[] 125)) o2 q.list.length (entsV q.list)) := Lib.hid (hsrc.below hba)
      have HXA : Hid (((wr.alloc X).alloc (.cells #[] 125)).heap[wr.heap.size]? = some X) := Lib.hid (by rw [Below.heap_alloc _ _ _ (by simp)]; exact heap_alloc_new wr X)
      rw [hX] at HSR2 HBA HXA
      clear hc he hml hqq hxx hsrc hba hX
      go_wp2_with (at_builtin; go_loud (refine wpList_append_src _ rfl _ _ 89 rfl (wr.heap.size + 1) 125 i9 (.agg #[.string ⟨#[]⟩, .int .i64 0]) 2 24 Tryz.underlying89 hi9 hz0 hz1 hz2 rfl (by decide) _ _ _ rfl (by have h9 := own_entG (wr.alloc (.cells #[.int .i64 q.kind, .int .i64 q.mode, .int .i64 q.uid, .int .i64 q.gid, .int .i64 q.time, .string x, .slice o2 q.list.length c2] 91)); rw [World.size_alloc] at h9; exact h9) o2 q.list.length c2 (entsV q.list) rfl (entsV_len _) HSR2.out (entsV_one _) (by unfold maxLen; omega) (by omega) (by simp) ?_))
      intro v5 w5 hown5 hgrow5 _
      obtain ⟨oo5, cap5, rfl, hoo5⟩ := owns_form hown5
      have HOWN5 := Lib.hid hown5
      have HX5 := Lib.hid ((hgrow5.block wr.heap.size (by simp; omega) (by simp [Value.ownBlock])).trans HXA.out)
      have HB5 : Hid (Below wr.heap.size wr w5) := Lib.hid (HBA.out.grown hgrow5 HBA.out.size (fun b eb => by simp [Value.ownBlock] at eb; omega))
      have hsz5 : wr.heap.size + 2 ≤ w5.heap.size := by have h9 := hgrow5.size; simp at h9; omega
      have HLT5 : Hid (∀ b, oo5 = some b → wr.heap.size + 1 ≤ b.block ∧ b.block < w5.heap.size) := Lib.hid (fun b eb => by
        obtain ⟨g5, rfl, h1, h2⟩ := hoo5 b eb
        exact ⟨h1, h2⟩)
      have x0 : w5.cell? ⟨wr.heap.size, 0, none⟩ = some (.int .i64 q.kind) := cell_blk HX5.out 0
      have x1 : w5.cell? ⟨wr.heap.size, 1, none⟩ = some (.int .i64 q.mode) := cell_blk HX5.out 1
      have x2 : w5.cell? ⟨wr.heap.size, 2, none⟩ = some (.int .i64 q.uid) := cell_blk HX5.out 2
      have x3 : w5.cell? ⟨wr.heap.size, 3, none⟩ = some (.int .i64 q.gid) := cell_blk HX5.out 3
      have x4 : w5.cell? ⟨wr.heap.size, 4, none⟩ = some (.int .i64 q.time) := cell_blk HX5.out 4
      have x5 : w5.cell? ⟨wr.heap.size, 5, none⟩ = some (.string x) := cell_blk HX5.out 5
      have x6 : w5.cell? ⟨wr.heap.size, 6, none⟩ = some (.slice o2 q.list.length c2) := cell_blk HX5.out 6
      have xf := frozen_blk HX5.out
      have y0 : w5.cell? ⟨w.heap.size + 2, 0, none⟩ = some (.slice on ps.length cn) := (HB5.out.cell (p := ⟨w.heap.size + 2, 0, none⟩) hC).trans k0
      obtain ⟨W6, hW6⟩ : ∃ W6, w5.setCell ⟨wr.heap.size, 6, none⟩ (.slice oo5 q.list.length cap5) = W6 := ⟨_, rfl⟩
      have HW6 := Lib.hid hW6
      have hu6 : ∀ i, i < wr.heap.size → W6.heap[i]? = wr.heap[i]? := fun i hi => by
        rw [← hW6, Below.heap_setCell _ ⟨wr.heap.size, 6, none⟩ _ i (by simp only; omega)]
        exact HB5.out.block i hi
      have HU6 := Lib.hid hu6
      have hs6 : W6.heap.size = w5.heap.size := by rw [← hW6]; simp
      have HS6 := Lib.hid hs6
      have HO6 : Hid (Own W6 (w.heap.size + 3) (.slice on ps.length cn) ps) := Lib.hid (HO.out.up fun i _ hi => hu6 i hi)
      have HE6 : Hid (Ents W6 (w.heap.size + 3) (.slice oo5 q.list.length cap5) q.list) := Lib.hid (by
        have h9 : w5.ownsRow (w.heap.size + 3) 125 2 (.slice oo5 q.list.length cap5) q.list.length (entsV q.list) := by
          have h8 := HOWN5.out
          rcases h8 with ⟨hl9, h0 | ⟨g9, cap9, cur9, e9, hB9, r9⟩⟩
          · exact ⟨hl9, .inl h0⟩
          · exact ⟨hl9, .inr ⟨g9, cap9, cur9, e9, by omega, r9⟩⟩
        have h7 : w5.grownBy W6 (some wr.heap.size) := by rw [← hW6]; exact ⟨rfl, rfl, rfl, by simp, fun k _ hk => Below.heap_setCell w5 ⟨wr.heap.size, 6, none⟩ _ k (fun e => hk (by simp [e]))⟩
        refine World.ownsRow.kept h9 h7 ?_
        cases oo5 with
        | none => exact .inl rfl
        | some a9 =>
          refine .inr ?_
          have := (HLT5.out a9 rfl).1
          simp [Value.ownBlock]; omega)
      have HB6 : Hid (Below w.heap.size w W6) := Lib.hid (by rw [← hW6]; exact (hB.trans (HB5.out.mono hB.size)).setCell (p := ⟨wr.heap.size, 6, none⟩) (by simp only; omega) _)
      have HROW := Lib.hid HO6.out.row
      have hnew := list_newG W6 [.int .i64 q.kind, .int .i64 q.mode, .int .i64 q.uid, .int .i64 q.gid, .int .i64 q.time, .string x, .slice oo5 q.list.length cap5] 91
      rw [hs6] at hnew
      have HNEW := Lib.hid hnew
      have hD : Dist (ps ++ [(q, .slice oo5 q.list.length cap5)]) := dist_new (n := wr.heap.size) HO.out.dist (fun p hp b hb => (World.ownsRow.lt (HO.out.ent p hp) b hb).2) (fun b hb => by
        cases oo5 with
        | none => simp [Value.ownBlock] at hb
        | some a9 =>
          have := (HLT5.out a9 rfl).1
          simp [Value.ownBlock] at hb
          omega)
      have HD := Lib.hid hD
      have hpl2 : ps.length ≤ 1048576 := by omega
      have hs7 : wr.heap.size + 2 ≤ W6.heap.size := by omega
      clear hown5 hgrow5 hoo5 hu6 hD hs6 hnew
      clear hW6
      go_wp2_with (at_builtin; go_loud (rw [HW6.out]; refine wpList_append_own _ rfl _ _ 32 rfl (w.heap.size + 3) 91 i8 (.agg #[.int .i64 0, .int .i64 0, .int .i64 0, .int .i64 0, .int .i64 0, .string ⟨#[]⟩, .slice none 0 0]) 7 80 Tryz.underlying32 hi8 hy0 hy1 hy2 rfl (by decide) (.slice on ps.length cn) ps.length (nodsV ps) rfl (World.ownsRow.alloc HROW.out _) ⟨w5.heap.size, 0, none⟩ 1 1 [.int .i64 q.kind, .int .i64 q.mode, .int .i64 q.uid, .int .i64 q.gid, .int .i64 q.time, .string x, .slice oo5 q.list.length cap5] rfl rfl HNEW.out (by simp [Value.oneCell']) (by unfold maxLen; omega) (by omega) (by simp; omega) ?_))
      intro v7 w7 hown7 hgrow7 _
      obtain ⟨oo7, cap7, rfl, -⟩ := owns_form hown7
      have hba6 : Below W6.heap.size W6 (W6.alloc (.cells #[.int .i64 q.kind, .int .i64 q.mode, .int .i64 q.uid, .int .i64 q.gid, .int .i64 q.time, .string x, .slice oo5 q.list.length cap5] 91)) := (Below.refl _ _).alloc (Nat.le_refl _) _
      have hne : ∀ b, b < w.heap.size + 3 → some b ≠ (Value.slice on ps.length cn).ownBlock := fun b hb e => by
        cases on with
        | none => simp [Value.ownBlock] at e
        | some a9 =>
          obtain ⟨g9, rfl, h1, h2⟩ := HON.out a9 rfl
          simp [Value.ownBlock] at e
          omega
      have HO7 : Hid (Own w7 (w.heap.size + 3) (.slice oo7 (ps.length + 1) cap7) (ps ++ [(q, .slice oo5 q.list.length cap5)])) := Lib.hid ((HO6.out.below hba6).snoc (q := (q, .slice oo5 q.list.length cap5)) (by
        have e9 : nodV (q, .slice oo5 q.list.length cap5) = [.int .i64 q.kind, .int .i64 q.mode, .int .i64 q.uid, .int .i64 q.gid, .int .i64 q.time, .string x, .slice oo5 q.list.length cap5] := by rw [HXX.out]; rfl
        rw [e9]; exact hown7) hgrow7 (World.ownsRow.alloc HE6.out _) HD.out)
      have hX1 : w7.heap[w.heap.size + 1]? = some (.cells #[.slice none 0 0, .int .i64 0] 34) := (hgrow7.block _ (by simp; omega) (hne _ (by omega))).trans ((hba6.block _ (by omega)).trans ((HU6.out _ (by omega)).trans HB1.out))
      have hX2 : w7.heap[w.heap.size + 2]? = some (.cells #[.slice on ps.length cn, .int .i64 f.room] 34) := (hgrow7.block _ (by simp; omega) (hne _ (by omega))).trans ((hba6.block _ (by omega)).trans ((HU6.out _ (by omega)).trans HB2.out))
      have HX1 := Lib.hid hX1
      have HX2 := Lib.hid hX2
      have HB7 : Hid (Below w.heap.size w w7) := Lib.hid ((HB6.out.alloc HB6.out.size _).grown hgrow7 (by simp; omega) (fun b eb => by
        rcases Nat.lt_or_ge b w.heap.size with h9 | h9
        · exact absurd eb.symm (hne b (by omega))
        · exact h9))
      have s0 : w7.cell? ⟨w.heap.size + 2, 0, none⟩ = some (.slice on ps.length cn) := cell_blk hX2 0
      have s1 := frozen_blk hX2
      clear hown7 hgrow7 hba6 hne hX1 hX2 x0 x1 x2 x3 x4 x5 x6 xf y0
      go_wp2
      go_roundw
      case rel =>
        refine ⟨ps.length + 1, _, _, hlt, by go_num, by simp, by rw [List.map_append, HPS.out, HTK.out]; rfl, ?_, heap_setCell_same w7 (w.heap.size + 2) 0 _ _ _ HX2.out, HO7.out.up fun i hi _ => ?_, HB7.out.setCell (p := ⟨w.heap.size + 2, 0, none⟩) (by simp only; omega) _⟩
        · exact (Below.heap_setCell _ ⟨w.heap.size + 2, 0, none⟩ _ _ (by simp only; omega)).trans HX1.out
        · exact Below.heap_setCell _ ⟨w.heap.size + 2, 0, none⟩ _ _ (by simp only; omega)
      case measure => simp [intOf]; omega
    · have HT : Hid (f.nodes.take ps.length = f.nodes) := Lib.hid (List.take_of_length_le (by omega))
      have r0 : wr.cell? ⟨w.heap.size + 1, 0, none⟩ = some (.slice none 0 0) := cell_blk hb1 0
      have r1 : wr.cell? ⟨w.heap.size + 1, 1, none⟩ = some (.int .i64 0) := cell_blk hb1 1
      have rf := frozen_blk hb1
      have HBr := Lib.hid hB
      clear hB hb1 hb2
      go_wp2
      refine bodyPost_ret (v := .agg #[.slice on ps.length cn, .int .i64 f.room]) (by simp [results, Tryz.results52, go_sem, r0, r1]) rfl ?_
      refine ⟨_, ps, rfl, by rw [HPS.out, HT.out], ((HO.out.up fun i hi _ => ?_).low (by omega)), (HBr.out.setCell (p := ⟨w.heap.size + 1, 0, none⟩) (by simp only; omega) _).setCell (p := ⟨w.heap.size + 1, 1, none⟩) (by simp only; omega) _⟩
      rw [Below.heap_setCell _ ⟨w.heap.size + 1, 1, none⟩ _ _ (by simp only; omega), Below.heap_setCell _ ⟨w.heap.size + 1, 0, none⟩ _ _ (by simp only; omega)]

/-- A node's cells in a row of nodes. -/
theorem row_at {w : World} {R g cap : Nat} {ps : List (Nod × Value)} (h : w.ownsRow R 91 7 (.slice (some ⟨g, 0, none⟩) ps.length cap) ps.length (nodsV ps)) {i : Nat} (hi : i < ps.length) :
    R ≤ g ∧ g < w.heap.size ∧ ps.length ≤ cap ∧ cap ≤ maxLen ∧ NodC w g (i * 7) ps[i].2 ps[i].1 ∧ ∀ j, w.frozen? ⟨g, j, none⟩ = false := by
  obtain ⟨hl, hd⟩ := h
  rcases hd with ⟨e, h0⟩ | ⟨g1, cap1, cur, e, hB, hg, hn, hm, hs, ht⟩
  · omega
  · simp only [Value.slice.injEq, Option.some.injEq, Addr.mk.injEq, and_true, true_and] at e
    obtain ⟨rfl, rfl⟩ := e
    have hc : ∀ j, j < 7 → w.cell? ⟨g, i * 7 + j, none⟩ = (nodV ps[i])[j]? := by
      intro j hj
      have h1 : cur.toList[i * 7 + j]? = (nodsV ps)[i * 7 + j]? := by
        rw [← ht, List.getElem?_take, if_pos (by omega)]
      have h2 : (nodsV ps)[i * 7 + j]? = (nodV ps[i])[j]? := by
        unfold nodsV
        rw [flat_get (nodV_len ps) (by simpa using hi) hj]
        simp
      simp only [World.cell?, hg]
      rw [← h2, ← h1]
      simp
    refine ⟨hB, (Array.getElem?_eq_some_iff.1 hg).1, hn, hm, ⟨?_, ?_, ?_, ?_, ?_, ?_, ?_⟩, frozen_blk hg⟩
    · have := hc 0 (by decide); simpa [nodV] using this
    · have := hc 1 (by decide); simpa [nodV] using this
    · have := hc 2 (by decide); simpa [nodV] using this
    · have := hc 3 (by decide); simpa [nodV] using this
    · have := hc 4 (by decide); simpa [nodV] using this
    · have := hc 5 (by decide); simpa [nodV] using this
    · have := hc 6 (by decide); simpa [nodV] using this
theorem nodsV_put {ps : List (Nod × Value)} {i : Nat} (hi : i < ps.length) (u : Value) : (nodsV ps).set (i * 7 + 6) u = nodsV (ps.set i (ps[i].1, u)) := by
  unfold nodsV
  rw [flat_set (nodV_len ps) (by simpa using hi) (by decide), List.map_set]
  congr 2
  simp only [List.getElem_map]
  rfl
theorem set_mid {α : Type} (a b : List α) (x q : α) : (a ++ x :: b).set a.length q = (a ++ [q]) ++ b := by simp
theorem nodsV_len (ps : List (Nod × Value)) : (nodsV ps).length = ps.length * 7 := by unfold nodsV; rw [flat_len (nodV_len ps)]; simp
theorem nodsV_one (ps : List (Nod × Value)) (h : ∀ p ∈ ps, p.2.oneCell' = true) : ∀ u ∈ nodsV ps, u.oneCell' = true := by
  intro u hu
  unfold nodsV at hu
  obtain ⟨r, hr, hu⟩ := List.mem_flatten.1 hu
  obtain ⟨e, he, rfl⟩ := List.mem_map.1 hr
  unfold nodV at hu
  simp only [List.mem_cons, List.not_mem_nil, or_false] at hu
  rcases hu with rfl | rfl | rfl | rfl | rfl | rfl | rfl
  · rfl
  · rfl
  · rfl
  · rfl
  · rfl
  · rfl
  · exact h e he
theorem al2_1 (w : World) (a b : Obj) : ((w.alloc a).alloc b).heap[w.heap.size + 1]? = some b := by
  have h := heap_alloc_new (w.alloc a) b
  rw [World.size_alloc] at h
  exact h
theorem al2_0 (w : World) (a b : Obj) : ((w.alloc a).alloc b).heap[w.heap.size]? = some a := by
  rw [Below.heap_alloc (w.alloc a) b w.heap.size (by simp)]; exact heap_alloc_new w a

set_option maxHeartbeats 4000000 in
theorem copyFs_any (f : FsD) (v : Value) (w : World) (hR : FsA w v f) (hs : szF f ≤ 1048576) : Calls Tryz.prog 101 #[v] w fun e w' => ∃ nv ps, e = .returned (.agg #[nv, .int .i64 f.room]) ∧ ps.map Prod.fst = f.nodes ∧ Own w' w.heap.size nv ps ∧ Below w.heap.size w w' := by
  obtain ⟨i8, hi8, hy0, hy1, hy2⟩ := info_parts nodInfo
  obtain ⟨i9, hi9, hz0, hz1, hz2⟩ := info_parts entInfo
  obtain ⟨nv0, rfl, hN⟩ := hR
  have HL2 := Lib.hid (lists_small hs)
  have hl : f.nodes.length ≤ 1048576 := HL2.out.1
  obtain ⟨o, c, ps0, rfl, hm, hps, hsrc, hent⟩ := nodsA_src hN
  have HENT := Lib.hid hent
  have HPS := Lib.hid hps
  have hlp : ps0.length = f.nodes.length := by rw [← hps]; simp
  rw [← hlp] at hl hsrc ⊢
  have hba : Below w.heap.size w ((w.alloc (.cells #[.slice o ps0.length c, .int .i64 f.room] 34)).alloc (.cells #[.slice none 0 0, .int .i64 0] 34)) := ((Below.refl _ _).alloc (Nat.le_refl _) _).alloc (by simp) _
  have HBA := Lib.hid hba
  have HSRC := Lib.hid (hsrc.below hba)
  have HONE : Hid (∀ p ∈ ps0, p.2.oneCell' = true) := Lib.hid (fun p hp => by
    obtain ⟨o9, c9, e9, -, -⟩ := hent p hp
    rw [e9]; rfl)
  clear hs hm hps hsrc hent hlp hN hba
  go_enter Tryz.func101, Tryz.ntmps101
  go_wp2_with (at_builtin; go_loud (refine wpList_append_src _ rfl _ _ 32 rfl (w.heap.size + 2) 91 i8 (.agg #[.int .i64 0, .int .i64 0, .int .i64 0, .int .i64 0, .int .i64 0, .string ⟨#[]⟩, .slice none 0 0]) 7 80 Tryz.underlying32 hi8 hy0 hy1 hy2 rfl (by decide) _ _ _ rfl (World.ownsRow_nil _ _ _ _) o ps0.length c (nodsV ps0) rfl (nodsV_len _) HSRC.out (nodsV_one _ HONE.out) (by unfold maxLen; omega) (by omega) (by simp) ?_))
  intro v1 w1 hown1 hgrow1 _
  obtain ⟨oo1, cap1, rfl, hoo1⟩ := owns_form hown1
  have HB1 : Hid (Below w.heap.size w w1) := Lib.hid (HBA.out.grown hgrow1 HBA.out.size (fun b eb => by simp [Value.ownBlock] at eb))
  have HX0 : Hid (w1.heap[w.heap.size]? = some (.cells #[.slice o ps0.length c, .int .i64 f.room] 34)) := Lib.hid ((hgrow1.block _ (by simp; omega) (by simp [Value.ownBlock])).trans (al2_0 _ _ _))
  have HX1 : Hid (w1.heap[w.heap.size + 1]? = some (.cells #[.slice none 0 0, .int .i64 0] 34)) := Lib.hid ((hgrow1.block _ (by simp) (by simp [Value.ownBlock])).trans (al2_1 _ _ _))
  have HOWN1 := Lib.hid hown1
  have hs1 : w.heap.size + 2 ≤ w1.heap.size := by have h9 := hgrow1.size; simp at h9; omega
  clear hown1 hgrow1 hoo1
  go_wp2
  go_loopw [10] (fun i wr => ∃ (k : Nat) (qs : List (Nod × Value)), k ≤ ps0.length ∧ i = .int .i64 k ∧ qs.length = k ∧ qs.map Prod.fst = (ps0.take k).map Prod.fst ∧ wr.ownsRow (w.heap.size + 2) 91 7 (.slice oo1 ps0.length cap1) ps0.length (nodsV (qs ++ ps0.drop k)) ∧ (∀ p ∈ qs, Ents wr (w.heap.size + 2) p.2 p.1.list) ∧ Dist qs ∧ wr.heap[w.heap.size]? = some (.cells #[.slice o ps0.length c, .int .i64 f.room] 34) ∧ wr.heap[w.heap.size + 1]? = some (.cells #[.slice none 0 0, .int .i64 0] 34) ∧ Below w.heap.size w wr) (fun i _ => ps0.length - (intOf i).toNat)
  case atStart => exact ⟨0, [], Nat.zero_le _, rfl, rfl, rfl, HOWN1.out, fun p hp => (by cases hp), fun i j hi => absurd hi (by simp), HX0.out, HX1.out, HB1.out⟩
  case round =>
    obtain ⟨kz, qs, hk, rfl, hql, hqm, hrow, hE, hD, hb0, hb1, hB⟩ := hrel
    subst hql
    have HROW := Lib.hid hrow
    have HE := Lib.hid hE
    have HQM := Lib.hid hqm
    have HD := Lib.hid hD
    have HB := Lib.hid hB
    have HX0r := Lib.hid hb0
    have HX1r := Lib.hid hb1
    have hsz := hB.size
    have hsx := lt_of_heap hb1
    by_cases hlt : qs.length < ps0.length
    · obtain ⟨g1, rfl⟩ : ∃ g1, oo1 = some ⟨g1, 0, none⟩ := by
        rcases hrow.2 with ⟨e, h0⟩ | ⟨g, cap9, cur9, e, -⟩
        · omega
        · simp only [Value.slice.injEq] at e
          exact ⟨g, e.1⟩
      have hlen : (qs ++ ps0.drop qs.length).length = ps0.length := by simp; omega
      have hrow2 : wr.ownsRow (w.heap.size + 2) 91 7 (.slice (some ⟨g1, 0, none⟩) (qs ++ ps0.drop qs.length).length cap1) (qs ++ ps0.drop qs.length).length (nodsV (qs ++ ps0.drop qs.length)) := by rw [hlen]; exact hrow
      obtain ⟨hRg, hgl, -, hcm, hNC, hfr⟩ := row_at hrow2 (i := qs.length) (by omega)
      have hel : (qs ++ ps0.drop qs.length)[qs.length]'(by omega) = ps0[qs.length] := by simp
      rw [hel] at hNC
      have hdr : ps0.drop qs.length = ps0[qs.length] :: ps0.drop (qs.length + 1) := List.drop_eq_getElem_cons hlt
      have htk : ps0.take (qs.length + 1) = ps0.take qs.length ++ [ps0[qs.length]] := List.take_succ_eq_append_getElem hlt
      have hEA := (HENT.out _ (List.getElem_mem hlt)).below hB
      have hqlen : ps0[qs.length].1.list.length ≤ 1048576 := (HL2.out.2 _ (by rw [← HPS.out]; exact List.mem_map_of_mem (List.getElem_mem hlt))).1
      obtain ⟨⟨q, lv⟩, hp⟩ : ∃ p, p = ps0[qs.length] := ⟨_, rfl⟩
      rw [← hp] at hNC hdr htk hEA hqlen
      simp only at hEA hqlen
      obtain ⟨o2, c2, rfl, hsrc2⟩ := entsA_src hEA
      have HSRC2 := Lib.hid hsrc2
      have HDR := Lib.hid hdr
      have HTK := Lib.hid htk
      have d6 := hNC.c6
      simp only at d6
      unfold maxLen at hcm
      clear hrow hE hqm hD hb0 hb1 hrow2 hel hEA hp hsrc2 hNC hlen hdr htk
      go_wp2_with (at_builtin; go_loud (refine wpList_append_src _ rfl _ _ 89 rfl wr.heap.size 125 i9 (.agg #[.string ⟨#[]⟩, .int .i64 0]) 2 24 Tryz.underlying89 hi9 hz0 hz1 hz2 rfl (by decide) _ _ _ rfl (World.ownsRow_nil _ _ _ _) o2 q.list.length c2 (entsV q.list) rfl (entsV_len _) HSRC2.out (entsV_one _) (by unfold maxLen; omega) (by omega) (Nat.le_refl _) ?_))
      intro v5 w5 hown5 hgrow5 _
      obtain ⟨oo5, cap5, rfl, hoo5⟩ := owns_form hown5
      have HOWN5 := Lib.hid hown5
      have HLT5 : Hid (∀ b, oo5 = some b → wr.heap.size ≤ b.block) := Lib.hid (fun b eb => by
        obtain ⟨g5, rfl, h1, h2⟩ := hoo5 b eb
        exact h1)
      have hb5 : Below wr.heap.size wr w5 := (Below.refl _ _).grown hgrow5 (Nat.le_refl _) (fun b eb => by simp [Value.ownBlock] at eb)
      have HB5 := Lib.hid hb5
      have HROW5 : Hid (w5.ownsRow (w.heap.size + 2) 91 7 (.slice (some ⟨g1, 0, none⟩) ps0.length cap1) ps0.length (nodsV (qs ++ (q, .slice o2 q.list.length c2) :: ps0.drop (qs.length + 1)))) := Lib.hid (by
        rw [← HDR.out]
        exact World.ownsRow.kept HROW.out hgrow5 (.inr (by simp [Value.ownBlock])))
      have c6 : w5.cell? ⟨g1, qs.length * 7 + 6, none⟩ = some (.slice o2 q.list.length c2) := (hb5.cell (p := ⟨g1, qs.length * 7 + 6, none⟩) hgl).trans d6
      have cf : ∀ j, w5.frozen? ⟨g1, j, none⟩ = false := fun j => by rw [World.frozen?_of_block (a := ⟨g1, j, none⟩) (hb5.block g1 hgl)]; exact hfr j
      clear hown5 hgrow5 hoo5 hb5 d6 hfr
      go_wp2
      go_roundw
      case rel =>
        obtain ⟨hst, hgr⟩ := HROW5.out.stored (qs.length * 7 + 6) (.slice oo5 q.list.length cap5)
        rw [nodsV_put (by simp)] at hst
        have hel2 : (qs ++ (q, Value.slice o2 q.list.length c2) :: ps0.drop (qs.length + 1))[qs.length]'(by simp) = (q, Value.slice o2 q.list.length c2) := by simp
        rw [hel2, set_mid] at hst
        have hg1b : w.heap.size + 2 ≤ g1 := hRg
        have hne : ∀ {lv : Value} {es : List Ent} {S : Nat}, w5.ownsRow S 125 2 lv es.length (entsV es) → (w5.setCell ⟨g1, qs.length * 7 + 6, none⟩ (.slice oo5 q.list.length cap5)).ownsRow S 125 2 lv es.length (entsV es) := fun k => World.ownsRow.kept k hgr (ents_ne HROW5.out k rfl)
        refine ⟨qs.length + 1, qs ++ [(q, .slice oo5 q.list.length cap5)], hlt, by go_num, by simp, by rw [HTK.out, List.map_append, List.map_append, HQM.out]; rfl, hst, fun p hp => ?_, ?_, ?_, ?_, ?_⟩
        · rcases List.mem_append.1 hp with hp | hp
          · exact hne (World.ownsRow.kept (HE.out p hp) (row := none) ⟨HB5.out.os, HB5.out.tape, HB5.out.output, HB5.out.size, fun i hi _ => HB5.out.block i hi⟩ (by
              rcases (HE.out p hp).2 with ⟨e, _⟩ | ⟨g9, c9, cur9, e, _⟩
              · rw [e]; exact .inl rfl
              · rw [e]; exact .inr (by simp [Value.ownBlock])))
          · rw [List.mem_singleton.1 hp]
            have h8 := hne HOWN5.out
            rcases h8 with ⟨hl9, h0 | ⟨g9, cap9, cur9, e9, hB9, r9⟩⟩
            · exact ⟨hl9, .inl h0⟩
            · exact ⟨hl9, .inr ⟨g9, cap9, cur9, e9, by omega, r9⟩⟩
        · refine dist_new (n := wr.heap.size) HD.out (fun p hp b hb => (World.ownsRow.lt (HE.out p hp) b hb).2) (fun b hb => ?_)
          cases oo5 with
          | none => simp [Value.ownBlock] at hb
          | some a9 =>
            have := HLT5.out a9 rfl
            simp [Value.ownBlock] at hb
            omega
        · rw [Below.heap_setCell _ ⟨g1, qs.length * 7 + 6, none⟩ _ _ (by simp only; omega)]; exact (HB5.out.block _ (by omega)).trans HX0r.out
        · rw [Below.heap_setCell _ ⟨g1, qs.length * 7 + 6, none⟩ _ _ (by simp only; omega)]; exact (HB5.out.block _ (by omega)).trans HX1r.out
        · exact (HB.out.trans (HB5.out.mono HB.out.size)).setCell (p := ⟨g1, qs.length * 7 + 6, none⟩) (by simp only; omega) _
      case measure => simp [intOf]; omega
    · have hle : ps0.length ≤ qs.length := by omega
      have HO : Hid (Own wr (w.heap.size + 2) (.slice oo1 ps0.length cap1) qs) := Lib.hid (by
        rw [List.drop_of_length_le hle, List.append_nil] at hrow
        have he : ps0.length = qs.length := by omega
        refine ⟨?_, hE, hD⟩
        rw [← he]; exact hrow)
      have HT : Hid (qs.map Prod.fst = f.nodes) := Lib.hid (by rw [hqm, List.take_of_length_le hle]; exact HPS.out)
      have k1 : wr.cell? ⟨w.heap.size, 1, none⟩ = some (.int .i64 f.room) := cell_blk hb0 1
      have r0 : wr.cell? ⟨w.heap.size + 1, 0, none⟩ = some (.slice none 0 0) := cell_blk hb1 0
      have r1 : wr.cell? ⟨w.heap.size + 1, 1, none⟩ = some (.int .i64 0) := cell_blk hb1 1
      have rf := frozen_blk hb1
      clear hB hb0 hb1 hrow hE hqm hD
      go_wp2
      refine bodyPost_ret (v := .agg #[.slice oo1 ps0.length cap1, .int .i64 f.room]) (by simp [results, Tryz.results101, go_sem, r0, r1]) rfl ?_
      refine ⟨_, qs, rfl, HT.out, ((HO.out.up fun i hi _ => ?_).low (by omega)), (HB.out.setCell (p := ⟨w.heap.size + 1, 0, none⟩) (by simp only; omega) _).setCell (p := ⟨w.heap.size + 1, 1, none⟩) (by simp only; omega) _⟩
      rw [Below.heap_setCell _ ⟨w.heap.size + 1, 1, none⟩ _ _ (by simp only; omega), Below.heap_setCell _ ⟨w.heap.size + 1, 0, none⟩ _ _ (by simp only; omega)]
end Go.Proofs.YtpkmkpeabfmbiaaGreatDoor


/-
  The model's l3Entries: a directory's list is in order, its names and nodes are good.
  Conditions: at most 2^20 values and letters together.
-/
namespace Go.Proofs.YtpkmkpeabfmbiaaGreatDoor
open Go.ChangeShapes Go.WideShapes Go.ChangeAt Go.RowKit Go.Joins
set_option linter.unusedVariables false

def kindAt (ns : List Nod) (i : Int) : Int := (ns.getD i.toNat ⟨0, 0, 0, 0, 0, [], []⟩).kind
def entOk (ns : List Nod) (es : List Ent) (k : Nat) : Bool :=
  nameB (es.getD k ⟨[], 0⟩).name && (k == 0 || Op.bytesLess (es.getD (k - 1) ⟨[], 0⟩).name (es.getD k ⟨[], 0⟩).name) && inB 1 ((ns.length : Int) - 1) (es.getD k ⟨[], 0⟩).node && !(kindAt ns (es.getD k ⟨[], 0⟩).node == 0)
def entsOk (ns : List Nod) (es : List Ent) : Bool := (List.range es.length).all (entOk ns es)

theorem bsl (l : List UInt8) : (bs l).toList = l := by rw [ByteArray.toList_eq]; simp [bs]
theorem entsOk_no {ns : List Nod} {es : List Ent} {k : Nat} (hk : k < es.length) (h : entOk ns es k = false) : entsOk ns es = false := by
  unfold entsOk
  rw [List.all_eq_false]
  exact ⟨k, List.mem_range.2 hk, by rw [h]; simp⟩
theorem entsOk_yes {ns : List Nod} {es : List Ent} (h : ∀ k, k < es.length → entOk ns es k = true) : entsOk ns es = true := by
  unfold entsOk
  rw [List.all_eq_true]
  exact fun k hk => h k (List.mem_range.1 hk)

theorem l1In_is {n lo hi : Int} {b : Bool} (h : inB lo hi n = b) (w : World) : Calls Tryz.prog 60 #[.int .i64 n, .int .i64 lo, .int .i64 hi] w fun e w' => e = .returned (.bool b) ∧ Below w.heap.size w w' :=
  (l1In_any n lo hi w).mono fun e w' ⟨h1, h2⟩ => ⟨by rw [h1, h], by rw [← h2]; exact Below.refl _ _⟩
theorem l2Name_is {l : List UInt8} {b : Bool} (h : nameB l = b) (hl : l.length ≤ maxLen) (s : ByteArray) (hs : s = bs l) (w : World) : Calls Tryz.prog 133 #[.string s] w fun e w' => e = .returned (.bool b) ∧ Below w.heap.size w w' :=
  (l2Name_any s w (by rw [hs, bs_size]; exact hl)).mono fun e w' ⟨h1, h2⟩ => ⟨by rw [h1, hs, ← h]; simp [bs], by rw [← h2]; exact Below.refl _ _⟩

set_option maxHeartbeats 4000000 in
theorem l3Entries_any (f : FsD) (es : List Ent) (v lv : Value) (w : World) (hR : FsA w v f) (hE0 : EntsA w lv es) (hs : f.nodes.length ≤ 1048576) (hs2 : es.length ≤ 1048576) : Calls Tryz.prog 132 #[v, lv] w fun e w' => e = .returned (.bool (entsOk f.nodes es)) ∧ Below w.heap.size w w' := by
  obtain ⟨nv, rfl, hN⟩ := hR
  obtain ⟨o, c, rfl, hm, hH⟩ := hN
  have HH := Lib.hid hH
  obtain ⟨o2, c2, rfl, -, hE⟩ := hE0
  have HE := Lib.hid hE
  clear hH hE
  unfold maxLen at hm
  have hbw : Below w.heap.size w (w.alloc (.cells #[.slice o f.nodes.length c, .int .i64 f.room] 34)) := (Below.refl _ _).alloc (Nat.le_refl _) _
  have hk0 := heap_alloc_new w (.cells #[.slice o f.nodes.length c, .int .i64 f.room] 34)
  go_enter Tryz.func132, Tryz.ntmps132
  go_wp2
  go_loopw [9] (fun i wr => ∃ k : Nat, k ≤ es.length ∧ i = .int .i64 k ∧ Below w.heap.size w wr ∧ wr.heap[w.heap.size]? = some (.cells #[.slice o f.nodes.length c, .int .i64 f.room] 34) ∧ ∀ j, j < k → entOk f.nodes es j = true) (fun i _ => es.length - (intOf i).toNat)
  case atStart => exact ⟨0, Nat.zero_le _, rfl, hbw, hk0, fun j h => absurd h (Nat.not_lt_zero _)⟩
  case round =>
    obtain ⟨k, hk, rfl, hB, hb, hj⟩ := hrel
    have HJ := Lib.hid hj
    clear hj hbw hk0
    by_cases hlt : k < es.length
    · obtain ⟨g2, f2, rfl, q2, x2, y2, hn⟩ := HE.out k hlt
      have HK : Hid (es.getD k ⟨[], 0⟩ = es[k]) := Lib.hid (by simp [List.getD, hlt])
      have a1 := (hB.cell (p := ⟨g2, f2 + k * 2, none⟩) q2).trans x2
      have a2 := (hB.cell (p := ⟨g2, f2 + k * 2 + 1, none⟩) q2).trans y2
      obtain ⟨z, hzz⟩ : ∃ z, z = es[k] := ⟨_, rfl⟩
      rw [← hzz] at a1 a2 HK hn
      obtain ⟨y, hyy⟩ : ∃ y, y = bs z.name := ⟨_, rfl⟩
      have HY := Lib.hid hyy
      rw [← hyy] at a1
      obtain ⟨r, hr⟩ : ∃ r, r = z.node := ⟨_, rfl⟩
      have HR := Lib.hid hr
      rw [← hr] at a2
      have HNL := Lib.hid hn
      have HB1 : Hid (∀ oo, Below w.heap.size w (wr.alloc oo)) := Lib.hid (fun oo => hB.alloc hB.size oo)
      have HW : Hid (∀ oo, (wr.alloc oo).heap[w.heap.size]? = some (.cells #[.slice o f.nodes.length c, .int .i64 f.room] 34)) := Lib.hid (fun oo => (Below.heap_alloc _ _ _ (lt_of_heap hb)).trans hb)
      have e0 := cell_blk (heap_alloc_new wr (.cells #[.string y, .int .i64 r] 125)) 0
      have e1 := cell_blk (heap_alloc_new wr (.cells #[.string y, .int .i64 r] 125)) 1
      have s0 := cell_blk (HW.out (.cells #[.string y, .int .i64 r] 125)) 0
      clear x2 y2 hzz hyy hr hn
      go_wp2
      have HB2 := Lib.hid (HB1.out (.cells #[.string y, .int .i64 r] 125))
      have HW2 := Lib.hid (HW.out (.cells #[.string y, .int .i64 r] 125))
      obtain ⟨W2, hW2⟩ : ∃ W2, wr.alloc (.cells #[.string y, .int .i64 r] 125) = W2 := ⟨_, rfl⟩
      rw [hW2] at e0 e1 s0 HB2 HW2 ⊢
      have e0' := e0.trans rfl
      have e1' := e1.trans rfl
      have s0' := s0.trans rfl
      clear hW2 HW HB1 e0 e1 s0
      have z0 := fun d os => cell_regrown (w := W2) e0' d os
      have z1 := fun d os => cell_regrown (w := W2) e1' d os
      have z2 := fun d os => cell_regrown (w := W2) s0' d os
      by_cases hna : nameB z.name = true
      · have HA := Lib.hid hna
        clear hna
        rcases Nat.eq_zero_or_pos k with rfl | hpos
        · skip
          by_cases hc : inB 1 ((f.nodes.length : Int) - 1) r = true
          · have HC := Lib.hid hc
            obtain ⟨r1, r2⟩ := inB_t hc
            obtain ⟨m, rfl⟩ : ∃ m : Nat, r = m := ⟨r.toNat, by omega⟩
            have hml : m < f.nodes.length := by omega
            obtain ⟨g, off, nl, rfl, hg, hcc, -, -⟩ := HH.out m hml
            have d0 := (HB2.out.cell (p := ⟨g, off + m * 7, none⟩) hg).trans hcc.c0
            obtain ⟨kd, hkd⟩ : ∃ kd, kd = f.nodes[m].kind := ⟨_, rfl⟩
            rw [← hkd] at d0
            have HKD : Hid (kindAt f.nodes (m : Int) = kd) := Lib.hid (by rw [hkd]; simp [kindAt, List.getD, hml])
            have z3 := fun d os => cell_regrown (w := W2) d0 d os
            clear hcc hkd hc
            by_cases hz : kd = 0
            · have HF : Hid (entsOk f.nodes es = false) := Lib.hid (entsOk_no hlt (by unfold entOk; rw [HK.out, HA.out, ← HR.out, HKD.out, hz]; simp))
              subst hz
              refine wp_region_quiet_below (by kernel_rfl) (by kernel_rfl) ?_
              repeat (first | go_big_quiet_step ((first | (go_at_call 133; exact Calls.regrown_of (l2Name_is HA.out HNL.out _ HY.out _)) | (go_at_call 60; exact Calls.regrown_of (l1In_is HC.out _)))) | quiet_step ((first | (go_at_call 133; exact Calls.regrown_of (l2Name_is HA.out HNL.out _ HY.out _)) | (go_at_call 60; exact Calls.regrown_of (l1In_is HC.out _)))))
              refine wpQuiet_nil ?_
              intro w5 hwq
              have hb5 : Below W2.heap.size W2 w5 := by
                obtain ⟨pp, rfl⟩ := hwq
                exact below_regrown _ _ _
              have HB5 := Lib.hid (HB2.out.trans (hb5.mono HB2.out.size))
              have HW5 := Lib.hid ((hb5.block w.heap.size (lt_of_heap HW2.out)).trans HW2.out)
              clear hwq hb5
              go_wp2
              go_ret
              exact ⟨ret_bool HF.out.symm, HB5.out⟩
            · have HO : Hid (entOk f.nodes es (0) = true) := Lib.hid (by unfold entOk; rw [HK.out, HA.out, ← HR.out, HKD.out, HC.out]; simp [hz])
              have HJ2 : Hid (∀ i, i < 0 + 1 → entOk f.nodes es i = true) := Lib.hid (by
                intro i h
                rcases Nat.lt_succ_iff_lt_or_eq.1 h with h1 | rfl
                · exact HJ.out i h1
                · exact HO.out)
              refine wp_region_quiet_below (by kernel_rfl) (by kernel_rfl) ?_
              repeat (first | go_big_quiet_step ((first | (go_at_call 133; exact Calls.regrown_of (l2Name_is HA.out HNL.out _ HY.out _)) | (go_at_call 60; exact Calls.regrown_of (l1In_is HC.out _)))) | quiet_step ((first | (go_at_call 133; exact Calls.regrown_of (l2Name_is HA.out HNL.out _ HY.out _)) | (go_at_call 60; exact Calls.regrown_of (l1In_is HC.out _)))))
              refine wpQuiet_nil ?_
              intro w5 hwq
              have hb5 : Below W2.heap.size W2 w5 := by
                obtain ⟨pp, rfl⟩ := hwq
                exact below_regrown _ _ _
              have HB5 := Lib.hid (HB2.out.trans (hb5.mono HB2.out.size))
              have HW5 := Lib.hid ((hb5.block w.heap.size (lt_of_heap HW2.out)).trans HW2.out)
              clear hwq hb5
              go_wp2
              go_roundw
              case rel => exact ⟨_, hlt, by go_num, HB5.out, HW5.out, HJ2.out⟩
              case measure => simp [intOf]; omega
          · have HC : Hid (inB 1 ((f.nodes.length : Int) - 1) r = false) := Lib.hid (by simpa using hc)
            have HF : Hid (entsOk f.nodes es = false) := Lib.hid (entsOk_no hlt (by unfold entOk; rw [HK.out, HA.out, ← HR.out, HC.out]; simp))
            clear hc
            refine wp_region_quiet_below (by kernel_rfl) (by kernel_rfl) ?_
            repeat (first | go_big_quiet_step ((first | (go_at_call 133; exact Calls.regrown_of (l2Name_is HA.out HNL.out _ HY.out _)) | (go_at_call 60; exact Calls.regrown_of (l1In_is HC.out _)))) | quiet_step ((first | (go_at_call 133; exact Calls.regrown_of (l2Name_is HA.out HNL.out _ HY.out _)) | (go_at_call 60; exact Calls.regrown_of (l1In_is HC.out _)))))
            refine wpQuiet_nil ?_
            intro w5 hwq
            have hb5 : Below W2.heap.size W2 w5 := by
              obtain ⟨pp, rfl⟩ := hwq
              exact below_regrown _ _ _
            have HB5 := Lib.hid (HB2.out.trans (hb5.mono HB2.out.size))
            have HW5 := Lib.hid ((hb5.block w.heap.size (lt_of_heap HW2.out)).trans HW2.out)
            clear hwq hb5
            go_wp2
            go_ret
            exact ⟨ret_bool HF.out.symm, HB5.out⟩
        · obtain ⟨j, rfl⟩ : ∃ j, k = j + 1 := ⟨k - 1, by omega⟩
          obtain ⟨g3, f3, e3, -, x3, -, -⟩ := HE.out j (by omega)
          obtain ⟨rfl, rfl⟩ : g2 = g3 ∧ f2 = f3 := by simpa using e3
          have p0 := (HB2.out.cell (p := ⟨g2, f2 + j * 2, none⟩) q2).trans x3
          obtain ⟨x, hx⟩ : ∃ x, x = bs es[j].name := ⟨_, rfl⟩
          rw [← hx] at p0
          have z4 := fun d os => cell_regrown (w := W2) p0 d os
          have HLT : Hid (Op.bytesLess (es.getD (j + 1 - 1) ⟨[], 0⟩).name z.name = Op.bytesLess x.toList y.toList) := Lib.hid (by
            have h1 : es.getD (j + 1 - 1) ⟨[], 0⟩ = es[j] := by simp [List.getD, show j < es.length by omega]
            rw [h1, hx, HY.out, bsl, bsl])
          clear x3 hx e3
          by_cases hl : Op.bytesLess x.toList y.toList = true
          · have HL : Hid (Op.bytesLess (es.getD (j + 1 - 1) ⟨[], 0⟩).name z.name = true) := Lib.hid (HLT.out.trans hl)
            by_cases hc : inB 1 ((f.nodes.length : Int) - 1) r = true
            · have HC := Lib.hid hc
              obtain ⟨r1, r2⟩ := inB_t hc
              obtain ⟨m, rfl⟩ : ∃ m : Nat, r = m := ⟨r.toNat, by omega⟩
              have hml : m < f.nodes.length := by omega
              obtain ⟨g, off, nl, rfl, hg, hcc, -, -⟩ := HH.out m hml
              have d0 := (HB2.out.cell (p := ⟨g, off + m * 7, none⟩) hg).trans hcc.c0
              obtain ⟨kd, hkd⟩ : ∃ kd, kd = f.nodes[m].kind := ⟨_, rfl⟩
              rw [← hkd] at d0
              have HKD : Hid (kindAt f.nodes (m : Int) = kd) := Lib.hid (by rw [hkd]; simp [kindAt, List.getD, hml])
              have z3 := fun d os => cell_regrown (w := W2) d0 d os
              clear hcc hkd hc
              by_cases hz : kd = 0
              · have HF : Hid (entsOk f.nodes es = false) := Lib.hid (entsOk_no hlt (by unfold entOk; rw [HK.out, HA.out, ← HR.out, HL.out, HKD.out, hz]; simp))
                subst hz
                refine wp_region_quiet_below (by kernel_rfl) (by kernel_rfl) ?_
                repeat (first | go_big_quiet_step ((first | (go_at_call 133; exact Calls.regrown_of (l2Name_is HA.out HNL.out _ HY.out _)) | (go_at_call 60; exact Calls.regrown_of (l1In_is HC.out _)))) | quiet_step ((first | (go_at_call 133; exact Calls.regrown_of (l2Name_is HA.out HNL.out _ HY.out _)) | (go_at_call 60; exact Calls.regrown_of (l1In_is HC.out _)))))
                refine wpQuiet_nil ?_
                intro w5 hwq
                have hb5 : Below W2.heap.size W2 w5 := by
                  obtain ⟨pp, rfl⟩ := hwq
                  exact below_regrown _ _ _
                have HB5 := Lib.hid (HB2.out.trans (hb5.mono HB2.out.size))
                have HW5 := Lib.hid ((hb5.block w.heap.size (lt_of_heap HW2.out)).trans HW2.out)
                clear hwq hb5
                go_wp2
                go_ret
                exact ⟨ret_bool HF.out.symm, HB5.out⟩
              · have HO : Hid (entOk f.nodes es (j + 1) = true) := Lib.hid (by unfold entOk; rw [HK.out, HA.out, ← HR.out, HL.out, HKD.out, HC.out]; simp [hz])
                have HJ2 : Hid (∀ i, i < j + 1 + 1 → entOk f.nodes es i = true) := Lib.hid (by
                  intro i h
                  rcases Nat.lt_succ_iff_lt_or_eq.1 h with h1 | rfl
                  · exact HJ.out i h1
                  · exact HO.out)
                refine wp_region_quiet_below (by kernel_rfl) (by kernel_rfl) ?_
                repeat (first | go_big_quiet_step ((first | (go_at_call 133; exact Calls.regrown_of (l2Name_is HA.out HNL.out _ HY.out _)) | (go_at_call 60; exact Calls.regrown_of (l1In_is HC.out _)))) | quiet_step ((first | (go_at_call 133; exact Calls.regrown_of (l2Name_is HA.out HNL.out _ HY.out _)) | (go_at_call 60; exact Calls.regrown_of (l1In_is HC.out _)))))
                refine wpQuiet_nil ?_
                intro w5 hwq
                have hb5 : Below W2.heap.size W2 w5 := by
                  obtain ⟨pp, rfl⟩ := hwq
                  exact below_regrown _ _ _
                have HB5 := Lib.hid (HB2.out.trans (hb5.mono HB2.out.size))
                have HW5 := Lib.hid ((hb5.block w.heap.size (lt_of_heap HW2.out)).trans HW2.out)
                clear hwq hb5
                go_wp2
                go_roundw
                case rel => exact ⟨_, hlt, by go_num, HB5.out, HW5.out, HJ2.out⟩
                case measure => simp [intOf]; omega
            · have HC : Hid (inB 1 ((f.nodes.length : Int) - 1) r = false) := Lib.hid (by simpa using hc)
              have HF : Hid (entsOk f.nodes es = false) := Lib.hid (entsOk_no hlt (by unfold entOk; rw [HK.out, HA.out, ← HR.out, HL.out, HC.out]; simp))
              clear hc
              refine wp_region_quiet_below (by kernel_rfl) (by kernel_rfl) ?_
              repeat (first | go_big_quiet_step ((first | (go_at_call 133; exact Calls.regrown_of (l2Name_is HA.out HNL.out _ HY.out _)) | (go_at_call 60; exact Calls.regrown_of (l1In_is HC.out _)))) | quiet_step ((first | (go_at_call 133; exact Calls.regrown_of (l2Name_is HA.out HNL.out _ HY.out _)) | (go_at_call 60; exact Calls.regrown_of (l1In_is HC.out _)))))
              refine wpQuiet_nil ?_
              intro w5 hwq
              have hb5 : Below W2.heap.size W2 w5 := by
                obtain ⟨pp, rfl⟩ := hwq
                exact below_regrown _ _ _
              have HB5 := Lib.hid (HB2.out.trans (hb5.mono HB2.out.size))
              have HW5 := Lib.hid ((hb5.block w.heap.size (lt_of_heap HW2.out)).trans HW2.out)
              clear hwq hb5
              go_wp2
              go_ret
              exact ⟨ret_bool HF.out.symm, HB5.out⟩
          · have hl2 : Op.bytesLess x.toList y.toList = false := by simpa using hl
            have HF : Hid (entsOk f.nodes es = false) := Lib.hid (entsOk_no hlt (by unfold entOk; rw [HK.out, HLT.out, hl2]; simp))
            clear hl
            refine wp_region_quiet_below (by kernel_rfl) (by kernel_rfl) ?_
            repeat (first | go_big_quiet_step ((go_at_call 133; exact Calls.regrown_of (l2Name_is HA.out HNL.out _ HY.out _))) | quiet_step ((go_at_call 133; exact Calls.regrown_of (l2Name_is HA.out HNL.out _ HY.out _))))
            refine wpQuiet_nil ?_
            intro w5 hwq
            have hb5 : Below W2.heap.size W2 w5 := by
              obtain ⟨pp, rfl⟩ := hwq
              exact below_regrown _ _ _
            have HB5 := Lib.hid (HB2.out.trans (hb5.mono HB2.out.size))
            have HW5 := Lib.hid ((hb5.block w.heap.size (lt_of_heap HW2.out)).trans HW2.out)
            clear hwq hb5
            go_wp2
            go_ret
            exact ⟨ret_bool HF.out.symm, HB5.out⟩
      · have HA : Hid (nameB z.name = false) := Lib.hid (by simpa using hna)
        have HF : Hid (entsOk f.nodes es = false) := Lib.hid (entsOk_no hlt (by unfold entOk; rw [HK.out, HA.out]; simp))
        clear hna
        refine wp_region_quiet_below (by kernel_rfl) (by kernel_rfl) ?_
        repeat (first | go_big_quiet_step ((go_at_call 133; exact Calls.regrown_of (l2Name_is HA.out HNL.out _ HY.out _))) | quiet_step ((go_at_call 133; exact Calls.regrown_of (l2Name_is HA.out HNL.out _ HY.out _))))
        refine wpQuiet_nil ?_
        intro w5 hwq
        have hb5 : Below W2.heap.size W2 w5 := by
          obtain ⟨pp, rfl⟩ := hwq
          exact below_regrown _ _ _
        have HB5 := Lib.hid (HB2.out.trans (hb5.mono HB2.out.size))
        have HW5 := Lib.hid ((hb5.block w.heap.size (lt_of_heap HW2.out)).trans HW2.out)
        clear hwq hb5
        go_wp2
        go_ret
        exact ⟨ret_bool HF.out.symm, HB5.out⟩
    · go_wp2
      go_ret
      exact ⟨ret_bool (entsOk_yes fun j h => HJ.out j (by omega)).symm, hB⟩
end Go.Proofs.YtpkmkpeabfmbiaaGreatDoor


/-
  Contracts of spec.l2Parts, spec.l2Path, spec.GoodPath.
  Conditions: a text of at most 2^30 bytes.
-/
namespace Go.Proofs.YtpkmkpeabfmbiaaGreatDoor
open Go.ChangeShapes Go.WideShapes Go.ChangeAt Go.RowKit Go.Joins
set_option linter.unusedVariables false

theorem full_take_yes {qs : List (List UInt8)} {k : Nat} (h : k < qs.length) (hn : qs[k] ≠ []) : full (qs.take (k + 1)) = full (qs.take k) ++ [qs[k]] := by
  rw [List.take_succ_eq_append_getElem h, full_app]; simp [full, hn]
theorem full_take_no {qs : List (List UInt8)} {k : Nat} (h : k < qs.length) (hn : qs[k] = []) : full (qs.take (k + 1)) = full (qs.take k) := by
  rw [List.take_succ_eq_append_getElem h, full_app]; simp [full, hn]
theorem full_le (qs : List (List UInt8)) : (full qs).length ≤ qs.length := List.length_filter_le _ _
theorem text_ne {p : List UInt8} (h : p ≠ []) : ((bs p).toList.isEmpty) = false ∧ (!(bs p).toList.isEmpty) = true ∧ (bs p).toList ≠ [] := by
  rw [ByteArray.toList_eq, bs_list]
  refine ⟨?_, ?_, h⟩ <;> cases p <;> simp_all
theorem split_len (l : List UInt8) : ((sp l).1 ++ [(sp l).2]).length ≤ l.length + 1 := by have := sp_one_le l; simp; omega

set_option maxHeartbeats 1000000 in
theorem l2Parts_any (s : ByteArray) (w : World) (hs : s.size ≤ 1073741824) : Calls Tryz.prog 76 #[.string s] w fun e w' => ∃ v, e = .returned v ∧ Lst w' w.heap.size v (parts s.data.toList) ∧ Below w.heap.size w w' := by
  obtain ⟨i0, hi, hz0, hz1, hz2⟩ := info_parts strInfo
  have hql := split_len s.data.toList
  rw [len_size] at hql
  have HQ : Hid (parts s.data.toList = full ((sp s.data.toList).1 ++ [(sp s.data.toList).2])) := Lib.hid rfl
  go_enter Tryz.func76, Tryz.ntmps76
  go_wp2_with fail
  refine (l1Split_any s _ hs).mono ?_
  rintro e w1 ⟨v, rfl, hL, hb1⟩
  obtain ⟨qs, hqs⟩ : ∃ qs, qs = (sp s.data.toList).1 ++ [(sp s.data.toList).2] := ⟨_, rfl⟩
  rw [← hqs] at hL hql
  have HQ2 := Lib.hid (HQ.out.trans (congrArg full hqs.symm))
  clear hqs HQ
  obtain ⟨o, c, rfl, hlc, hcm, hH⟩ := hL.read
  have HH := Lib.hid hH
  clear hH hL
  unfold maxLen at hcm
  go_wp2
  go_loopw [3, 9] (fun out i wr => ∃ k : Nat, k ≤ qs.length ∧ i = .int .i64 k ∧ Lst wr w1.heap.size out (full (qs.take k)) ∧ Below w1.heap.size w1 wr) (fun _ i _ => qs.length - (intOf i).toNat)
  case atStart => exact ⟨0, Nat.zero_le _, rfl, Lst.nil _ _, Below.refl _ _⟩
  case round =>
    obtain ⟨k, hk, rfl, hL, hB⟩ := hrel
    have hfl : (full (qs.take k)).length ≤ k := Nat.le_trans (full_le _) (List.length_take_le _ _)
    by_cases hlt : k < qs.length
    · obtain ⟨g, off, rfl, hg, hc⟩ := HH.out k hlt
      have hcell : wr.cell? ⟨g, off + k, none⟩ = some (.string (bs qs[k])) := (hB.cell (p := ⟨g, off + k, none⟩) hg).trans hc
      clear hc
      by_cases hp : qs[k] = []
      · have HF := Lib.hid (full_take_no hlt hp)
        rw [hp] at hcell
        clear hp
        have hcell' : wr.cell? ⟨g, off + k, none⟩ = some (.string ⟨#[]⟩) := hcell
        clear hcell
        go_wp2
        go_roundw
        case rel => exact ⟨k + 1, hlt, by go_num, by rw [HF.out]; exact hL, hB⟩
        case measure => simp [intOf]; omega
      · have HF := Lib.hid (full_take_yes hlt hp)
        obtain ⟨hp1, hp2, hp3⟩ := text_ne hp
        obtain ⟨x, hx⟩ : ∃ x, x = bs qs[k] := ⟨_, rfl⟩
        rw [← hx] at hcell hp1 hp2 hp3
        have HX := Lib.hid hx
        clear hx hp
        go_wp2_with (at_builtin; refine wpList_append_own _ rfl _ _ 116 rfl w1.heap.size 9 i0 (.string ⟨#[]⟩) 1 16 Tryz.underlying116 hi hz0 hz1 hz2 rfl (by decide) _ _ _ rfl (hL.alloc _) ⟨wr.heap.size, 0, none⟩ 1 1 [.string x] rfl rfl (cell_one_new _ _ _) (by simp [Value.oneCell']) (by unfold maxLen; omega) (by omega) (by have := hB.size; simp; omega) ?_)
        intro v' w2 hown' hgrow _
        have hb2 := below_app hB hB.size hL hgrow
        have HL := Lib.hid (Lst.snoc HX.out hown')
        clear hown' hgrow hL
        go_wp2
        go_roundw
        case rel => exact ⟨k + 1, hlt, by go_num, by rw [HF.out]; exact HL.out, hb2⟩
        case measure => simp [intOf]; omega
    · have HF : Hid (full (qs.take k) = parts s.data.toList) := Lib.hid (by rw [HQ2.out, List.take_of_length_le (by omega)])
      go_wp2
      go_ret
      refine ⟨_, rfl, ?_, hb1.trans (hB.mono hb1.size)⟩
      rw [HF.out] at hL
      exact lst_mono hL hb1.size

theorem snoc_ind {P : List UInt8 → Prop} (h0 : P []) (hs : ∀ l c, P l → P (l ++ [c])) (l : List UInt8) : P l := by
  have : ∀ m : List UInt8, P m.reverse := by
    intro m
    induction m with
    | nil => exact h0
    | cons c m ih => rw [List.reverse_cons]; exact hs _ _ ih
  simpa using this l.reverse
theorem sp_pieces (l : List UInt8) : (∀ p ∈ (sp l).1, p.length ≤ l.length) ∧ (sp l).2.length ≤ l.length := by
  induction l using snoc_ind with
  | h0 => simp [sp]
  | hs l c ih =>
    rw [sp_snoc, spStep]
    split
    · refine ⟨fun p hp => ?_, by simp⟩
      rcases List.mem_append.1 hp with h | h
      · have := ih.1 p h; simp; omega
      · simp at h; subst h; have := ih.2; simp; omega
    · refine ⟨fun p hp => by have := ih.1 p hp; simp; omega, by have := ih.2; simp; omega⟩
theorem part_le {l p : List UInt8} (h : p ∈ parts l) : p.length ≤ l.length := by
  unfold parts full at h
  have h1 := (List.mem_filter.1 h).1
  rcases List.mem_append.1 h1 with h2 | h2
  · exact (sp_pieces l).1 p h2
  · simp at h2; subst h2; exact (sp_pieces l).2
theorem name_part {p : List UInt8} (h : nameB p = true) : partB p = true := by simp [nameB] at h; exact h.1
theorem part_else {p : List UInt8} (hn : nameB p = false) (h1 : p ≠ [46]) (h2 : p ≠ [46, 46]) : partB p = false := by
  simpa [nameB, h1, h2] using hn
theorem text_neq {p q : List UInt8} (h : p ≠ q) : ((bs p).toList == q) = false := by
  rw [ByteArray.toList_eq, bs_list]; simpa using h
theorem parts_le (l : List UInt8) : (parts l).length ≤ l.length + 1 := Nat.le_trans (full_le _) (split_len l)

set_option maxHeartbeats 1000000 in
theorem l2Path_any (s : ByteArray) (w : World) (hs : s.size ≤ 1073741824) : Calls Tryz.prog 108 #[.string s] w fun e w' => e = .returned (.bool (goodB s.data.toList)) ∧ Below w.heap.size w w' := by
  have hpl := parts_le s.data.toList
  rw [len_size] at hpl
  have HP : Hid (∀ p ∈ parts s.data.toList, p.length ≤ s.size) := Lib.hid (fun p hp => by have := part_le hp; rwa [len_size] at this)
  have HG : Hid (goodB s.data.toList = (inB 1 60 s.size && (parts s.data.toList).all partB)) := Lib.hid (by
    have : decide (1 ≤ s.data.toList.length ∧ s.data.toList.length ≤ 60) = inB 1 60 s.size := by
      rw [len_size, Bool.eq_iff_iff]; simp [inB]; omega
    rw [goodB, this])
  go_enter Tryz.func108, Tryz.ntmps108
  go_wp2_with fail
  refine (l2Parts_any s _ hs).mono ?_
  rintro e w1 ⟨v, rfl, hL, hb1⟩
  obtain ⟨ps, hps⟩ : ∃ ps, ps = parts s.data.toList := ⟨_, rfl⟩
  rw [← hps] at hL hpl
  have HP2 : Hid (∀ p ∈ ps, p.length ≤ s.size) := Lib.hid (by rw [hps]; exact HP.out)
  have HG2 : Hid (goodB s.data.toList = (inB 1 60 s.size && ps.all partB)) := Lib.hid (by rw [hps]; exact HG.out)
  clear hps HP HG
  obtain ⟨o, c, rfl, hlc, hcm, hH⟩ := hL.read
  have HH := Lib.hid hH
  clear hH hL
  unfold maxLen at hcm
  go_wp2
  go_loop [8] (fun i => ∃ k : Nat, k ≤ ps.length ∧ i = .int .i64 k ∧ (ps.take k).all partB = true) (fun i => ps.length - (intOf i).toNat)
  case atStart => exact ⟨0, Nat.zero_le _, rfl, rfl⟩
  case round =>
    obtain ⟨k, hk, rfl, hA⟩ := hrel
    have HA := Lib.hid hA
    clear hA
    by_cases hlt : k < ps.length
    · obtain ⟨g, off, rfl, hg, hcell⟩ := HH.out k hlt
      have hsz : (bs ps[k]).size ≤ maxLen := by
        rw [bs_size]; have := HP2.out _ (List.getElem_mem hlt); unfold maxLen; omega
      have HT : Hid ((ps.take (k + 1)).all partB = partB ps[k]) := Lib.hid (by rw [List.take_succ_eq_append_getElem hlt, List.all_append, HA.out]; simp)
      have HBad : partB ps[k] = false → ps.all partB = false := fun h => by
        rw [List.all_eq_false]; exact ⟨_, List.getElem_mem hlt, by simp [h]⟩
      have HBd := Lib.hid HBad
      clear HBad
      by_cases hn : nameB ps[k] = true
      · have HN : Hid (nameB (bs ps[k]).data.toList = true) := Lib.hid (by rw [bs_list]; exact hn)
        have HPt := Lib.hid (name_part hn)
        clear hn
        go_wp2_with (go_at_call 133; refine (l2Name_any _ _ hsz).mono ?_; rintro e w' ⟨rfl, rfl⟩; rw [HN.out])
        go_round
        case rel => exact ⟨k + 1, hlt, by go_num, by rw [HT.out, HPt.out]⟩
        case measure => simp [intOf]; omega
      · have hn' : nameB ps[k] = false := by simpa using hn
        by_cases h1 : ps[k] = [46]
        · have HPt : Hid (partB ps[k] = true) := Lib.hid (by rw [h1]; decide)
          rw [h1] at hcell
          have hcell' : w1.cell? ⟨g, off + k, none⟩ = some (.string ⟨#[46]⟩) := hcell
          have HN : Hid (nameB (ByteArray.mk #[46]).data.toList = false) := Lib.hid (by decide)
          clear hcell hn hn' h1 hsz
          go_wp2_with (go_at_call 133; refine (l2Name_any _ _ (by decide)).mono ?_; rintro e w' ⟨rfl, rfl⟩; rw [HN.out])
          go_round
          case rel => exact ⟨k + 1, hlt, by go_num, by rw [HT.out, HPt.out]⟩
          case measure => simp [intOf]; omega
        · by_cases h2 : ps[k] = [46, 46]
          · have HPt : Hid (partB ps[k] = true) := Lib.hid (by rw [h2]; decide)
            rw [h2] at hcell
            have hcell' : w1.cell? ⟨g, off + k, none⟩ = some (.string ⟨#[46, 46]⟩) := hcell
            have HN : Hid (nameB (ByteArray.mk #[46, 46]).data.toList = false) := Lib.hid (by decide)
            clear hcell hn hn' h1 h2 hsz
            go_wp2_with (go_at_call 133; refine (l2Name_any _ _ (by decide)).mono ?_; rintro e w' ⟨rfl, rfl⟩; rw [HN.out])
            go_round
            case rel => exact ⟨k + 1, hlt, by go_num, by rw [HT.out, HPt.out]⟩
            case measure => simp [intOf]; omega
          · have HPt := Lib.hid (part_else hn' h1 h2)
            have HN : Hid (nameB (bs ps[k]).data.toList = false) := Lib.hid (by rw [bs_list]; exact hn')
            have t1 := text_neq h1
            have t2 := text_neq h2
            obtain ⟨x, hx⟩ : ∃ x, x = bs ps[k] := ⟨_, rfl⟩
            rw [← hx] at hcell hsz t1 t2 HN
            clear hn hn' h1 h2 hx
            go_wp2_with (go_at_call 133; refine (l2Name_any _ _ hsz).mono ?_; rintro e w' ⟨rfl, rfl⟩; rw [HN.out])
            go_ret
            exact ⟨ret_bool (by rw [HG2.out, HBd.out HPt.out, Bool.and_false]), hb1⟩
    · go_wp2_with (go_at_call 60; refine (l1In_any _ _ _ _).mono ?_; rintro e w' ⟨rfl, rfl⟩)
      go_ret
      refine ⟨ret_bool ?_, hb1⟩
      have := HA.out
      rw [List.take_of_length_le (by omega)] at this
      rw [HG2.out, this, Bool.and_true]

end Go.Proofs.YtpkmkpeabfmbiaaGreatDoor
