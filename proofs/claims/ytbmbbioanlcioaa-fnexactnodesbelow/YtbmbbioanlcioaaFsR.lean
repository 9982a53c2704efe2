
/-
  Contracts of the laws' helpers toFs, eqEntry, eqEntryS, eqNode, eqNodeS, eqFs (at the same data).
  Conditions: as each states.
-/
import Derived.Test.YtbmbbioanlcioaaFsQ
import Derived.BigQuiet
import Derived.Deep.QuietTactic
import Derived.Lib.QuietBelow
namespace Go.Proofs.Ytbmbbioanlcioaa
open Go.ChangeShapes Go.WideShapes Go.ChangeAt Go.RowKit Go.Joins
set_option linter.unusedVariables false

/-- The value is a file system of the call's own. -/
def FsOwn (w : World) (B : Nat) (v : Value) (f : FsD) : Prop := ∃ nv, v = .agg #[nv, .int .i64 f.room] ∧ NodsOwn w B nv f.nodes

theorem NodsOwn.below {w w' : World} {B : Nat} {v : Value} {ns : List Nod} (h : NodsOwn w B v ns) (hb : Below w.heap.size w w') : NodsOwn w' B v ns := by
  obtain ⟨G, c, ps, e, h1, h2, h3, h4, hr, hE⟩ := h
  exact ⟨G, c, ps, e, h1, h2, h3, h4, hr.below hb hr.lt, fun p hp => (hE p hp).below hb⟩
theorem FsOwn.below {w w' : World} {B : Nat} {v : Value} {f : FsD} (h : FsOwn w B v f) (hb : Below w.heap.size w w') : FsOwn w' B v f := by
  obtain ⟨nv, e, h1⟩ := h
  exact ⟨nv, e, h1.below hb⟩

theorem NodsOwn.other {w : World} {B : Nat} {v : Value} {ns : List Nod} (h : NodsOwn w B v ns) {p : Addr} (hp : p.block < B) (u : Value) : NodsOwn (w.setCell p u) B v ns := by
  obtain ⟨G, c, ps, e, h1, h2, h3, h4, hr, hE⟩ := h
  exact ⟨G, c, ps, e, h1, h2, h3, h4, hr.other (by omega) u, fun q hq => (hE q hq).other (by omega) u⟩
theorem NodsOwn.mono {w : World} {A B : Nat} {v : Value} {ns : List Nod} (h : NodsOwn w B v ns) (hAB : A ≤ B) : NodsOwn w A v ns := by
  obtain ⟨G, c, ps, e, h1, h2, h3, rest⟩ := h
  exact ⟨G, c, ps, e, h1, h2, by omega, rest⟩

/-- All texts are texts. -/
def NodsFit (ns : List Nod) : Prop := ∀ n ∈ ns, n.data.length ≤ maxLen ∧ ∀ e ∈ n.list, e.name.length ≤ maxLen
theorem NodsOwn.read {w : World} {B : Nat} {v : Value} {ns : List Nod} (h : NodsOwn w B v ns) (hf : NodsFit ns) : NodsA w v ns := by
  obtain ⟨G, c, ps, rfl, h1, h2, h3, h4, hr, hE⟩ := h
  refine ⟨_, c, rfl, by omega, fun i hi => ?_⟩
  have hlp : ps.length = ns.length := by rw [← h4]; simp
  have hip : i < ps.length := by omega
  have hn : ns[i] = (ps[i]).1 := by
    have : (ps.map Prod.fst)[i]'(by simpa using hip) = ns[i] := by simp [h4]
    rw [← this]; simp
  have hcell : ∀ r, r < 7 → w.cell? ⟨G, 0 + i * 7 + r, none⟩ = some (nodCell ns[i] (ps[i]).2 r) := by
    intro r hr7
    have h5 := hr.cell (j := i * 7 + r) (by omega)
    have e1 : (i * 7 + r) / 7 = i := by omega
    have e2 : (i * 7 + r) % 7 = r := by omega
    rw [Nat.zero_add, h5]
    unfold nodsF
    rw [e1, e2, List.getElem?_eq_getElem hip, Option.getD_some, hn]
  refine ⟨G, 0, (ps[i]).2, rfl, hr.lt, ⟨hcell 0 (by omega), hcell 1 (by omega), hcell 2 (by omega), hcell 3 (by omega), hcell 4 (by omega), hcell 5 (by omega), hcell 6 (by omega)⟩, ?_, (hf _ (List.getElem_mem hi)).1⟩
  have h6 := hE _ (List.getElem_mem hip)
  rw [← hn] at h6
  exact h6.read (hf _ (List.getElem_mem hi)).2
theorem FsOwn.read {w : World} {B : Nat} {v : Value} {f : FsD} (h : FsOwn w B v f) (hf : NodsFit f.nodes) : FsA w v f := by
  obtain ⟨nv, e, h1⟩ := h
  exact ⟨nv, e, h1.read hf⟩
theorem NodsA.fit {w : World} {v : Value} {ns : List Nod} (h : NodsA w v ns) : NodsFit ns := by
  obtain ⟨o, c, rfl, hm, hH⟩ := h
  intro n hn
  obtain ⟨i, hi, rfl⟩ := List.getElem_of_mem hn
  obtain ⟨g, off, lv, _, _, _, he, hd⟩ := hH i hi
  refine ⟨hd, fun e hem => ?_⟩
  obtain ⟨o2, c2, rfl, _, hE⟩ := he
  obtain ⟨j, hj, rfl⟩ := List.getElem_of_mem hem
  obtain ⟨_, _, _, _, _, _, hl⟩ := hE j hj
  exact hl

theorem szN_mem {ns : List Nod} {n : Nod} (h : n ∈ ns) : szN n ≤ szNs ns := by
  induction ns with
  | nil => cases h
  | cons q r ih =>
    have e : szNs (q :: r) = szN q + szNs r := by simp [szNs]
    rcases List.mem_cons.1 h with rfl | h1
    · omega
    · have := ih h1; omega
theorem lists_small {f : FsD} (h : szF f ≤ 1048576) : f.nodes.length ≤ 1048576 ∧ ∀ n ∈ f.nodes, n.list.length ≤ 1048576 ∧ n.data.length ≤ 1048576 ∧ lensE n.list ≤ 1048576 := by
  unfold szF at h
  refine ⟨by omega, fun n hn => ?_⟩
  have := szN_mem hn
  unfold szN at this
  omega

set_option maxHeartbeats 2000000 in
theorem toFs_any (f : FsD) (v : Value) (w : World) (hR : FsA w v f) (hs : szF f ≤ 1048576) : Calls Try.prog 9 #[v] w fun e w' => ∃ u, e = .returned u ∧ FsOwn w' w.heap.size u f ∧ Below w.heap.size w w' := by
  obtain ⟨nv, rfl, hN⟩ := hR
  obtain ⟨o, c, rfl, -, -⟩ := id hN
  have HN := Lib.hid hN
  obtain ⟨s1, s2⟩ := lists_small hs
  have HS2 : Hid (∀ n ∈ f.nodes, n.list.length ≤ 1048576) := Lib.hid (fun n hn => (s2 n hn).1)
  clear hN s2
  go_enter Try.func9, Try.ntmps9
  go_wp2_with fail
  have h1 := heap_alloc_new w (.cells #[.slice o f.nodes.length c, .int .i64 f.room] 24)
  have h2 := heap_alloc_new (w.alloc (.cells #[.slice o f.nodes.length c, .int .i64 f.room] 24)) (.cells #[.slice none 0 0, .int .i64 0] 31)
  have h3 := heap_alloc_new ((w.alloc (.cells #[.slice o f.nodes.length c, .int .i64 f.room] 24)).alloc (.cells #[.slice none 0 0, .int .i64 0] 31)) (.cells #[.slice none 0 0, .int .i64 0] 31)
  have h12 := Below.heap_alloc (w.alloc (.cells #[.slice o f.nodes.length c, .int .i64 f.room] 24)) (.cells #[.slice none 0 0, .int .i64 0] 31) w.heap.size (by simp)
  have h13 := Below.heap_alloc ((w.alloc (.cells #[.slice o f.nodes.length c, .int .i64 f.room] 24)).alloc (.cells #[.slice none 0 0, .int .i64 0] 31)) (.cells #[.slice none 0 0, .int .i64 0] 31) w.heap.size (by simp; omega)
  have h23 := Below.heap_alloc ((w.alloc (.cells #[.slice o f.nodes.length c, .int .i64 f.room] 24)).alloc (.cells #[.slice none 0 0, .int .i64 0] 31)) (.cells #[.slice none 0 0, .int .i64 0] 31) (w.heap.size + 1) (by simp)
  rw [World.size_alloc] at h2
  rw [World.size_alloc, World.size_alloc] at h3
  have hB3 : Below w.heap.size w (((w.alloc (.cells #[.slice o f.nodes.length c, .int .i64 f.room] 24)).alloc (.cells #[.slice none 0 0, .int .i64 0] 31)).alloc (.cells #[.slice none 0 0, .int .i64 0] 31)) := (((Below.refl _ _).alloc (Nat.le_refl _) _).alloc (by simp) _).alloc (by simp; omega) _
  have hs3 : (((w.alloc (.cells #[.slice o f.nodes.length c, .int .i64 f.room] 24)).alloc (.cells #[.slice none 0 0, .int .i64 0] 31)).alloc (.cells #[.slice none 0 0, .int .i64 0] 31)).heap.size = w.heap.size + 1 + 1 + 1 := by simp
  rw [h2] at h23
  rw [h12, h1] at h13
  obtain ⟨W3, hW3⟩ : ∃ W3, ((w.alloc (.cells #[.slice o f.nodes.length c, .int .i64 f.room] 24)).alloc (.cells #[.slice none 0 0, .int .i64 0] 31)).alloc (.cells #[.slice none 0 0, .int .i64 0] 31) = W3 := ⟨_, rfl⟩
  rw [hW3] at h3 h13 h23 hB3 hs3 ⊢
  clear h1 h2 h12 hW3
  refine (toNodeS_any f.nodes _ W3 (HN.out.below hB3) s1 HS2.out).mono ?_
  rintro e w4 ⟨nv', rfl, hO, hb4⟩
  have k1 := (hb4.block w.heap.size (by omega)).trans h13
  have k2 := (hb4.block (w.heap.size + 1) (by omega)).trans h23
  have k3 := (hb4.block (w.heap.size + 1 + 1) (by omega)).trans h3
  have HB4 := Lib.hid (hB3.trans (hb4.mono hB3.size))
  have HO := Lib.hid hO
  obtain ⟨G, cc, ps, rfl, -⟩ := hO
  have a1 := (cell_blk k1 1).trans rfl
  have r0 := (cell_blk k2 0).trans rfl
  have r1 := (cell_blk k2 1).trans rfl
  have o0 := (cell_blk k3 0).trans rfl
  have o1 := (cell_blk k3 1).trans rfl
  have fr := frozen_blk k2
  have fo := frozen_blk k3
  clear h3 h13 h23 hB3 hb4 k1 k2 k3
  go_wp2
  refine bodyPost_ret (v := .agg #[.slice (some ⟨G, 0, none⟩) f.nodes.length cc, .int .i64 f.room]) (by simp [results, Try.results9, go_sem, r0, r1]) rfl ⟨_, rfl, ⟨_, rfl, ?_⟩, ?_⟩
  · have h0 : NodsOwn w4 (w.heap.size + 1 + 1 + 1) (.slice (some ⟨G, 0, none⟩) f.nodes.length cc) f.nodes := by rw [← hs3]; exact HO.out
    refine NodsOwn.mono (B := w.heap.size + 1 + 1 + 1) ?_ (by omega)
    iterate 4 refine NodsOwn.other ?_ (by simp; try omega) _
    exact h0
  · iterate 4 refine Below.setCell ?_ (by first | omega | (simp; done) | (simp; omega)) _
    exact HB4.out

set_option maxHeartbeats 1000000 in
theorem eqEntry_same (x : ByteArray) (k : Int) (w : World) : Calls Try.prog 87 #[.agg #[.string x, .int .i64 k], .agg #[.string x, .int .i64 k]] w fun e w' => e = .returned (.bool true) ∧ Below w.heap.size w w' := by
  go_enter Try.func87, Try.ntmps87
  go_wp2
  go_ret
  exact ⟨rfl, ((Below.refl _ _).alloc (Nat.le_refl _) _).alloc (by simp) _⟩

set_option maxHeartbeats 1000000 in
theorem eqEntryS_same (es : List Ent) (u v : Value) (w : World) (hU : EntsA w u es) (hV : EntsA w v es) : Calls Try.prog 63 #[u, v] w fun e w' => e = .returned (.bool true) ∧ Below w.heap.size w w' := by
  obtain ⟨o1, c1, rfl, hm1, hH1⟩ := hU
  obtain ⟨o2, c2, rfl, hm2, hH2⟩ := hV
  have HH1 := Lib.hid hH1
  have HH2 := Lib.hid hH2
  clear hH1 hH2
  unfold maxLen at hm1 hm2
  go_enter Try.func63, Try.ntmps63
  go_wp2
  go_loopw [5] (fun i wr => ∃ k : Nat, k ≤ es.length ∧ i = .int .i64 k ∧ Below w.heap.size w wr) (fun i _ => es.length - (intOf i).toNat)
  case atStart => exact ⟨0, Nat.zero_le _, rfl, Below.refl _ _⟩
  case round =>
    obtain ⟨k, hk, rfl, hB⟩ := hrel
    by_cases hlt : k < es.length
    · obtain ⟨g1, f1, rfl, q1, x1, y1, _⟩ := HH1.out k hlt
      obtain ⟨g2, f2, rfl, q2, x2, y2, _⟩ := HH2.out k hlt
      obtain ⟨x, hx⟩ : ∃ x, x = bs es[k].name := ⟨_, rfl⟩
      rw [← hx] at x1 x2
      have d1 := (hB.cell (p := ⟨g1, f1 + k * 2, none⟩) q1).trans x1
      have d2 := (hB.cell (p := ⟨g1, f1 + k * 2 + 1, none⟩) q1).trans y1
      have d3 := (hB.cell (p := ⟨g2, f2 + k * 2, none⟩) q2).trans x2
      have d4 := (hB.cell (p := ⟨g2, f2 + k * 2 + 1, none⟩) q2).trans y2
      clear hx x1 x2 y1 y2
      go_wp2
      have z0 := fun d os => cell_regrown (w := wr) d1 d os
      have z1 := fun d os => cell_regrown (w := wr) d2 d os
      have z2 := fun d os => cell_regrown (w := wr) d3 d os
      have z3 := fun d os => cell_regrown (w := wr) d4 d os
      refine wp_region_quiet_below (by kernel_rfl) (by kernel_rfl) ?_
      repeat (first | go_big_quiet_step ((go_at_call 87; exact Calls.regrown_of (eqEntry_same _ _ _))) | quiet_step ((go_at_call 87; exact Calls.regrown_of (eqEntry_same _ _ _))))
      refine wpQuiet_nil ?_
      intro w5 hwq
      have hb5 : Below wr.heap.size wr w5 := by
        obtain ⟨pp, rfl⟩ := hwq
        exact below_regrown _ _ _
      clear hwq z0 z1 z2 z3
      go_wp2
      go_roundw
      case rel => exact ⟨k + 1, hlt, by go_num, hB.trans (hb5.mono hB.size)⟩
      case measure => simp [intOf]; omega
    · go_wp2
      go_ret
      exact ⟨rfl, hB⟩
end Go.Proofs.Ytbmbbioanlcioaa
