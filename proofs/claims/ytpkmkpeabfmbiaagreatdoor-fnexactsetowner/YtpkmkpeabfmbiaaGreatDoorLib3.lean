/-
  Joined: MarkF FsS FsT FsU IterD GoodC.
  Conditions: as each states.
-/
import Derived.Deep.SlicePairs
import Derived.Test.YtpkmkpeabfmbiaaGreatDoorLib1
import Derived.Test.YtpkmkpeabfmbiaaGreatDoorLib2

/-
  Contracts of the laws' helpers markEntryS, markNodeS, markFs on a file system of the call's own: they return a number that is not negative, and write into the file system's own blocks alone.
  Conditions: at most 2^20 values and letters together.
-/
namespace Go.Proofs.YtpkmkpeabfmbiaaGreatDoor
open Go.ChangeShapes Go.WideShapes Go.ChangeAt Go.RowKit Go.Joins
set_option linter.unusedVariables false
set_option linter.unusedSimpArgs false

/-- Block G holds n cells at least, of elements of type T, none frozen. -/
def Shp (w : World) (G n : Nat) (T : TypeId) : Prop := ∃ cs, w.heap[G]? = some (.cells cs T (0, 0)) ∧ n ≤ cs.size
theorem Shp.lt {w : World} {G n : Nat} {T : TypeId} (h : Shp w G n T) : G < w.heap.size := by
  obtain ⟨cs, hg, _⟩ := h
  exact (Array.getElem?_eq_some_iff.1 hg).1
theorem Shp.set {w : World} {G n : Nat} {T : TypeId} (h : Shp w G n T) (H j : Nat) (u : Value) : Shp (w.setCell ⟨H, j, none⟩ u) G n T := by
  obtain ⟨cs, hg, hs⟩ := h
  by_cases e : G = H
  · subst e
    exact ⟨_, heap_setCell_same w G j cs T u hg, by simpa using hs⟩
  · exact ⟨cs, (Below.heap_setCell w ⟨H, j, none⟩ u G e).trans hg, hs⟩
theorem Shp.below {w w' : World} {G n : Nat} {T : TypeId} (h : Shp w G n T) (hb : Below w.heap.size w w') : Shp w' G n T := by
  obtain ⟨cs, hg, hs⟩ := h
  exact ⟨cs, (hb.block G (Array.getElem?_eq_some_iff.1 hg).1).trans hg, hs⟩
theorem Shp.cell {w : World} {G n : Nat} {T : TypeId} (h : Shp w G n T) {j : Nat} (hj : j < n) : ∃ u, w.cell? ⟨G, j, none⟩ = some u := by
  obtain ⟨cs, hg, hs⟩ := h
  exact ⟨cs[j], by simp [World.cell?, hg, show j < cs.size by omega]⟩
theorem Shp.frozen {w : World} {G n : Nat} {T : TypeId} (h : Shp w G n T) (j : Nat) : w.frozen? ⟨G, j, none⟩ = false := by
  obtain ⟨cs, hg, _⟩ := h
  exact frozen_of_row w G j cs T hg
theorem Shp.ne {w : World} {G H n m : Nat} {T U : TypeId} (h : Shp w G n T) (k : Shp w H m U) (hT : T ≠ U) : G ≠ H := by
  rintro rfl
  obtain ⟨cs, hg, _⟩ := h
  obtain ⟨ds, hd, _⟩ := k
  rw [hg] at hd
  cases hd
  exact hT rfl
theorem cell_set_ne {w : World} {G i j : Nat} {u : Value} (h : i ≠ j) : (w.setCell ⟨G, j, none⟩ u).cell? ⟨G, i, none⟩ = w.cell? ⟨G, i, none⟩ :=
  World.cell?_setCell_other _ _ _ _ (fun e => h (by cases e; rfl))
/-- From B on and ahead of E alone something was written; every block keeps its shape. -/
structure Wr (B E : Nat) (w w' : World) : Prop where
  bel : Below B w w'
  up : ∀ i, E ≤ i → i < w.heap.size → w'.heap[i]? = w.heap[i]?
  shp : ∀ G n T, Shp w G n T → Shp w' G n T
theorem Wr.refl (B E : Nat) (w : World) : Wr B E w w := ⟨Below.refl _ _, fun _ _ _ => rfl, fun _ _ _ h => h⟩
theorem Wr.trans {B E : Nat} {a b c : World} (h : Wr B E a b) (k : Wr B E b c) : Wr B E a c := ⟨h.bel.trans k.bel, fun i h1 h2 => (k.up i h1 (Nat.lt_of_lt_of_le h2 h.bel.size)).trans (h.up i h1 h2), fun G n T x => k.shp G n T (h.shp G n T x)⟩
theorem Wr.set {B E : Nat} {a b : World} (h : Wr B E a b) {H : Nat} (hH : B ≤ H) (hE : H < E) (j : Nat) (u : Value) : Wr B E a (b.setCell ⟨H, j, none⟩ u) := ⟨h.bel.setCell (p := ⟨H, j, none⟩) hH u, fun i h1 h2 => (Below.heap_setCell b ⟨H, j, none⟩ u i (by simp only; omega)).trans (h.up i h1 h2), fun G n T x => (h.shp G n T x).set H j u⟩
theorem Wr.below {B E : Nat} {a b c : World} (h : Wr B E a b) (hB : B ≤ b.heap.size) (k : Below b.heap.size b c) : Wr B E a c := ⟨h.bel.trans (k.mono hB), fun i h1 h2 => (k.block i (Nat.lt_of_lt_of_le h2 h.bel.size)).trans (h.up i h1 h2), fun G n T x => (h.shp G n T x).below k⟩

set_option maxHeartbeats 2000000 in
theorem markEntryS_shp (G n c B E k : Nat) (w : World) (hs : Shp w G (n * 2) 125) (hnc : n ≤ c) (hcm : c ≤ maxLen) (hB : B ≤ G) (hGE : G < E) (hBw : B ≤ w.heap.size) (hk : 1 ≤ k) (hkn : k + n * 2 ≤ 90000000) : Calls Tryz.prog 95 #[.slice (some ⟨G, 0, none⟩) n c, .int .i64 (k : Int)] w fun e w' => e = .returned (.int .i64 ((k + n * 2 : Nat) : Int)) ∧ Wr B E w w' ∧ ∀ b, b < w.heap.size → b ≠ G → w'.heap[b]? = w.heap[b]? := by
  have HS := Lib.hid hs
  clear hs
  unfold maxLen at hcm
  go_enter Tryz.func95, Tryz.ntmps95
  go_wp2
  go_loopw [1, 5] (fun t i wr => ∃ j : Nat, j ≤ n ∧ i = .int .i64 j ∧ t = .int .i64 ((k + j * 2 : Nat) : Int) ∧ Wr B E w wr ∧ ∀ b, b < w.heap.size → b ≠ G → wr.heap[b]? = w.heap[b]?) (fun _ i _ => n - (intOf i).toNat)
  case atStart => exact ⟨0, Nat.zero_le _, rfl, by simp, Wr.refl _ _ _, fun _ _ _ => rfl⟩
  case round =>
    obtain ⟨j, hj, rfl, rfl, hW, hO⟩ := hrel
    have HW := Lib.hid hW
    have HO := Lib.hid hO
    have hsz := hW.bel.size
    clear hW hO
    by_cases hlt : j < n
    · go_wp2_with fail
      refine (markText_any (k + j * 2) _ (by omega) (by omega)).mono ?_
      rintro e w1 ⟨rfl, hb1⟩
      have hs1 := (HW.out.shp _ _ _ HS.out).below hb1
      obtain ⟨u0, c0⟩ := hs1.cell (j := j * 2) (by omega)
      have f0 := hs1.frozen
      have HW1 := Lib.hid (HW.out.below (Nat.le_trans hBw HW.out.bel.size) hb1)
      have HO1 : Hid (∀ b, b < w.heap.size → b ≠ G → w1.heap[b]? = w.heap[b]?) := Lib.hid (fun b hb hn => (hb1.block b (by omega)).trans (HO.out b hb hn))
      have hs2 := hs1.set G (j * 2) (.string (mt (k + j * 2)))
      obtain ⟨u1, c1⟩ := hs1.cell (j := j * 2 + 1) (by omega)
      clear hb1 hs1 hs2
      go_wp2
      go_roundw
      case rel =>
        refine ⟨j + 1, hlt, by go_num, by go_num, (HW1.out.set hB hGE _ _).set hB hGE _ _, fun b hb hn => ?_⟩
        rw [Below.heap_setCell _ ⟨G, _, none⟩ _ b hn, Below.heap_setCell _ ⟨G, _, none⟩ _ b hn]
        exact HO1.out b hb hn
      case measure => simp [intOf]; omega
    · obtain rfl : j = n := by omega
      go_wp2
      go_ret
      exact ⟨rfl, HW.out, HO.out⟩
theorem markText_int (z : Int) (w : World) (h0 : 1 ≤ z) (h1 : z ≤ 100000000) : Calls Tryz.prog 48 #[.int .i64 z] w fun e w' => ∃ x, e = .returned (.string x) ∧ Below w.heap.size w w' := by
  obtain ⟨m, rfl⟩ : ∃ m : Nat, z = m := ⟨z.toNat, by omega⟩
  exact (markText_any m w (by omega) (by omega)).mono fun e w' ⟨h, h'⟩ => ⟨_, h, h'⟩
theorem markEntryS_int (G n c B E : Nat) (z : Int) (w : World) (hs : Shp w G (n * 2) 125) (hnc : n ≤ c) (hcm : c ≤ maxLen) (hB : B ≤ G) (hGE : G < E) (hBw : B ≤ w.heap.size) (hk : 1 ≤ z) (hkn : z + n * 2 ≤ 90000000) : Calls Tryz.prog 95 #[.slice (some ⟨G, 0, none⟩) n c, .int .i64 z] w fun e w' => e = .returned (.int .i64 (z + n * 2)) ∧ Wr B E w w' ∧ ∀ b, b < w.heap.size → b ≠ G → w'.heap[b]? = w.heap[b]? := by
  obtain ⟨m, rfl⟩ : ∃ m : Nat, z = m := ⟨z.toNat, by omega⟩
  exact (markEntryS_shp G n c B E m w hs hnc hcm hB hGE hBw (by omega) (by omega)).mono fun e w' ⟨h, h'⟩ => ⟨by rw [h]; rfl, h'⟩
/-- A list's value whose cells lie in a block from B on. -/
def LShp (w : World) (B E : Nat) (lv : Value) (m : Nat) : Prop := ∃ H c, lv = .slice (some ⟨H, 0, none⟩) m c ∧ m ≤ c ∧ c ≤ maxLen ∧ (B ≤ H ∧ H < E) ∧ Shp w H (m * 2) 125
def cntM (ms : List Nat) : Nat := (ms.map fun m => 6 + m * 2).sum
theorem cntM_take {ms : List Nat} {k : Nat} (h : k < ms.length) : cntM (ms.take (k + 1)) = cntM (ms.take k) + (6 + ms[k] * 2) := by
  unfold cntM; rw [List.take_succ_eq_append_getElem h]; simp only [List.map_append, List.sum_append, List.map_cons, List.map_nil, List.sum_cons, List.sum_nil, Nat.add_zero]
theorem cntM_pre (ms : List Nat) (k : Nat) : cntM (ms.take k) ≤ cntM ms := by
  conv => rhs; rw [← List.take_append_drop k ms]
  unfold cntM; rw [List.map_append, List.sum_append]; omega

set_option maxHeartbeats 4000000 in
theorem markNodeS_shp (G c B E : Nat) (ms : List Nat) (w : World) (hs : Shp w G (ms.length * 7) 91) (hL : ∀ i (h : i < ms.length), ∃ lv, w.cell? ⟨G, i * 7 + 6, none⟩ = some lv ∧ LShp w B E lv ms[i]) (hnc : ms.length ≤ c) (hcm : c ≤ maxLen) (hB : B ≤ G) (hGE : G < E) (hBw : B ≤ w.heap.size) (hkn : cntM ms ≤ 80000000) : Calls Tryz.prog 47 #[.slice (some ⟨G, 0, none⟩) ms.length c, .int .i64 1] w fun e w' => e = .returned (.int .i64 (1 + (cntM ms : Int))) ∧ Wr B E w w' := by
  have HS := Lib.hid hs
  have HL := Lib.hid hL
  clear hL hs
  unfold maxLen at hcm
  go_enter Tryz.func47, Tryz.ntmps47
  go_wp2
  go_loopw [1, 5] (fun t i wr => ∃ j : Nat, j ≤ ms.length ∧ i = .int .i64 j ∧ t = .int .i64 (1 + (cntM (ms.take j) : Int)) ∧ Wr B E w wr ∧ ∀ i (h : i < ms.length), wr.cell? ⟨G, i * 7 + 6, none⟩ = w.cell? ⟨G, i * 7 + 6, none⟩) (fun _ i _ => ms.length - (intOf i).toNat)
  case atStart => exact ⟨0, Nat.zero_le _, rfl, by simp [cntM], Wr.refl _ _ _, fun _ _ => rfl⟩
  case round =>
    obtain ⟨j, hj, rfl, rfl, hW, hC⟩ := hrel
    have HW := Lib.hid hW
    have HC := Lib.hid hC
    have hsz := hW.bel.size
    clear hW hC
    by_cases hlt : j < ms.length
    · obtain ⟨lv, hlv, H, c9, rfl, hm9, hc9, hB9, hS9⟩ := HL.out j hlt
      have HT := Lib.hid (cntM_take hlt)
      have hpre := cntM_pre ms (j + 1)
      rw [HT.out] at hpre
      have hsr := HW.out.shp _ _ _ HS.out
      obtain ⟨u0, c0⟩ := hsr.cell (j := j * 7) (by omega)
      obtain ⟨u1, c1⟩ := hsr.cell (j := j * 7 + 1) (by omega)
      obtain ⟨u2, c2⟩ := hsr.cell (j := j * 7 + 2) (by omega)
      obtain ⟨u3, c3⟩ := hsr.cell (j := j * 7 + 3) (by omega)
      obtain ⟨u4, c4⟩ := hsr.cell (j := j * 7 + 4) (by omega)
      have cf := hsr.frozen
      have hne9 : H ≠ G := fun e => (Shp.ne HS.out hS9 (by decide)) e.symm
      have HSR := Lib.hid hsr
      have HS9 := Lib.hid hS9
      have HLV := Lib.hid hlv
      obtain ⟨x0, hx0⟩ : ∃ x0 : Int, x0 = 1 + (cntM (ms.take j) : Int) := ⟨_, rfl⟩
      have HX0 := Lib.hid hx0
      have hx1 : 1 ≤ x0 := by omega
      have hx2 : x0 + 6 + ms[j] * 2 ≤ 80000001 := by rw [hx0]; omega
      rw [← hx0]
      clear hsr hS9 hlv hx0
      go_wp2_with fail
      refine (markText_int _ _ (by omega) (by omega)).mono ?_
      rintro e w1 ⟨x, rfl, hb1⟩
      have hs1 := (((((HSR.out.set G _ _).set G _ _).set G _ _).set G _ _).set G _ _).below hb1
      have hW1 := (((((HW.out.set hB hGE _ _).set hB hGE _ _).set hB hGE _ _).set hB hGE _ _).set hB hGE _ _).below (by simp; omega) hb1
      have hC1 : ∀ i (h : i < ms.length), w1.cell? ⟨G, i * 7 + 6, none⟩ = w.cell? ⟨G, i * 7 + 6, none⟩ := fun i h => by
        have h9 := hb1.cell (p := ⟨G, i * 7 + 6, none⟩) (by simpa using HSR.out.lt)
        rw [h9, cell_set_ne (by omega), cell_set_ne (by omega), cell_set_ne (by omega), cell_set_ne (by omega), cell_set_ne (by omega)]
        exact HC.out i h
      obtain ⟨u5, c5⟩ := hs1.cell (j := j * 7 + 5) (by omega)
      have cf1 := hs1.frozen
      have c6 : w1.cell? ⟨G, j * 7 + 6, none⟩ = some (.slice (some ⟨H, 0, none⟩) ms[j] c9) := (hC1 j hlt).trans HLV.out
      have HW2 : Hid (Wr B E w (w1.setCell ⟨G, j * 7 + 5, none⟩ (.string x))) := Lib.hid (hW1.set hB hGE _ _)
      have HC2 : Hid (∀ i (h : i < ms.length), (w1.setCell ⟨G, j * 7 + 5, none⟩ (.string x)).cell? ⟨G, i * 7 + 6, none⟩ = w.cell? ⟨G, i * 7 + 6, none⟩) := Lib.hid (fun i h => by rw [cell_set_ne (by omega)]; exact hC1 i h)
      have HGl : Hid (G < (w1.setCell ⟨G, j * 7 + 5, none⟩ (.string x)).heap.size) := Lib.hid (by simpa using hs1.lt)
      clear hs1 hW1 hC1 hb1 c0 c1 c2 c3 c4 cf
      go_wp2_with fail
      refine (markEntryS_int H ms[j] c9 B E _ _ (HW2.out.shp _ _ _ HS9.out) hm9 hc9 hB9.1 hB9.2 (Nat.le_trans hBw HW2.out.bel.size) (by omega) (by omega)).mono ?_
      rintro e w3 ⟨rfl, hW3, hO3⟩
      have HW3 := Lib.hid (HW2.out.trans hW3)
      have HC3 : Hid (∀ i (h : i < ms.length), w3.cell? ⟨G, i * 7 + 6, none⟩ = w.cell? ⟨G, i * 7 + 6, none⟩) := Lib.hid (fun i h => by
        rw [← HC2.out i h]
        have h9 := hO3 G HGl.out (fun e => hne9 e.symm)
        unfold World.cell?
        rw [h9])
      clear hW3 hO3
      go_wp2
      go_roundw
      case rel => exact ⟨j + 1, hlt, by go_num, by rw [HT.out, HX0.out]; congr 1; push_cast; omega, HW3.out, HC3.out⟩
      case measure => simp [intOf]; omega
    · obtain rfl : j = ms.length := by omega
      have HT : Hid (ms.take ms.length = ms) := Lib.hid (List.take_of_length_le (Nat.le_refl _))
      go_wp2
      go_ret
      exact ⟨ret_int (by rw [HT.out]), HW.out⟩

theorem RowAt.shp {w : World} {G n : Nat} {T : TypeId} {F : Nat → Value} (h : RowAt w G n T F) : Shp w G n T := by
  obtain ⟨cur, hg, hs, _⟩ := h
  exact ⟨cur, hg, hs⟩
theorem cnt_le (ns : List Nod) : cntM (ns.map fun n => n.list.length) ≤ 6 * ns.length + 2 * szNs ns := by
  unfold cntM szNs szN
  induction ns with
  | nil => simp
  | cons a r ih => simp only [List.map_cons, List.sum_cons, List.length_cons] at ih ⊢; omega
set_option maxRecDepth 100000 in
set_option maxHeartbeats 2000000 in
theorem markFs_own (f : FsD) (v : Value) (B : Nat) (w0 w : World) (hO : FsOwn w0 B v f) (hb0 : Below w0.heap.size w0 w) (hB0 : B ≤ w0.heap.size) (hs : szF f ≤ 1048576) : Calls Tryz.prog 17 #[v, .int .i64 1] w fun e w' => ∃ k : Int, 0 ≤ k ∧ k ≤ 100000000 ∧ e = .returned (.int .i64 k) ∧ Below B w w' ∧ ∀ i, w0.heap.size ≤ i → i < w.heap.size → w'.heap[i]? = w.heap[i]? := by
  have hBw : B ≤ w.heap.size := Nat.le_trans hB0 hb0.size
  obtain ⟨E, hEE⟩ : ∃ E, E = w0.heap.size := ⟨_, rfl⟩
  obtain ⟨nv, rfl, G, c, ps, rfl, hlc, hcm, hBG, hps, hr, hE⟩ := hO
  have hlp : ps.length = f.nodes.length := by rw [← hps]; simp
  have hml : (f.nodes.map fun n => n.list.length).length = f.nodes.length := by simp
  have hcnt : cntM (f.nodes.map fun n => n.list.length) ≤ 80000000 := by
    have h1 := cnt_le f.nodes
    unfold szF at hs
    omega
  have HSH := Lib.hid (hr.shp.below hb0)
  have hGE : G < E := by rw [hEE]; exact hr.lt
  have HLS : Hid (∀ i (h : i < (f.nodes.map fun n => n.list.length).length), ∃ lv, w.cell? ⟨G, i * 7 + 6, none⟩ = some lv ∧ LShp w B E lv (f.nodes.map fun n => n.list.length)[i]) := Lib.hid (fun i hi => by
    rw [hml] at hi
    have hip : i < ps.length := by omega
    have hn : (ps[i]).1 = f.nodes[i] := by
      have : (ps.map Prod.fst)[i]'(by simpa using hip) = f.nodes[i] := by simp [hps]
      rw [← this]; simp
    have hcell := hr.cell (j := i * 7 + 6) (by omega)
    have e1 : (i * 7 + 6) / 7 = i := by omega
    have e2 : (i * 7 + 6) % 7 = 6 := by omega
    refine ⟨(ps[i]).2, ?_, ?_⟩
    · rw [hb0.cell (p := ⟨G, i * 7 + 6, none⟩) hr.lt, hcell]
      unfold nodsF
      rw [e1, e2, List.getElem?_eq_getElem hip]
      rfl
    · obtain ⟨H, c9, e9, h1, h2, h3, hrr⟩ := hE _ (List.getElem_mem hip)
      rw [hn] at e9 h1 hrr
      simp only [List.getElem_map]
      exact ⟨H, c9, e9, h1, h2, ⟨by omega, by rw [hEE]; exact hrr.lt⟩, hrr.shp.below hb0⟩)
  have HWA : Hid (∀ o, Wr B E w (w.alloc o)) := Lib.hid (fun o => (Wr.refl B E w).below hBw ((Below.refl _ _).alloc (Nat.le_refl _) o))
  have HCA : Hid (∀ o i, (w.alloc o).cell? ⟨G, i, none⟩ = w.cell? ⟨G, i, none⟩) := Lib.hid (fun o i => ((Below.refl _ w).alloc (Nat.le_refl _) o).cell (p := ⟨G, i, none⟩) (Nat.lt_of_lt_of_le hr.lt hb0.size))
  obtain ⟨ms, hms⟩ : ∃ ms, ms = f.nodes.map fun n => n.list.length := ⟨_, rfl⟩
  rw [← hms] at HLS hcnt hml
  have hsh : Shp w G (ms.length * 7) 91 := by rw [hml]; exact HSH.out
  have HSM := Lib.hid hsh
  rw [← hml] at hlc ⊢
  clear hr hE hps hlp hms hsh hml
  go_enter Tryz.func17, Tryz.ntmps17
  go_wp2_with fail
  refine (markNodeS_shp G c B E ms _ ((HWA.out _).shp _ _ _ HSM.out) (fun i h => by
    obtain ⟨lv, h1, H, c9, e9, h2, h3, h4, h5⟩ := HLS.out i h
    exact ⟨lv, (HCA.out _ _).trans h1, H, c9, e9, h2, h3, h4, (HWA.out _).shp _ _ _ h5⟩) hlc hcm hBG hGE (Nat.le_trans hBw (HWA.out _).bel.size) hcnt).mono ?_
  rintro e w1 ⟨rfl, hW1⟩
  have HB1 := Lib.hid (((HWA.out _).trans hW1).bel)
  have HU1 : Hid (∀ i, w0.heap.size ≤ i → i < w.heap.size → w1.heap[i]? = w.heap[i]?) := Lib.hid (by rw [← hEE]; exact ((HWA.out _).trans hW1).up)
  clear hW1
  go_wp2
  go_ret
  exact ⟨_, by omega, by omega, rfl, HB1.out, HU1.out⟩
end Go.Proofs.YtpkmkpeabfmbiaaGreatDoor


/-
  Contracts of the laws' helpers eqNode, eqNodeS, eqFs on two that read the same.
  Conditions: both read as the same data.
-/
namespace Go.Proofs.YtpkmkpeabfmbiaaGreatDoor
open Go.ChangeShapes Go.WideShapes Go.ChangeAt Go.RowKit Go.Joins
set_option linter.unusedVariables false

set_option maxHeartbeats 1000000 in
theorem eqNode_same (k m u gi t : Int) (x : ByteArray) (es : List Ent) (l1 l2 : Value) (w : World) (hU : EntsA w l1 es) (hV : EntsA w l2 es) :
    Calls Tryz.prog 94 #[.agg #[.int .i64 k, .int .i64 m, .int .i64 u, .int .i64 gi, .int .i64 t, .string x, l1], .agg #[.int .i64 k, .int .i64 m, .int .i64 u, .int .i64 gi, .int .i64 t, .string x, l2]] w fun e w' => e = .returned (.bool true) ∧ Below w.heap.size w w' := by
  obtain ⟨o1, c1, rfl, _, _⟩ := id hU
  obtain ⟨o2, c2, rfl, _, _⟩ := id hV
  have HU := Lib.hid hU
  have HV := Lib.hid hV
  clear hU hV
  have HB : Hid (Below w.heap.size w ((w.alloc (.cells #[.int .i64 k, .int .i64 m, .int .i64 u, .int .i64 gi, .int .i64 t, .string x, .slice o1 es.length c1] 91)).alloc (.cells #[.int .i64 k, .int .i64 m, .int .i64 u, .int .i64 gi, .int .i64 t, .string x, .slice o2 es.length c2] 91))) := Lib.hid (((Below.refl _ _).alloc (Nat.le_refl _) _).alloc (by simp) _)
  go_enter Tryz.func94, Tryz.ntmps94
  go_wp2_with fail
  refine (eqEntryS_same es _ _ _ (HU.out.below HB.out) (HV.out.below HB.out)).mono ?_
  rintro e w1 ⟨rfl, hb1⟩
  go_wp2
  go_ret
  exact ⟨rfl, HB.out.trans (hb1.mono HB.out.size)⟩

set_option maxHeartbeats 2000000 in
theorem eqNodeS_same (ns : List Nod) (u v : Value) (w : World) (hU : NodsA w u ns) (hV : NodsA w v ns) : Calls Tryz.prog 46 #[u, v] w fun e w' => e = .returned (.bool true) ∧ Below w.heap.size w w' := by
  obtain ⟨o1, c1, rfl, hm1, hH1⟩ := hU
  obtain ⟨o2, c2, rfl, hm2, hH2⟩ := hV
  have HH1 := Lib.hid hH1
  have HH2 := Lib.hid hH2
  clear hH1 hH2
  unfold maxLen at hm1 hm2
  go_enter Tryz.func46, Tryz.ntmps46
  go_wp2
  go_loopw [5] (fun i wr => ∃ k : Nat, k ≤ ns.length ∧ i = .int .i64 k ∧ Below w.heap.size w wr) (fun i _ => ns.length - (intOf i).toNat)
  case atStart => exact ⟨0, Nat.zero_le _, rfl, Below.refl _ _⟩
  case round =>
    obtain ⟨k, hk, rfl, hB⟩ := hrel
    by_cases hlt : k < ns.length
    · obtain ⟨g1, f1, l1, rfl, q1, n1, e1, _⟩ := HH1.out k hlt
      obtain ⟨g2, f2, l2, rfl, q2, n2, e2, _⟩ := HH2.out k hlt
      obtain ⟨a0, a1, a2, a3, a4, a5, a6⟩ := n1.below hB q1
      obtain ⟨b0, b1, b2, b3, b4, b5, b6⟩ := n2.below hB q2
      obtain ⟨q, hqq⟩ : ∃ q, q = ns[k] := ⟨_, rfl⟩
      rw [← hqq] at a0 a1 a2 a3 a4 a5 e1 b0 b1 b2 b3 b4 b5 e2
      obtain ⟨x, hx⟩ : ∃ x, x = bs q.data := ⟨_, rfl⟩
      rw [← hx] at a5 b5
      have he1 := e1.below hB
      have he2 := e2.below hB
      have HE1 := Lib.hid he1
      have HE2 := Lib.hid he2
      obtain ⟨p1, d1, rfl, _, _⟩ := id he1
      obtain ⟨p2, d2, rfl, _, _⟩ := id he2
      clear n1 n2 e1 e2 he1 he2 hqq hx
      go_wp2
      have y0 := fun d os => cell_regrown (w := wr) a0 d os
      have y1 := fun d os => cell_regrown (w := wr) a1 d os
      have y2 := fun d os => cell_regrown (w := wr) a2 d os
      have y3 := fun d os => cell_regrown (w := wr) a3 d os
      have y4 := fun d os => cell_regrown (w := wr) a4 d os
      have y5 := fun d os => cell_regrown (w := wr) a5 d os
      have y6 := fun d os => cell_regrown (w := wr) a6 d os
      have z0 := fun d os => cell_regrown (w := wr) b0 d os
      have z1 := fun d os => cell_regrown (w := wr) b1 d os
      have z2 := fun d os => cell_regrown (w := wr) b2 d os
      have z3 := fun d os => cell_regrown (w := wr) b3 d os
      have z4 := fun d os => cell_regrown (w := wr) b4 d os
      have z5 := fun d os => cell_regrown (w := wr) b5 d os
      have z6 := fun d os => cell_regrown (w := wr) b6 d os
      refine wp_region_quiet_below (by kernel_rfl) (by kernel_rfl) ?_
      repeat (first | go_big_quiet_step ((go_at_call 94; exact Calls.regrown_of (eqNode_same _ _ _ _ _ _ _ _ _ _ (HE1.out.below (below_regrown _ _ _)) (HE2.out.below (below_regrown _ _ _))))) | quiet_step ((go_at_call 94; exact Calls.regrown_of (eqNode_same _ _ _ _ _ _ _ _ _ _ (HE1.out.below (below_regrown _ _ _)) (HE2.out.below (below_regrown _ _ _))))))
      refine wpQuiet_nil ?_
      intro w5 hwq
      have hb5 : Below wr.heap.size wr w5 := by
        obtain ⟨pp, rfl⟩ := hwq
        exact below_regrown _ _ _
      clear hwq y0 y1 y2 y3 y4 y5 y6 z0 z1 z2 z3 z4 z5 z6
      go_wp2
      go_roundw
      case rel => exact ⟨k + 1, hlt, by go_num, hB.trans (hb5.mono hB.size)⟩
      case measure => simp [intOf]; omega
    · go_wp2
      go_ret
      exact ⟨rfl, hB⟩

set_option maxHeartbeats 1000000 in
theorem eqFs_same (f : FsD) (u v : Value) (w : World) (hU : FsA w u f) (hV : FsA w v f) : Calls Tryz.prog 16 #[u, v] w fun e w' => e = .returned (.bool true) ∧ Below w.heap.size w w' := by
  obtain ⟨n1, rfl, hU⟩ := hU
  obtain ⟨n2, rfl, hV⟩ := hV
  obtain ⟨o1, c1, rfl, _, _⟩ := id hU
  obtain ⟨o2, c2, rfl, _, _⟩ := id hV
  have HU := Lib.hid hU
  have HV := Lib.hid hV
  clear hU hV
  have HB : Hid (Below w.heap.size w ((w.alloc (.cells #[.slice o1 f.nodes.length c1, .int .i64 f.room] 34)).alloc (.cells #[.slice o2 f.nodes.length c2, .int .i64 f.room] 34))) := Lib.hid (((Below.refl _ _).alloc (Nat.le_refl _) _).alloc (by simp) _)
  have k1 : ∀ w1, Below ((w.alloc (.cells #[.slice o1 f.nodes.length c1, .int .i64 f.room] 34)).alloc (.cells #[.slice o2 f.nodes.length c2, .int .i64 f.room] 34)).heap.size ((w.alloc (.cells #[.slice o1 f.nodes.length c1, .int .i64 f.room] 34)).alloc (.cells #[.slice o2 f.nodes.length c2, .int .i64 f.room] 34)) w1 →
      w1.cell? ⟨w.heap.size, 1, none⟩ = some (.int .i64 f.room) ∧ w1.cell? ⟨w.heap.size + 1, 1, none⟩ = some (.int .i64 f.room) := by
    intro w1 hb
    have h1 := heap_alloc_new w (.cells #[.slice o1 f.nodes.length c1, .int .i64 f.room] 34)
    have h2 := heap_alloc_new (w.alloc (.cells #[.slice o1 f.nodes.length c1, .int .i64 f.room] 34)) (.cells #[.slice o2 f.nodes.length c2, .int .i64 f.room] 34)
    have h3 := Below.heap_alloc (w.alloc (.cells #[.slice o1 f.nodes.length c1, .int .i64 f.room] 34)) (.cells #[.slice o2 f.nodes.length c2, .int .i64 f.room] 34) w.heap.size (by simp)
    rw [World.size_alloc] at h2
    exact ⟨(cell_blk ((hb.block w.heap.size (by simp; omega)).trans (h3.trans h1)) 1).trans rfl, (cell_blk ((hb.block (w.heap.size + 1) (by simp)).trans h2) 1).trans rfl⟩
  have HK := Lib.hid k1
  clear k1
  go_enter Tryz.func16, Tryz.ntmps16
  go_wp2_with fail
  refine (eqNodeS_same f.nodes _ _ _ (HU.out.below HB.out) (HV.out.below HB.out)).mono ?_
  rintro e w1 ⟨rfl, hb1⟩
  obtain ⟨r1, r2⟩ := HK.out w1 hb1
  have HB1 := Lib.hid (HB.out.trans (hb1.mono HB.out.size))
  clear hb1
  go_wp2
  go_ret
  exact ⟨rfl, HB1.out⟩
end Go.Proofs.YtpkmkpeabfmbiaaGreatDoor


/-
  What a file system that came in gives: it reads as plain data, its numbers in their range.
  Conditions: as it states.
-/
namespace Go.Proofs.YtpkmkpeabfmbiaaGreatDoor
open Go.ChangeShapes Go.WideShapes Go.ChangeAt Go.RowKit Go.Joins
set_option linter.unusedVariables false
set_option maxRecDepth 100000

def wf64 (n : Int) : Prop := (Lit.int .i64 n).wf = true
def EntW (e : Ent) : Prop := wf64 e.node
def NodW (n : Nod) : Prop := wf64 n.kind ∧ wf64 n.mode ∧ wf64 n.uid ∧ wf64 n.gid ∧ wf64 n.time ∧ ∀ e ∈ n.list, EntW e
def FsW (f : FsD) : Prop := wf64 f.room ∧ ∀ n ∈ f.nodes, NodW n

theorem spot_of_cell {w : World} {a : Addr} {v : Value} (h : w.cell? a = some v) : a.spot = none := by
  unfold World.cell? at h
  split at h
  · split at h
    · cases h
    · rename_i hs; cases hq : a.spot with
      | none => rfl
      | some y => rw [hq] at hs; exact absurd rfl hs
  · cases h
theorem add_plain (g off i : Nat) : (⟨g, off, none⟩ : Addr).add i = ⟨g, off + i, none⟩ := by
  unfold Addr.add; split
  · rename_i h; subst h; rfl
  · rfl
/-- An address where cells lie, in plain words. -/
theorem addr_plain {w : World} {a : Addr} {v : Value} (h : w.cell? a = some v) : a = ⟨a.block, a.off, none⟩ := by
  have := spot_of_cell h
  cases a; simp_all

theorem dataLe {s : ByteArray} {n : Nat} (h : s.size ≤ n) : s.data.toList.length ≤ n := by rw [Array.length_toList]; exact h

section
variable {H : Type} {enc : TypeId × Value → H} {W : World}

theorem cellsEnt : Tryz.prog.cellsOf 184 = 2 := by kernel_rfl
theorem cellsNod : Tryz.prog.cellsOf 111 = 7 := by kernel_rfl

theorem open_ents {fuel : Nat} {cs : List Value} {x : DataW H × List MemPlace} (h : DataW.trod enc Tryz.prog W 0 (fun _ => true) true fuel 109 cs = some x) :
    ∃ v es, cs = [v] ∧ EntsA W v es ∧ ∀ e ∈ es, EntW e := by
  rcases Go.Deep.open_slice_pairs Tryz.underlying109 Tryz.underlying184 cellsEnt rfl rfl (by kernel_rfl) (by kernel_rfl) h with ⟨rfl, -⟩ | ⟨a, len, cap, m, n, V0, V1, D0, D1, P0, P1, rfl, -, hl, hm, hmm, -, hx⟩
  · exact ⟨_, [], rfl, ⟨none, 0, rfl, Nat.zero_le _, fun i hi => absurd hi (by simp)⟩, by simp⟩
  · simp only [if_true] at hmm
    subst hmm
    have each : ∀ i, i < len → ∃ e : Ent, a = ⟨a.block, a.off, none⟩ ∧ a.block < W.heap.size ∧ W.cell? ⟨a.block, a.off + i * 2, none⟩ = some (.string (bs e.name)) ∧ W.cell? ⟨a.block, a.off + i * 2 + 1, none⟩ = some (.int .i64 e.node) ∧ e.name.length ≤ maxLen ∧ EntW e := by
      intro i hi
      have hp := addr_plain (hx 0 (by omega)).1
      obtain ⟨h0, h1, t0, t1⟩ := hx i (by omega)
      obtain ⟨s, e0, -, hs⟩ := DataW.trod_string Tryz.underlying9 t0
      obtain ⟨k, e1, -, hk⟩ := DataW.trod_int Tryz.underlying3 t1
      simp only [List.cons.injEq, and_true] at e0 e1
      rw [e0] at h0
      rw [e1] at h1
      have hb := World.block_lt_of_cell? W _ h0
      rw [addBlock] at hb
      have hpz : a = ⟨a.block, a.off, none⟩ := by simpa [Addr.add] using hp
      rw [hpz, add_plain] at h0 h1
      exact ⟨⟨s.data.toList, k⟩, hpz, hb, by simpa [bs_of] using h0, h1, dataLe hs, hk⟩
    haveI : Inhabited Ent := ⟨⟨[], 0⟩⟩
    obtain ⟨E, hE⟩ := Go.Deep.choose_lt each
    refine ⟨_, (List.range len).map E, rfl, ⟨some a, m, by simp, by simp; omega, fun i hi => ?_⟩, ?_⟩
    · simp at hi
      obtain ⟨h1, h2, h3, h4, h5, h6⟩ := hE i hi
      exact ⟨a.block, a.off, by rw [← h1], h2, by simpa using h3, by simpa using h4, by simpa using h5⟩
    · intro e he
      simp at he
      obtain ⟨i, hi, rfl⟩ := he
      exact (hE i hi).2.2.2.2.2

theorem open_nods {fuel : Nat} {cs : List Value} {x : DataW H × List MemPlace} (h : DataW.trod enc Tryz.prog W 0 (fun _ => true) true fuel 22 cs = some x) :
    ∃ v ns, cs = [v] ∧ NodsA W v ns ∧ ∀ n ∈ ns, NodW n := by
  rcases Go.Deep.open_slice Tryz.underlying22 h with ⟨rfl, -⟩ | ⟨a, len, cap, m, n, D, Pl, rfl, -, hl, hm, hmm, -, hx⟩
  · exact ⟨_, [], rfl, ⟨none, 0, rfl, Nat.zero_le _, fun i hi => absurd hi (by simp)⟩, by simp⟩
  · simp only [if_true] at hmm
    subst hmm
    have each : ∀ i, i < len → ∃ q : Nod, a = ⟨a.block, a.off, none⟩ ∧ a.block < W.heap.size ∧ (∃ lv, NodC W a.block (a.off + i * 7) lv q ∧ EntsA W lv q.list) ∧ q.data.length ≤ maxLen ∧ NodW q := by
      intro i hi
      have hp : a = ⟨a.block, a.off, none⟩ := by
        obtain ⟨c, h1, -⟩ := hx 0 (by omega)
        rw [cellsNod] at h1
        obtain ⟨_, hlen, hcell⟩ := World.cells?_some h1
        have h2 := hcell 0 (by omega)
        have h3 : ∃ v, c[0]? = some v := ⟨c[0], List.getElem?_eq_getElem (by omega)⟩
        obtain ⟨v, h3⟩ := h3
        rw [h3] at h2
        simpa [Addr.add] using addr_plain h2
      obtain ⟨c, h1, h2⟩ := hx i (by omega)
      rw [cellsNod] at h1
      obtain ⟨_, hlen, hcell⟩ := World.cells?_some h1
      obtain ⟨xs, k, -, -, -, hxl, hf⟩ := DataW.trod_struct Tryz.underlying111 h2
      match xs, hxl, c, hlen with
      | [y0, y1, y2, y3, y4, y5, y6], _, [v0, v1, v2, v3, v4, v5, v6], _ =>
        have g0 := hf 0 _ rfl
        have g1 := hf 1 _ rfl
        have g2 := hf 2 _ rfl
        have g3 := hf 3 _ rfl
        have g4 := hf 4 _ rfl
        have g5 := hf 5 _ rfl
        have g6 := hf 6 _ rfl
        have ci : Tryz.prog.cellsOf 3 = 1 := by kernel_rfl
        have cS : Tryz.prog.cellsOf 9 = 1 := by kernel_rfl
        have cL : Tryz.prog.cellsOf 109 = 1 := by kernel_rfl
        simp [ci, cS, cL] at g0 g1 g2 g3 g4 g5 g6
        obtain ⟨n0, e0, -, w0⟩ := DataW.trod_int Tryz.underlying3 g0
        obtain ⟨n1, e1, -, w1⟩ := DataW.trod_int Tryz.underlying3 g1
        obtain ⟨n2, e2, -, w2⟩ := DataW.trod_int Tryz.underlying3 g2
        obtain ⟨n3, e3, -, w3⟩ := DataW.trod_int Tryz.underlying3 g3
        obtain ⟨n4, e4, -, w4⟩ := DataW.trod_int Tryz.underlying3 g4
        obtain ⟨s, e5, -, hs⟩ := DataW.trod_string Tryz.underlying9 g5
        obtain ⟨lv, es, e6, hE, hW⟩ := open_ents g6
        simp only [List.cons.injEq, and_true] at e0 e1 e2 e3 e4 e5 e6
        subst e0 e1 e2 e3 e4 e5 e6
        rw [hp] at hcell
        simp only [add_plain] at hcell
        have c0 := hcell 0 (by omega)
        have hb := World.block_lt_of_cell? W _ c0
        exact ⟨⟨n0, n1, n2, n3, n4, s.data.toList, es⟩, hp, hb, ⟨v6, ⟨c0, hcell 1 (by omega), hcell 2 (by omega), hcell 3 (by omega), hcell 4 (by omega), by rw [bs_of]; exact hcell 5 (by omega), hcell 6 (by omega)⟩, hE⟩, dataLe hs, w0, w1, w2, w3, w4, hW⟩
    haveI : Inhabited Nod := ⟨⟨0, 0, 0, 0, 0, [], []⟩⟩
    obtain ⟨E, hE⟩ := Go.Deep.choose_lt each
    refine ⟨_, (List.range len).map E, rfl, ⟨some a, m, by simp, by simp; omega, fun i hi => ?_⟩, ?_⟩
    · simp at hi
      obtain ⟨h1, h2, ⟨lv, h3, h4⟩, h5, h6⟩ := hE i hi
      exact ⟨a.block, a.off, lv, by rw [← h1], h2, by simpa using h3, by simpa using h4, by simpa using h5⟩
    · intro e he
      simp at he
      obtain ⟨i, hi, rfl⟩ := he
      exact (hE i hi).2.2.2.2

theorem open_fsA {base : Nat} {v : Value} {d : DataW H} {p : List MemPlace} (hval : Value.okWide Tryz.prog W .any base 24 v) (h : DataW.Trod enc Tryz.prog W 0 (fun _ => true) true 24 v d p) :
    ∃ f, FsA W v f ∧ FsW f := by
  obtain ⟨v0, v1, y0, y1, m, rfl, -, -, h0, h1⟩ := open_agg2 Tryz.underlying24 (by kernel_rfl) (by kernel_rfl) hval h
  obtain ⟨nv, ns, e0, hN, hW⟩ := open_nods h0
  obtain ⟨r, e1, -, hr⟩ := DataW.trod_int Tryz.underlying3 h1
  simp only [List.cons.injEq, and_true] at e0 e1
  subst e0 e1
  exact ⟨⟨ns, r⟩, ⟨_, rfl, hN⟩, hr, hW⟩
end
end Go.Proofs.YtpkmkpeabfmbiaaGreatDoor


/-
  The model's plain counts over a file system: l3Bytes, l3Links, l3Parent, l3Free.
  Conditions: at most 2^20 values and letters together.
-/
namespace Go.Proofs.YtpkmkpeabfmbiaaGreatDoor
open Go.ChangeShapes Go.WideShapes Go.ChangeAt Go.RowKit Go.Joins
set_option linter.unusedVariables false

def sumD (ns : List Nod) : Nat := (ns.map fun n => n.data.length).sum
theorem sumD_take {ns : List Nod} {k : Nat} (h : k < ns.length) : sumD (ns.take (k + 1)) = sumD (ns.take k) + ns[k].data.length := by
  unfold sumD; rw [List.take_succ_eq_append_getElem h]; simp only [List.map_append, List.sum_append, List.map_cons, List.map_nil, List.sum_cons, List.sum_nil, Nat.add_zero]
theorem sumD_pre (ns : List Nod) (k : Nat) : sumD (ns.take k) ≤ sumD ns := by
  conv => rhs; rw [← List.take_append_drop k ns]
  unfold sumD; rw [List.map_append, List.sum_append]; omega
theorem sumD_le (ns : List Nod) : sumD ns ≤ szNs ns := by
  unfold sumD szNs szN
  induction ns with
  | nil => simp
  | cons a r ih => simp only [List.map_cons, List.sum_cons]; omega

set_option maxHeartbeats 2000000 in
theorem l3Bytes_any (f : FsD) (v : Value) (w : World) (hR : FsA w v f) (hs : szF f ≤ 1048576) : Calls Tryz.prog 68 #[v] w fun e w' => e = .returned (.int .i64 (sumD f.nodes : Nat)) ∧ Below w.heap.size w w' := by
  obtain ⟨nv, rfl, hN⟩ := hR
  obtain ⟨o, c, rfl, hm, hH⟩ := hN
  have HH := Lib.hid hH
  clear hH
  unfold maxLen at hm
  have hT : sumD f.nodes ≤ 1048576 := by have := sumD_le f.nodes; unfold szF at hs; omega
  have hl : f.nodes.length ≤ 1048576 := by unfold szF at hs; omega
  clear hs
  go_enter Tryz.func68, Tryz.ntmps68
  go_wp2
  have hbw : Below w.heap.size w (w.alloc (.cells #[.slice o f.nodes.length c, .int .i64 f.room] 34)) := (Below.refl _ _).alloc (Nat.le_refl _) _
  go_loopw [3, 9] (fun t i wr => ∃ k : Nat, k ≤ f.nodes.length ∧ i = .int .i64 k ∧ t = .int .i64 (sumD (f.nodes.take k) : Nat) ∧ Below w.heap.size w wr) (fun _ i _ => f.nodes.length - (intOf i).toNat)
  case atStart => exact ⟨0, Nat.zero_le _, rfl, rfl, hbw⟩
  case round =>
    obtain ⟨k, hk, rfl, rfl, hB⟩ := hrel
    by_cases hlt : k < f.nodes.length
    · obtain ⟨g, off, lv, rfl, hg, hc, he, hml⟩ := HH.out k hlt
      have HS := Lib.hid (sumD_take hlt)
      have hle := sumD_pre f.nodes (k + 1)
      obtain ⟨d0, d1, d2, d3, d4, d5, d6⟩ := hc.below hB hg
      obtain ⟨q, hqq⟩ : ∃ q, q = f.nodes[k] := ⟨_, rfl⟩
      rw [← hqq] at d0 d1 d2 d3 d4 d5 he hml HS
      obtain ⟨o2, c2, rfl, _, _⟩ := id he
      have HZ : Hid ((bs q.data).size = q.data.length) := Lib.hid (bs_size _)
      have hT2 : sumD (f.nodes.take k) + q.data.length ≤ 1048576 := by rw [HS.out] at hle; omega
      have hx : (bs q.data).size + sumD (f.nodes.take k) ≤ 1048576 := by rw [HZ.out]; omega
      obtain ⟨x, hxx⟩ : ∃ x, x = bs q.data := ⟨_, rfl⟩
      rw [← hxx] at d5 hx HZ
      have HX := Lib.hid hxx
      clear hc he hml hqq hxx hle
      go_wp2
      go_roundw
      case rel =>
        refine ⟨k + 1, hlt, by go_num, by rw [HS.out, ← HZ.out]; go_num, ?_⟩
        exact hB.alloc hB.size _
      case measure => simp [intOf]; omega
    · have HT : Hid (f.nodes.take k = f.nodes) := Lib.hid (List.take_of_length_le (by omega))
      go_wp2
      go_ret
      exact ⟨ret_int (by rw [HT.out]), hB⟩

def tot {α : Type} (g : α → Nat) (l : List α) : Nat := (l.map g).sum
theorem tot_take {α : Type} (g : α → Nat) {l : List α} {k : Nat} (h : k < l.length) : tot g (l.take (k + 1)) = tot g (l.take k) + g l[k] := by
  unfold tot; rw [List.take_succ_eq_append_getElem h]; simp only [List.map_append, List.sum_append, List.map_cons, List.map_nil, List.sum_cons, List.sum_nil, Nat.add_zero]
theorem tot_pre {α : Type} (g : α → Nat) (l : List α) (k : Nat) : tot g (l.take k) ≤ tot g l := by
  conv => rhs; rw [← List.take_append_drop k l]
  unfold tot; rw [List.map_append, List.sum_append]; omega
theorem tot_le {α : Type} {g g' : α → Nat} (h : ∀ a, g a ≤ g' a) (l : List α) : tot g l ≤ tot g' l := by
  unfold tot
  induction l with
  | nil => simp
  | cons a r ih => simp only [List.map_cons, List.sum_cons]; have := h a; omega

def one (node : Int) (e : Ent) : Nat := if e.node = node then 1 else 0
def linksE (node : Int) (es : List Ent) : Nat := tot (one node) es
def links (node : Int) (ns : List Nod) : Nat := tot (fun n => linksE node n.list) ns
theorem linksE_le (node : Int) (es : List Ent) : linksE node es ≤ es.length := by
  unfold linksE tot
  induction es with
  | nil => simp
  | cons a r ih => 
    have : one node a ≤ 1 := by unfold one; split <;> omega
    simp only [List.map_cons, List.sum_cons, List.length_cons]; omega
theorem links_le (node : Int) (ns : List Nod) : links node ns ≤ szNs ns := by
  unfold links szNs
  exact tot_le (g' := szN) (fun n => by have := linksE_le node n.list; unfold szN; omega) ns

set_option maxHeartbeats 4000000 in
theorem l3Links_any (f : FsD) (node : Int) (v : Value) (w : World) (hR : FsA w v f) (hs : szF f ≤ 1048576) : Calls Tryz.prog 96 #[v, .int .i64 node] w fun e w' => e = .returned (.int .i64 (links node f.nodes : Nat)) ∧ Below w.heap.size w w' := by
  obtain ⟨nv, rfl, hN⟩ := hR
  obtain ⟨o, c, rfl, hm, hH⟩ := hN
  have HH := Lib.hid hH
  clear hH
  unfold maxLen at hm
  have hT : links node f.nodes ≤ 1048576 := by have := links_le node f.nodes; unfold szF at hs; omega
  have hl : f.nodes.length ≤ 1048576 := by unfold szF at hs; omega
  have hL : ∀ n ∈ f.nodes, n.list.length ≤ 1048576 := fun n hn => ((lists_small hs).2 n hn).1
  have HL := Lib.hid hL
  clear hs hL
  go_enter Tryz.func96, Tryz.ntmps96
  go_wp2
  have hbw : Below w.heap.size w (w.alloc (.cells #[.slice o f.nodes.length c, .int .i64 f.room] 34)) := (Below.refl _ _).alloc (Nat.le_refl _) _
  go_loopw [5, 13] (fun t i wr => ∃ k : Nat, k ≤ f.nodes.length ∧ i = .int .i64 k ∧ t = .int .i64 (links node (f.nodes.take k) : Nat) ∧ Below w.heap.size w wr) (fun _ i _ => f.nodes.length - (intOf i).toNat)
  case atStart => exact ⟨0, Nat.zero_le _, rfl, rfl, hbw⟩
  case round =>
    obtain ⟨k, hk, rfl, rfl, hB⟩ := hrel
    by_cases hlt : k < f.nodes.length
    · obtain ⟨g, off, lv, rfl, hg, hc, he, hml⟩ := HH.out k hlt
      have HS : Hid (links node (f.nodes.take (k + 1)) = links node (f.nodes.take k) + linksE node f.nodes[k].list) := Lib.hid (tot_take _ hlt)
      have hle : links node (f.nodes.take (k + 1)) ≤ links node f.nodes := tot_pre _ f.nodes (k + 1)
      obtain ⟨d0, d1, d2, d3, d4, d5, d6⟩ := hc.below hB hg
      have hq2 := HL.out f.nodes[k] (List.getElem_mem hlt)
      obtain ⟨q, hqq⟩ : ∃ q, q = f.nodes[k] := ⟨_, rfl⟩
      rw [← hqq] at d0 d1 d2 d3 d4 d5 he hml HS hq2
      obtain ⟨o2, c2, rfl, -, hE⟩ := id he
      have HE := Lib.hid hE
      have hT2 : links node (f.nodes.take k) + linksE node q.list ≤ 1048576 := by rw [HS.out] at hle; omega
      obtain ⟨x, hxx⟩ : ∃ x, x = bs q.data := ⟨_, rfl⟩
      rw [← hxx] at d5
      clear hc he hml hqq hxx hle hE
      go_wp2
      go_loopw [5, 20] (fun t i wi => ∃ j : Nat, j ≤ q.list.length ∧ i = .int .i64 j ∧ t = .int .i64 ((links node (f.nodes.take k) + linksE node (q.list.take j) : Nat) : Int) ∧ Below w.heap.size w wi) (fun _ i _ => q.list.length - (intOf i).toNat)
      case atStart =>
        exact ⟨0, Nat.zero_le _, rfl, rfl, hB.alloc hB.size _⟩
      case round =>
        obtain ⟨j, hj, rfl, rfl, hB2⟩ := hrel
        by_cases hlt2 : j < q.list.length
        · obtain ⟨g2, f2, rfl, q2, x2, y2, _⟩ := HE.out j hlt2
          have HS2 : Hid (linksE node (q.list.take (j + 1)) = linksE node (q.list.take j) + one node q.list[j]) := Lib.hid (tot_take _ hlt2)
          have hle2 : linksE node (q.list.take (j + 1)) ≤ linksE node q.list := tot_pre _ q.list (j + 1)
          have a1 := (hB2.cell (p := ⟨g2, f2 + j * 2, none⟩) q2).trans x2
          have a2 := (hB2.cell (p := ⟨g2, f2 + j * 2 + 1, none⟩) q2).trans y2
          obtain ⟨z, hzz⟩ : ∃ z, z = q.list[j] := ⟨_, rfl⟩
          rw [← hzz] at a1 a2 HS2
          obtain ⟨y, hyy⟩ : ∃ y, y = bs z.name := ⟨_, rfl⟩
          rw [← hyy] at a1
          obtain ⟨r, hr⟩ : ∃ r, r = z.node := ⟨_, rfl⟩
          rw [← hr] at a2
          have HZ : Hid (one node z = if r = node then 1 else 0) := Lib.hid (by rw [hr]; rfl)
          clear x2 y2 hzz hyy hr
          by_cases hrn : r = node
          · have HO : Hid (one node z = 1) := Lib.hid (by rw [HZ.out, if_pos hrn])
            have hx3 : links node (f.nodes.take k) + linksE node (q.list.take j) + 1 ≤ 1048576 := by rw [HS2.out, HO.out] at hle2; omega
            clear HZ hle2
            go_wp2
            go_roundw
            case rel =>
              exact ⟨j + 1, hlt2, by go_num, by rw [HS2.out, HO.out]; go_num, hB2.alloc hB2.size _⟩
            case measure => simp [intOf]; omega
          · have HO : Hid (one node z = 0) := Lib.hid (by rw [HZ.out, if_neg hrn])
            clear HZ hle2
            go_wp2
            go_roundw
            case rel =>
              exact ⟨j + 1, hlt2, by go_num, by rw [HS2.out, HO.out]; go_num, hB2.alloc hB2.size _⟩
            case measure => simp [intOf]; omega
        · have HT : Hid (q.list.take j = q.list) := Lib.hid (List.take_of_length_le (by omega))
          go_wp2
          go_roundw
          case rel => exact ⟨k + 1, hlt, by go_num, by rw [HS.out, HT.out], hB2⟩
          case measure => simp [intOf]; omega
    · have HT : Hid (f.nodes.take k = f.nodes) := Lib.hid (List.take_of_length_le (by omega))
      go_wp2
      go_ret
      exact ⟨ret_int (by rw [HT.out]), hB⟩

theorem lt_of_heap {w : World} {b : Nat} {o : Obj} (h : w.heap[b]? = some o) : b < w.heap.size := (Array.getElem?_eq_some_iff.1 h).1
def freeAt (ns : List Nod) : Int := match ns.findIdx? (fun n => n.kind == 0) with
  | some k => k
  | none => if ns.length = 40 then -1 else ns.length
theorem findIdx_is {α : Type} {p : α → Bool} {l : List α} {k : Nat} (h : k < l.length) (hp : p l[k] = true) (hn : ∀ j (hj : j < l.length), j < k → p l[j] = false) : l.findIdx? p = some k :=
  List.findIdx?_eq_some_iff_getElem.2 ⟨h, hp, fun j hj => by rw [hn j (by omega) hj]; simp⟩
theorem findIdx_not {α : Type} {p : α → Bool} {l : List α} (hn : ∀ j (hj : j < l.length), p l[j] = false) : l.findIdx? p = none := by
  rw [List.findIdx?_eq_none_iff]
  intro x hx
  obtain ⟨j, hj, rfl⟩ := List.getElem_of_mem hx
  exact hn j hj

def hasE (node : Int) (es : List Ent) : Bool := es.any fun e => e.node == node
def parentOf (node : Int) (ns : List Nod) : Nat := match ns.findIdx? (fun n => hasE node n.list) with
  | some k => k
  | none => 0

set_option maxHeartbeats 4000000 in
theorem l3Parent_any (f : FsD) (node : Int) (v : Value) (w : World) (hR : FsA w v f) (hs : szF f ≤ 1048576) : Calls Tryz.prog 110 #[v, .int .i64 node] w fun e w' => e = .returned (.int .i64 (parentOf node f.nodes : Nat)) ∧ Below w.heap.size w w' := by
  obtain ⟨nv, rfl, hN⟩ := hR
  obtain ⟨o, c, rfl, hm, hH⟩ := hN
  have HH := Lib.hid hH
  clear hH
  unfold maxLen at hm
  have hl : f.nodes.length ≤ 1048576 := by unfold szF at hs; omega
  have hL : ∀ n ∈ f.nodes, n.list.length ≤ 1048576 := fun n hn => ((lists_small hs).2 n hn).1
  have HL := Lib.hid hL
  clear hs hL
  go_enter Tryz.func110, Tryz.ntmps110
  go_wp2
  have hbw : Below w.heap.size w (w.alloc (.cells #[.slice o f.nodes.length c, .int .i64 f.room] 34)) := (Below.refl _ _).alloc (Nat.le_refl _) _
  go_loopw [12] (fun i wr => ∃ k : Nat, k ≤ f.nodes.length ∧ i = .int .i64 k ∧ Below w.heap.size w wr ∧ ∀ j (hj : j < f.nodes.length), j < k → hasE node f.nodes[j].list = false) (fun i _ => f.nodes.length - (intOf i).toNat)
  case atStart => exact ⟨0, Nat.zero_le _, rfl, hbw, fun j hj h => absurd h (Nat.not_lt_zero _)⟩
  case round =>
    obtain ⟨k, hk, rfl, hB, hj⟩ := hrel
    have HJ := Lib.hid hj
    clear hj
    by_cases hlt : k < f.nodes.length
    · obtain ⟨g, off, lv, rfl, hg, hc, he, hml⟩ := HH.out k hlt
      obtain ⟨d0, d1, d2, d3, d4, d5, d6⟩ := hc.below hB hg
      have hq2 := HL.out f.nodes[k] (List.getElem_mem hlt)
      obtain ⟨q, hqq⟩ : ∃ q, q = f.nodes[k] := ⟨_, rfl⟩
      have HQ := Lib.hid hqq
      rw [← hqq] at d0 d1 d2 d3 d4 d5 he hml hq2
      obtain ⟨o2, c2, rfl, -, hE⟩ := id he
      have HE := Lib.hid hE
      obtain ⟨x, hxx⟩ : ∃ x, x = bs q.data := ⟨_, rfl⟩
      rw [← hxx] at d5
      clear hc he hml hqq hxx hE
      go_wp2
      go_loopw [20] (fun i wi => ∃ j : Nat, j ≤ q.list.length ∧ i = .int .i64 j ∧ Below w.heap.size w wi ∧ ∀ m (hm : m < q.list.length), m < j → (q.list[m].node == node) = false) (fun i _ => q.list.length - (intOf i).toNat)
      case atStart =>
        exact ⟨0, Nat.zero_le _, rfl, hB.alloc hB.size _, fun j hj h => absurd h (Nat.not_lt_zero _)⟩
      case round =>
        obtain ⟨j, hj, rfl, hB2, hM⟩ := hrel
        have HM := Lib.hid hM
        clear hM
        by_cases hlt2 : j < q.list.length
        · obtain ⟨g2, f2, rfl, q2, x2, y2, _⟩ := HE.out j hlt2
          have a1 := (hB2.cell (p := ⟨g2, f2 + j * 2, none⟩) q2).trans x2
          have a2 := (hB2.cell (p := ⟨g2, f2 + j * 2 + 1, none⟩) q2).trans y2
          obtain ⟨z, hzz⟩ : ∃ z, z = q.list[j] := ⟨_, rfl⟩
          have HZ := Lib.hid hzz
          rw [← hzz] at a1 a2
          obtain ⟨y, hyy⟩ : ∃ y, y = bs z.name := ⟨_, rfl⟩
          rw [← hyy] at a1
          obtain ⟨r, hr⟩ : ∃ r, r = z.node := ⟨_, rfl⟩
          have HR := Lib.hid hr
          rw [← hr] at a2
          clear x2 y2 hzz hyy hr
          by_cases hrn : r = node
          · have HF : Hid (parentOf node f.nodes = k) := Lib.hid (by
              unfold parentOf
              rw [findIdx_is (p := fun n => hasE node n.list) hlt (by
                show hasE node f.nodes[k].list = true
                rw [← HQ.out]
                unfold hasE
                rw [List.any_eq_true]
                exact ⟨q.list[j], List.getElem_mem hlt2, by rw [← HZ.out, ← HR.out, hrn]; simp⟩) HJ.out])
            go_wp2
            go_ret
            exact ⟨ret_int (by rw [HF.out]), hB2.alloc hB2.size _⟩
          · have HM2 : Hid (∀ m (hm : m < q.list.length), m < j + 1 → (q.list[m].node == node) = false) := Lib.hid (by
              intro m hm h
              rcases Nat.lt_succ_iff_lt_or_eq.1 h with h1 | rfl
              · exact HM.out m hm h1
              · rw [← HZ.out, ← HR.out]; simpa using hrn)
            go_wp2
            go_roundw
            case rel =>
              exact ⟨j + 1, hlt2, by go_num, hB2.alloc hB2.size _, HM2.out⟩
            case measure => simp [intOf]; omega
        · have HJ2 : Hid (∀ j (hj : j < f.nodes.length), j < k + 1 → hasE node f.nodes[j].list = false) := Lib.hid (by
            intro i hi h
            rcases Nat.lt_succ_iff_lt_or_eq.1 h with h1 | rfl
            · exact HJ.out i hi h1
            · rw [← HQ.out]
              unfold hasE
              rw [List.any_eq_false]
              intro e he
              obtain ⟨m, hm, rfl⟩ := List.getElem_of_mem he
              rw [HM.out m hm (by omega)]; simp)
          go_wp2
          go_roundw
          case rel => exact ⟨k + 1, hlt, by go_num, hB2, HJ2.out⟩
          case measure => simp [intOf]; omega
    · have HF : Hid (parentOf node f.nodes = 0) := Lib.hid (by
        unfold parentOf
        rw [findIdx_not (p := fun n => hasE node n.list) (fun j hj => HJ.out j hj (by omega))])
      go_wp2
      go_ret
      exact ⟨ret_int (by rw [HF.out]; rfl), hB⟩
end Go.Proofs.YtpkmkpeabfmbiaaGreatDoor


/-
  The walks of impl.partsIn and of its closure.
  Conditions: a text's length is a length.
-/
namespace Go.Proofs.YtpkmkpeabfmbiaaGreatDoor
open Go.RowKit Go.Shelf
set_option linter.unusedVariables false
attribute [local go_sem] Oper.semAt_some

set_option maxHeartbeats 1000000 in
theorem partsIn_in (F : Fence) (n : Nat) (hf : F.fn 122) (hro : F.round = none) (s : ByteArray) (w : World) :
    CallsIn F n Tryz.prog 122 #[.string s] w fun e w' => e = .returned (.func (.func 143) #[] #[.pointer (some ⟨w.heap.size, 0, none⟩)]) ∧ w' = w.alloc (.cells #[.string s] 9) := by
  refine callsIn_of_wp Tryz.func122 rfl hf ?_ hro
  simp only [Tryz.ntmps122, List.size_toArray, List.length_cons, List.length_nil, Nat.reduceAdd, Nat.reduceSub, Array.replicate_succ, Array.replicate_zero, List.push_toArray, List.append_toArray, List.nil_append, List.cons_append]
  gi_wp2
  go_ret
  exact ⟨rfl, rfl⟩

set_option maxRecDepth 100000 in
set_option maxHeartbeats 2000000 in
theorem iter_in (F : Fence) (n : Nat) (hf : F.fn 143) (hro : F.round = none) (hn : 1 ≤ n) (l b : Nat) (s : ByteArray) (hs : s.size ≤ maxLen) (J Jx : List ByteArray → World → Prop) (W : World) (hJ : AbidesFrom W.heap.size J)
    (hY : ∀ pre x W1, J pre W1 → pre.length < (parts s.data.toList).length → YieldAt F (n - 1) Tryz.prog l #[.string x] W1 fun e W' =>
      (e = .returned (.bool true) ∧ J (pre ++ [x]) W' ∧ KpB b W1 W') ∨ (e = .returned (.bool false) ∧ Jx (pre ++ [x]) W'))
    (hB : W.cell? ⟨b, 0, none⟩ = some (.string s)) (h0 : J [] W) :
    CallsIn F n Tryz.prog 143 #[.func (.yield l) #[] #[], .pointer (some ⟨b, 0, none⟩)] W fun e W' => (∃ v, e = .returned v) ∧
      ((∃ ys, ys = (parts s.data.toList).map bs ∧ J ys W') ∨ (∃ pre, pre <+: (parts s.data.toList).map bs ∧ Jx pre W')) := by
  unfold maxLen at hs
  refine callsIn_of_wp Tryz.func143 rfl hf ?_ hro
  simp only [Tryz.ntmps143, List.size_toArray, List.length_cons, List.length_nil, Nat.reduceAdd, Nat.reduceSub, Array.replicate_succ, Array.replicate_zero, List.push_toArray, List.append_toArray, List.nil_append, List.cons_append]
  gi_wp2
  gi_loopw [3] (fun f wr => ∃ (pos frm : Nat), f = .int .i64 frm ∧ Cut s pos frm ∧ wr.heap[W.heap.size]? = some (.stringIter s pos) ∧ wr.cell? ⟨b, 0, none⟩ = some (.string s) ∧ J ((given s pos).map bs) wr)
    (fun _ wr => s.size - wr.iterPos W.heap.size)
  case atStart =>
    refine ⟨0, 0, rfl, Cut.start s, ?_, ?_, ?_⟩
    · exact World.iter_heap W s 0
    · exact (World.cell?_of_block (a := ⟨b, 0, none⟩) (Below.heap_alloc W _ b (World.block_lt_of_cell? W _ hB))).trans hB
    · rw [given_start]
      exact hJ [] W _ none h0 (World.grownBy_alloc W _ none) (fun r e => by cases e)
  case round =>
    obtain ⟨pos, frm, rfl, hC, hit, hcell, hj⟩ := hrel
    have HC := Lib.hid hC
    have htop := hC.top
    have hle := hC.le
    clear hC
    by_cases hp : pos < s.size
    · by_cases h47 : (Utf8.decode s pos).1 = 47
      · obtain ⟨hb47, hw1⟩ := slash_byte hp h47
        have hnx : ∀ ty, (Instr.next (.pointer (some ⟨W.heap.size, 0, none⟩)) true ty).run Tryz.prog wr = .ok (.tuple #[.bool true, .int .i64 pos, .int .i32 47]) (wr.iterAt W.heap.size s (pos + 1)) := by
          intro ty
          rw [Lib.run_next_any_at wr W.heap.size s pos ty hit hp, h47, hw1]
          rfl
        have hit2 := Lib.iterAt_heap wr W.heap.size s pos (pos + 1) hit
        have hcell2 := cell_iterAt hit hcell (pos + 1)
        have hj2 := abides_next hJ hj hit (Nat.le_refl _) (pos + 1)
        have HS := Lib.hid (HC.out.slash hp hb47).1
        have HM : Hid (wr.iterPos W.heap.size = pos) := Lib.hid (by simp [World.iterPos, hit])
        by_cases hlt : frm < pos
        · have HG := Lib.hid (HC.out.gives hp hb47 hlt)
          have hpre : (given s pos).length < (parts s.data.toList).length := len_of_prefix (by rw [← HG.out]; exact given_prefix s (pos + 1))
          have HX : Hid (s.extract frm pos = bs ((s.data.toList.take pos).drop frm)) := Lib.hid (bs_ext s frm pos)
          obtain ⟨fn, tmps, assign, body, hy, hR⟩ := hY ((given s pos).map bs) (s.extract frm pos) _ hj2 (by simpa using hpre)
          clear hb47 hw1 h47
          have HIT := Lib.hid hit2
          clear hit hit2
          gi_wp2
          refine hR.mono ?_
          rintro e W3 (⟨rfl, hJ3, hk3⟩ | ⟨rfl, hJx3⟩)
          · have hc3 : W3.cell? ⟨b, 0, none⟩ = some (.string s) := hk3.2.trans hcell2
            gi_wp2
            go_roundw
            case rel =>
              refine ⟨pos + 1, pos + 1, by go_num, HS.out, hk3.1.same _ _ HIT.out rfl, hc3, ?_⟩
              rw [HG.out, List.map_append, List.map_cons, List.map_nil, ← HX.out]
              exact hJ3
            case measure =>
              have : W3.iterPos W.heap.size = pos + 1 := by simp [World.iterPos, hk3.1.same _ _ HIT.out rfl]
              rw [HM.out, this]; omega
          · gi_wp2
            refine bodyPost_ret (results_none rfl _ _ _) rfl ?_
            refine ⟨⟨_, rfl⟩, .inr ⟨_, ?_, hJx3⟩⟩
            have := map_prefix (given_prefix s (pos + 1))
            rw [HG.out, List.map_append, List.map_cons, List.map_nil, ← HX.out] at this
            exact this
        · have HG := Lib.hid (HC.out.skips hp hb47 hlt)
          clear hb47 hw1 h47
          have HIT := Lib.hid hit2
          clear hit hit2
          gi_wp2
          refine ⟨fun _ h => (by cases h), ?_⟩
          gi_wp2
          go_roundw
          case rel => exact ⟨pos + 1, pos + 1, by go_num, HS.out, HIT.out, hcell2, by rw [HG.out]; exact hj2⟩
          case measure =>
            have : (wr.iterAt W.heap.size s (pos + 1)).iterPos W.heap.size = pos + 1 := by simp [World.iterPos, HIT.out]
            rw [HM.out, this]; omega
      · obtain ⟨HR, HG⟩ := HC.out.rune hp h47
        have hd := decode_bytes s pos hp
        have hdl := decode_le s pos
        obtain ⟨r, hr⟩ : ∃ r, r = (Utf8.decode s pos).1 := ⟨_, rfl⟩
        obtain ⟨wd, hwd⟩ : ∃ wd, wd = (Utf8.decode s pos).2 := ⟨_, rfl⟩
        have hnx : ∀ ty, (Instr.next (.pointer (some ⟨W.heap.size, 0, none⟩)) true ty).run Tryz.prog wr = .ok (.tuple #[.bool true, .int .i64 pos, .int .i32 (r : Int)]) (wr.iterAt W.heap.size s (pos + wd)) := by
          intro ty
          rw [hr, hwd]
          exact Lib.run_next_any_at wr W.heap.size s pos ty hit hp
        rw [← hr] at h47 hdl
        rw [← hwd] at HR HG hd
        have hne : ((r : Int) != 47) = true := by simp; omega
        have HR' := Lib.hid HR
        have HG' := Lib.hid HG
        obtain ⟨hd1, hd2, _⟩ := hd
        clear HR HG hr hwd
        have hit2 := Lib.iterAt_heap wr W.heap.size s pos (pos + wd) hit
        have hcell2 := cell_iterAt hit hcell (pos + wd)
        have hj2 := abides_next hJ hj hit (Nat.le_refl _) (pos + wd)
        have HM : Hid (wr.iterPos W.heap.size = pos) := Lib.hid (by simp [World.iterPos, hit])
        have HIT := Lib.hid hit2
        clear hit hit2
        gi_wp2
        go_roundw
        case rel => exact ⟨pos + wd, frm, rfl, HR'.out, HIT.out, hcell2, by rw [HG'.out]; exact hj2⟩
        case measure =>
          have : (wr.iterAt W.heap.size s (pos + wd)).iterPos W.heap.size = pos + wd := by simp [World.iterPos, HIT.out]
          rw [HM.out, this]; omega
    · obtain rfl : pos = s.size := by omega
      have hnx : ∀ ty, (Instr.next (.pointer (some ⟨W.heap.size, 0, none⟩)) true ty).run Tryz.prog wr = _ := fun ty => Lib.run_next_end_at wr W.heap.size s s.size ty hit hp
      clear hit
      by_cases hlt : frm < s.size
      · have HG := Lib.hid (HC.out.last hlt)
        have hpre : (given s s.size).length < (parts s.data.toList).length := by rw [HG.out]; simp
        have HX : Hid (s.extract frm s.size = bs ((s.data.toList.take s.size).drop frm)) := Lib.hid (bs_ext s frm s.size)
        obtain ⟨fn, tmps, assign, body, hy, hR⟩ := hY ((given s s.size).map bs) (s.extract frm s.size) _ hj (by simpa using hpre)
        gi_wp2
        refine hR.mono ?_
        rintro e W3 (⟨rfl, hJ3, hk3⟩ | ⟨rfl, hJx3⟩)
        · gi_wp2
          go_end0
          refine ⟨⟨_, rfl⟩, .inl ⟨_, rfl, ?_⟩⟩
          rw [HG.out, List.map_append, List.map_cons, List.map_nil, ← HX.out]
          exact hJ3
        · gi_wp2
          go_end0
          refine ⟨⟨_, rfl⟩, .inr ⟨_, ?_, hJx3⟩⟩
          rw [HG.out, List.map_append, List.map_cons, List.map_nil, ← HX.out]
          exact List.prefix_refl _
      · have HG := Lib.hid (HC.out.ended hlt)
        gi_wp2
        go_end0
        exact ⟨⟨_, rfl⟩, .inl ⟨_, rfl, by rw [HG.out]; exact hj⟩⟩

theorem iter_stops (F : Fence) (n : Nat) (hf : F.fn 143) (hro : F.round = none) (hn : 1 ≤ n) (b : Nat) (s : ByteArray) (hs : s.size ≤ maxLen) (w : World) (hb : b < w.heap.size) (hc : w.cell? ⟨b, 0, none⟩ = some (.string s)) :
    SeqStopsK F n Tryz.prog 143 #[.pointer (some ⟨b, 0, none⟩)] (fun x : ByteArray => #[Value.string x]) (KpB b) (fun ys => ys = (parts s.data.toList).map bs) (fun pre => pre <+: (parts s.data.toList).map bs) (parts s.data.toList).length w := fun l J Jx W hW hJ _ hY h0 =>
  iter_in F n hf hro hn l b s hs J Jx W hJ hY ((hW.cell (p := ⟨b, 0, none⟩) hb).trans hc) h0
end Go.Proofs.YtpkmkpeabfmbiaaGreatDoor


/-
  The contracts of impl.hasPathForm and impl.GoodPath.
  Conditions: a text's length is a length.
-/
namespace Go.Proofs.YtpkmkpeabfmbiaaGreatDoor
open Go.RowKit Go.Shelf
set_option linter.unusedVariables false
attribute [local go_sem] Oper.semAt_some

theorem good_no {l : List UInt8} (h : ¬ (1 ≤ l.length ∧ l.length ≤ 60)) : goodB l = false := by simp [goodB, h]
theorem good_in {l : List UInt8} (h : 1 ≤ l.length ∧ l.length ≤ 60) : goodB l = (parts l).all partB := by simp [goodB, h]
theorem boxed_below {W W' : World} {b : Nat} {t : TypeId} {v : Value} (h : Boxed W b t v) (hb : Below W.heap.size W W') : Boxed W' b t v := (hb.block b h.lt).trans h
theorem all_bs (ps : List (List UInt8)) : (ps.map bs).all (fun x => partB x.data.toList) = ps.all partB := by
  induction ps with
  | nil => rfl
  | cons p r ih => simp only [List.map_cons, List.all_cons, ih, bs_list]

def formB (l : List UInt8) : Bool := !(l == []) && (parts l).all partB
theorem form_empty : formB [] = false := rfl
theorem form_some {l : List UInt8} (h : l ≠ []) : formB l = (parts l).all partB := by simp [formB, h]
theorem form_bad {l : List UInt8} (h : (parts l).all partB = false) : formB l = false := by simp [formB, h]
theorem good_form (l : List UInt8) : goodB l = (decide (l.length ≤ 60) && formB l) := by
  by_cases h : l = []
  · subst h; rfl
  · have h1 : 1 ≤ l.length := List.length_pos_iff.2 h
    rw [form_some h]; unfold goodB; simp [h1]
theorem text_some {s : ByteArray} (h : s.data.toList ≠ []) : (s.toList.isEmpty) = false ∧ (!s.toList.isEmpty) = true ∧ s.toList ≠ [] ∧ (s.toList == []) = false := by
  rw [ByteArray.toList_eq]
  refine ⟨?_, ?_, h, ?_⟩ <;> cases hq : s.data.toList <;> simp_all

set_option maxRecDepth 100000 in
set_option maxHeartbeats 2000000 in
theorem hasPathForm_any (s : ByteArray) (w : World) (hs : s.size ≤ maxLen) : Calls Tryz.prog 141 #[.string s] w fun e w' => e = .returned (.bool (formB s.data.toList)) ∧ Below w.heap.size w w' := by
  have HS := Lib.hid hs
  unfold maxLen at hs
  refine (callsIn_wide (n := 6)).1 ?_
  refine callsIn_of_wp_marks Tryz.func141 rfl trivial ?_ rfl
  simp only [Tryz.ntmps141, List.size_toArray, List.length_cons, List.length_nil, Nat.reduceAdd, Nat.reduceSub, Array.replicate_succ, Array.replicate_zero, List.push_toArray, List.append_toArray, List.nil_append, List.cons_append]
  gi_wp2_with (refine ⟨trivial, ?_⟩; gi_at_call 122; refine (partsIn_in Fence.wide _ trivial rfl _ _).mono ?_; rintro e w' ⟨rfl, rfl⟩)
  have bR := Boxed.new w 4 (.bool false)
  have bS := Boxed.new (w.alloc (.cells #[.bool false] 4)) 9 (.string s)
  rw [World.size_alloc] at bS
  have hB0 : Below w.heap.size w ((w.alloc (.cells #[.bool false] 4)).alloc (.cells #[.string s] 9)) := ((Below.refl _ w).alloc (Nat.le_refl _) _).alloc (by simp) _
  refine wpIn_rangeFunc_ownF rfl (by omega) (gf := 143) (lb := #[.pointer (some ⟨w.heap.size + 1, 0, none⟩)]) rfl trivial (enters_of Tryz.func143 (by kernel_rfl) rfl)
    (iter_stops Fence.wide (6 - 1) trivial rfl (by omega) (w.heap.size + 1) s HS.out _ (by simp) bS.cell) kpB_t (kpB_b (by simp)) (Below.refl _ _) (fun _ => rfl)
    (fun pre W => ((pre.all fun x => partB x.data.toList) = true ∧ Boxed W w.heap.size 4 (.bool false) ∧ Boxed W (w.heap.size + 1) 9 (.string s)) ∧ Below w.heap.size w W)
    (fun c pre W => (c = .ret ∧ (pre.all fun x => partB x.data.toList) = false ∧ Boxed W w.heap.size 4 (.bool false)) ∧ Below w.heap.size w W)
    (OwnFrom.and (OwnFrom.and (ownFrom_pure _ _) (OwnFrom.and (Own.from (boxed_own _ _ _) _) (Own.from (boxed_own _ _ _) _))) (ownFrom_below (Nat.le_refl _) (by simp; omega)))
    (fun c => OwnFrom.and (OwnFrom.and (ownFrom_pure _ (fun _ => c = .ret)) (OwnFrom.and (ownFrom_pure _ _) (Own.from (boxed_own _ _ _) _))) (ownFrom_below (Nat.le_refl _) (by simp; omega)))
    ⟨⟨rfl, bR.alloc _, bS⟩, hB0⟩
    ?a1 ?assign ?body ?done ?stop
  case assign =>
    intro l x W K hK
    gi_wp2
    exact hK
  case body =>
    rintro l pre x W ⟨⟨hp, hbx, hbs⟩, hB⟩ _
    have HPr := Lib.hid hp
    clear hp
    by_cases hx : partB x.data.toList = true
    · have HX := Lib.hid hx
      clear hx
      gi_wp2_with (refine ⟨trivial, ?_⟩; gi_at_call 158; refine (CallsIn.inRound l (callsIn_wide.2 (isPart_any _ _))).mono ?_; rintro e w' ⟨rfl, hb⟩; rw [HX.out])
      exact ⟨others_below hb, kpB_below (others_below hb) hb hbs.lt, ⟨by rw [List.all_append, HPr.out]; simp [HX.out], boxed_below hbx hb, boxed_below hbs hb⟩, hB.trans (hb.mono hB.size)⟩
    · have HX := Lib.hid (show partB x.data.toList = false by simpa using hx)
      clear hx
      gi_wp2_with (refine ⟨trivial, ?_⟩; gi_at_call 158; refine (CallsIn.inRound l (callsIn_wide.2 (isPart_any _ _))).mono ?_; rintro e w' ⟨rfl, hb⟩; rw [HX.out]; have hbx2 := boxed_below hbx hb; have hc := hbx2.cell; have hf := hbx2.frozen)
      exact ⟨(others_below hb).trans (KeepsOthers.setCell _ _ _), ⟨rfl, by rw [List.all_append]; simp [HX.out], (boxed_below hbx hb).set _⟩, (hB.trans (hb.mono hB.size)).setCell (p := ⟨w.heap.size, 0, none⟩) (Nat.le_refl _) _⟩
  case done =>
    rintro D ys W hD rfl ⟨⟨hp, hbx, hbs⟩, hB⟩ hK
    have HPr := Lib.hid hp
    clear hp
    by_cases h0 : s.data.toList = []
    · have h1 : s = ⟨#[]⟩ := by rw [← bs_of s, h0]; rfl
      subst h1
      clear h0
      have hc := hbx.cell
      have hf := hbx.frozen
      gi_wp2
      have hK' := (KeepsOthers.setCell W ⟨w.heap.size, 0, none⟩ (.bool false)).same D _ hK rfl
      refine ⟨by simp, .inl ⟨_, _, rfl, run_takeDeferred hK', ?_⟩⟩
      have hc5 := cell_kept (hbx.set (.bool false)).cell (grownBy_putObj' _ D (.deferred none)) (fun r e => by cases e; exact ⟨_, hK', rfl⟩)
      refine ⟨.bool false, ?_, ret_bool ?_, (hB.setCell (p := ⟨w.heap.size, 0, none⟩) (Nat.le_refl _) _).trans (belowK_b (w := w) (Nat.le_refl _) _ D _ _ (by simp at hD; omega) hK' rfl rfl)⟩
      · simp [results, Tryz.f141, go_sem, hc5]
      · rfl

    · obtain ⟨z1, z2, z3, z4⟩ := text_some h0
      have HF := Lib.hid (form_some h0)
      clear h0
      have hc := hbx.cell
      have hf := hbx.frozen
      gi_wp2
      have hK' := (KeepsOthers.setCell W ⟨w.heap.size, 0, none⟩ (.bool true)).same D _ hK rfl
      refine ⟨by simp, .inl ⟨_, _, rfl, run_takeDeferred hK', ?_⟩⟩
      have hc5 := cell_kept (hbx.set (.bool true)).cell (grownBy_putObj' _ D (.deferred none)) (fun r e => by cases e; exact ⟨_, hK', rfl⟩)
      refine ⟨.bool true, ?_, ret_bool ?_, (hB.setCell (p := ⟨w.heap.size, 0, none⟩) (Nat.le_refl _) _).trans (belowK_b (w := w) (Nat.le_refl _) _ D _ _ (by simp at hD; omega) hK' rfl rfl)⟩
      · simp [results, Tryz.f141, go_sem, hc5]
      · rw [HF.out, ← all_bs, HPr.out]

  case stop =>
    rintro D c pre W hD hpre ⟨⟨rfl, hp, hbx⟩, hB⟩ hK
    have HPr := Lib.hid hp
    have HPx := Lib.hid hpre
    clear hp hpre
    gi_wp2
    refine ⟨by simp, .inl ⟨_, _, rfl, run_takeDeferred hK, ?_⟩⟩
    have hc5 := cell_kept hbx.cell (grownBy_putObj' _ D (.deferred none)) (fun r e => by cases e; exact ⟨_, hK, rfl⟩)
    refine ⟨.bool false, ?_, ret_bool ?_, hB.trans (belowK_b (w := w) (Nat.le_refl _) W D _ _ (by simp at hD; omega) hK rfl rfl)⟩
    · simp [results, Tryz.f141, go_sem, hc5]
    · symm
      refine form_bad ?_
      rw [← all_bs]
      obtain ⟨t, ht⟩ := HPx.out
      rw [← ht, List.all_append, HPr.out, Bool.false_and]

set_option maxHeartbeats 1000000 in
theorem goodPath_any (s : ByteArray) (w : World) (hs : s.size ≤ maxLen) : Calls Tryz.prog 119 #[.string s] w fun e w' => e = .returned (.bool (goodB s.data.toList)) ∧ Below w.heap.size w w' := by
  have HS := Lib.hid hs
  have HG := Lib.hid (good_form s.data.toList)
  have hl : s.data.toList.length = s.size := len_size s
  rw [hl] at HG
  unfold maxLen at hs
  by_cases h60 : s.size ≤ 60
  · have HV : Hid (goodB s.data.toList = formB s.data.toList) := Lib.hid (by rw [HG.out]; simp [h60])
    have h9 : (s.size : Int) ≤ 60 := by omega
    clear hl
    go_enter Tryz.func119, Tryz.ntmps119
    go_wp2_with fail
    refine (hasPathForm_any s _ HS.out).mono ?_
    rintro e w1 ⟨rfl, hb1⟩
    go_wp2
    all_goals
      go_ret
      exact ⟨ret_bool (by rw [HV.out]; try simp [*]), hb1⟩
  · have HV : Hid (goodB s.data.toList = false) := Lib.hid (by rw [HG.out]; simp [h60])
    have h9 : ¬ ((s.size : Int) ≤ 60) := by omega
    clear hl
    go_enter Tryz.func119, Tryz.ntmps119
    go_wp2
    go_ret
    exact ⟨ret_bool HV.out.symm, Below.refl _ _⟩
end Go.Proofs.YtpkmkpeabfmbiaaGreatDoor
