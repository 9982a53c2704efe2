/-
  Joined: MarkF NewA MarkG MarkH MarkI AnsM.
  Conditions: as each states.
-/
import Derived.Test.YtjomkjnpflebaaaGreatDoorLib1
import Derived.Test.YtjomkjnpflebaaaGreatDoorLib2
import Derived.Test.YtjomkjnpflebaaaGreatDoorLib10
import Derived.Test.YtjomkjnpflebaaaGreatDoorLib17

/-
  Contracts of the laws' helpers markEntryS, markNodeS, markFs on a file system of the call's own: they return a number that is not negative, and write into the file system's own blocks alone.
  Conditions: at most 2^20 values and letters together.
-/
namespace Go.Proofs.YtjomkjnpflebaaaGreatDoor
open Go.ChangeShapes Go.WideShapes Go.ChangeAt Go.RowKit Go.Joins
set_option linter.unusedVariables false
set_option linter.unusedSimpArgs false

/-- Block G holds n cells at least, of elements of type T, none frozen. -/
def Shp (w : World) (G n : Nat) (T : TypeId) : Prop := ∃ cs, w.heap[G]? = some (.cells cs T (0, 0)) ∧ n ≤ cs.size
theorem Shp.lt {w : World} {G n : Nat} {T : TypeId} (h : Shp w G n T) : G < w.heap.size := by
  obtain ⟨cs, hg, _⟩ := h
  exact (Array.getElem?_eq_some_iff.1 hg).1
theorem Shp.set {w : World} {G n : Nat} {T : TypeId} (h : Shp w G n T) (H j : Nat) (u : Value) : Shp (w.setCell ⟨H, j, none⟩ u) G n T := by
  obtain ⟨cs, hg, hs⟩ := h
  by_cases e : G = H
  · subst e
    exact ⟨_, heap_setCell_same w G j cs T u hg, by simpa using hs⟩
  · exact ⟨cs, (Below.heap_setCell w ⟨H, j, none⟩ u G e).trans hg, hs⟩
theorem Shp.below {w w' : World} {G n : Nat} {T : TypeId} (h : Shp w G n T) (hb : Below w.heap.size w w') : Shp w' G n T := by
  obtain ⟨cs, hg, hs⟩ := h
  exact ⟨cs, (hb.block G (Array.getElem?_eq_some_iff.1 hg).1).trans hg, hs⟩
theorem Shp.cell {w : World} {G n : Nat} {T : TypeId} (h : Shp w G n T) {j : Nat} (hj : j < n) : ∃ u, w.cell? ⟨G, j, none⟩ = some u := by
  obtain ⟨cs, hg, hs⟩ := h
  exact ⟨cs[j], by simp [World.cell?, hg, show j < cs.size by omega]⟩
theorem Shp.frozen {w : World} {G n : Nat} {T : TypeId} (h : Shp w G n T) (j : Nat) : w.frozen? ⟨G, j, none⟩ = false := by
  obtain ⟨cs, hg, _⟩ := h
  exact frozen_of_row w G j cs T hg
theorem Shp.ne {w : World} {G H n m : Nat} {T U : TypeId} (h : Shp w G n T) (k : Shp w H m U) (hT : T ≠ U) : G ≠ H := by
  rintro rfl
  obtain ⟨cs, hg, _⟩ := h
  obtain ⟨ds, hd, _⟩ := k
  rw [hg] at hd
  cases hd
  exact hT rfl
theorem cell_set_ne {w : World} {G i j : Nat} {u : Value} (h : i ≠ j) : (w.setCell ⟨G, j, none⟩ u).cell? ⟨G, i, none⟩ = w.cell? ⟨G, i, none⟩ :=
  World.cell?_setCell_other _ _ _ _ (fun e => h (by cases e; rfl))
/-- From B on and ahead of E alone something was written; every block keeps its shape. -/
structure Wr (B E : Nat) (w w' : World) : Prop where
  bel : Below B w w'
  up : ∀ i, E ≤ i → i < w.heap.size → w'.heap[i]? = w.heap[i]?
  shp : ∀ G n T, Shp w G n T → Shp w' G n T
theorem Wr.refl (B E : Nat) (w : World) : Wr B E w w := ⟨Below.refl _ _, fun _ _ _ => rfl, fun _ _ _ h => h⟩
theorem Wr.trans {B E : Nat} {a b c : World} (h : Wr B E a b) (k : Wr B E b c) : Wr B E a c := ⟨h.bel.trans k.bel, fun i h1 h2 => (k.up i h1 (Nat.lt_of_lt_of_le h2 h.bel.size)).trans (h.up i h1 h2), fun G n T x => k.shp G n T (h.shp G n T x)⟩
theorem Wr.set {B E : Nat} {a b : World} (h : Wr B E a b) {H : Nat} (hH : B ≤ H) (hE : H < E) (j : Nat) (u : Value) : Wr B E a (b.setCell ⟨H, j, none⟩ u) := ⟨h.bel.setCell (p := ⟨H, j, none⟩) hH u, fun i h1 h2 => (Below.heap_setCell b ⟨H, j, none⟩ u i (by simp only; omega)).trans (h.up i h1 h2), fun G n T x => (h.shp G n T x).set H j u⟩
theorem Wr.below {B E : Nat} {a b c : World} (h : Wr B E a b) (hB : B ≤ b.heap.size) (k : Below b.heap.size b c) : Wr B E a c := ⟨h.bel.trans (k.mono hB), fun i h1 h2 => (k.block i (Nat.lt_of_lt_of_le h2 h.bel.size)).trans (h.up i h1 h2), fun G n T x => (h.shp G n T x).below k⟩

set_option maxHeartbeats 2000000 in
theorem markEntryS_shp (G n c B E k : Nat) (w : World) (hs : Shp w G (n * 2) 112) (hnc : n ≤ c) (hcm : c ≤ maxLen) (hB : B ≤ G) (hGE : G < E) (hBw : B ≤ w.heap.size) (hk : 1 ≤ k) (hkn : k + n * 2 ≤ 90000000) : Calls Tryz.prog 67 #[.slice (some ⟨G, 0, none⟩) n c, .int .i64 (k : Int)] w fun e w' => e = .returned (.int .i64 ((k + n * 2 : Nat) : Int)) ∧ Wr B E w w' ∧ ∀ b, b < w.heap.size → b ≠ G → w'.heap[b]? = w.heap[b]? := by
  have HS := Lib.hid hs
  clear hs
  unfold maxLen at hcm
  go_enter Tryz.func67, Tryz.ntmps67
  go_wp2
  go_loopw [1, 5] (fun t i wr => ∃ j : Nat, j ≤ n ∧ i = .int .i64 j ∧ t = .int .i64 ((k + j * 2 : Nat) : Int) ∧ Wr B E w wr ∧ ∀ b, b < w.heap.size → b ≠ G → wr.heap[b]? = w.heap[b]?) (fun _ i _ => n - (intOf i).toNat)
  case atStart => exact ⟨0, Nat.zero_le _, rfl, by simp, Wr.refl _ _ _, fun _ _ _ => rfl⟩
  case round =>
    obtain ⟨j, hj, rfl, rfl, hW, hO⟩ := hrel
    have HW := Lib.hid hW
    have HO := Lib.hid hO
    have hsz := hW.bel.size
    clear hW hO
    by_cases hlt : j < n
    · go_wp2_with fail
      refine (markText_any (k + j * 2) _ (by omega) (by omega)).mono ?_
      rintro e w1 ⟨rfl, hb1⟩
      have hs1 := (HW.out.shp _ _ _ HS.out).below hb1
      obtain ⟨u0, c0⟩ := hs1.cell (j := j * 2) (by omega)
      have f0 := hs1.frozen
      have HW1 := Lib.hid (HW.out.below (Nat.le_trans hBw HW.out.bel.size) hb1)
      have HO1 : Hid (∀ b, b < w.heap.size → b ≠ G → w1.heap[b]? = w.heap[b]?) := Lib.hid (fun b hb hn => (hb1.block b (by omega)).trans (HO.out b hb hn))
      have hs2 := hs1.set G (j * 2) (.string (mt (k + j * 2)))
      obtain ⟨u1, c1⟩ := hs1.cell (j := j * 2 + 1) (by omega)
      clear hb1 hs1 hs2
      go_wp2
      go_roundw
      case rel =>
        refine ⟨j + 1, hlt, by go_num, by go_num, (HW1.out.set hB hGE _ _).set hB hGE _ _, fun b hb hn => ?_⟩
        rw [Below.heap_setCell _ ⟨G, _, none⟩ _ b hn, Below.heap_setCell _ ⟨G, _, none⟩ _ b hn]
        exact HO1.out b hb hn
      case measure => simp [intOf]; omega
    · obtain rfl : j = n := by omega
      go_wp2
      go_ret
      exact ⟨rfl, HW.out, HO.out⟩
theorem markText_int (z : Int) (w : World) (h0 : 1 ≤ z) (h1 : z ≤ 100000000) : Calls Tryz.prog 66 #[.int .i64 z] w fun e w' => ∃ x, e = .returned (.string x) ∧ Below w.heap.size w w' := by
  obtain ⟨m, rfl⟩ : ∃ m : Nat, z = m := ⟨z.toNat, by omega⟩
  exact (markText_any m w (by omega) (by omega)).mono fun e w' ⟨h, h'⟩ => ⟨_, h, h'⟩
theorem markEntryS_int (G n c B E : Nat) (z : Int) (w : World) (hs : Shp w G (n * 2) 112) (hnc : n ≤ c) (hcm : c ≤ maxLen) (hB : B ≤ G) (hGE : G < E) (hBw : B ≤ w.heap.size) (hk : 1 ≤ z) (hkn : z + n * 2 ≤ 90000000) : Calls Tryz.prog 67 #[.slice (some ⟨G, 0, none⟩) n c, .int .i64 z] w fun e w' => e = .returned (.int .i64 (z + n * 2)) ∧ Wr B E w w' ∧ ∀ b, b < w.heap.size → b ≠ G → w'.heap[b]? = w.heap[b]? := by
  obtain ⟨m, rfl⟩ : ∃ m : Nat, z = m := ⟨z.toNat, by omega⟩
  exact (markEntryS_shp G n c B E m w hs hnc hcm hB hGE hBw (by omega) (by omega)).mono fun e w' ⟨h, h'⟩ => ⟨by rw [h]; rfl, h'⟩
/-- A list's value whose cells lie in a block from B on. -/
def LShp (w : World) (B E : Nat) (lv : Value) (m : Nat) : Prop := ∃ H c, lv = .slice (some ⟨H, 0, none⟩) m c ∧ m ≤ c ∧ c ≤ maxLen ∧ (B ≤ H ∧ H < E) ∧ Shp w H (m * 2) 112
def cntM (ms : List Nat) : Nat := (ms.map fun m => 6 + m * 2).sum
theorem cntM_take {ms : List Nat} {k : Nat} (h : k < ms.length) : cntM (ms.take (k + 1)) = cntM (ms.take k) + (6 + ms[k] * 2) := by
  unfold cntM; rw [List.take_succ_eq_append_getElem h]; simp only [List.map_append, List.sum_append, List.map_cons, List.map_nil, List.sum_cons, List.sum_nil, Nat.add_zero]
theorem cntM_pre (ms : List Nat) (k : Nat) : cntM (ms.take k) ≤ cntM ms := by
  conv => rhs; rw [← List.take_append_drop k ms]
  unfold cntM; rw [List.map_append, List.sum_append]; omega

set_option maxHeartbeats 4000000 in
theorem markNodeS_shp (G c B E : Nat) (ms : List Nat) (w : World) (hs : Shp w G (ms.length * 7) 52) (hL : ∀ i (h : i < ms.length), ∃ lv, w.cell? ⟨G, i * 7 + 6, none⟩ = some lv ∧ LShp w B E lv ms[i]) (hnc : ms.length ≤ c) (hcm : c ≤ maxLen) (hB : B ≤ G) (hGE : G < E) (hBw : B ≤ w.heap.size) (hkn : cntM ms ≤ 80000000) : Calls Tryz.prog 38 #[.slice (some ⟨G, 0, none⟩) ms.length c, .int .i64 1] w fun e w' => e = .returned (.int .i64 (1 + (cntM ms : Int))) ∧ Wr B E w w' := by
  have HS := Lib.hid hs
  have HL := Lib.hid hL
  clear hL hs
  unfold maxLen at hcm
  go_enter Tryz.func38, Tryz.ntmps38
  go_wp2
  go_loopw [1, 5] (fun t i wr => ∃ j : Nat, j ≤ ms.length ∧ i = .int .i64 j ∧ t = .int .i64 (1 + (cntM (ms.take j) : Int)) ∧ Wr B E w wr ∧ ∀ i (h : i < ms.length), wr.cell? ⟨G, i * 7 + 6, none⟩ = w.cell? ⟨G, i * 7 + 6, none⟩) (fun _ i _ => ms.length - (intOf i).toNat)
  case atStart => exact ⟨0, Nat.zero_le _, rfl, by simp [cntM], Wr.refl _ _ _, fun _ _ => rfl⟩
  case round =>
    obtain ⟨j, hj, rfl, rfl, hW, hC⟩ := hrel
    have HW := Lib.hid hW
    have HC := Lib.hid hC
    have hsz := hW.bel.size
    clear hW hC
    by_cases hlt : j < ms.length
    · obtain ⟨lv, hlv, H, c9, rfl, hm9, hc9, hB9, hS9⟩ := HL.out j hlt
      have HT := Lib.hid (cntM_take hlt)
      have hpre := cntM_pre ms (j + 1)
      rw [HT.out] at hpre
      have hsr := HW.out.shp _ _ _ HS.out
      obtain ⟨u0, c0⟩ := hsr.cell (j := j * 7) (by omega)
      obtain ⟨u1, c1⟩ := hsr.cell (j := j * 7 + 1) (by omega)
      obtain ⟨u2, c2⟩ := hsr.cell (j := j * 7 + 2) (by omega)
      obtain ⟨u3, c3⟩ := hsr.cell (j := j * 7 + 3) (by omega)
      obtain ⟨u4, c4⟩ := hsr.cell (j := j * 7 + 4) (by omega)
      have cf := hsr.frozen
      have hne9 : H ≠ G := fun e => (Shp.ne HS.out hS9 (by decide)) e.symm
      have HSR := Lib.hid hsr
      have HS9 := Lib.hid hS9
      have HLV := Lib.hid hlv
      obtain ⟨x0, hx0⟩ : ∃ x0 : Int, x0 = 1 + (cntM (ms.take j) : Int) := ⟨_, rfl⟩
      have HX0 := Lib.hid hx0
      have hx1 : 1 ≤ x0 := by omega
      have hx2 : x0 + 6 + ms[j] * 2 ≤ 80000001 := by rw [hx0]; omega
      rw [← hx0]
      clear hsr hS9 hlv hx0
      go_wp2_with fail
      refine (markText_int _ _ (by omega) (by omega)).mono ?_
      rintro e w1 ⟨x, rfl, hb1⟩
      have hs1 := (((((HSR.out.set G _ _).set G _ _).set G _ _).set G _ _).set G _ _).below hb1
      have hW1 := (((((HW.out.set hB hGE _ _).set hB hGE _ _).set hB hGE _ _).set hB hGE _ _).set hB hGE _ _).below (by simp; omega) hb1
      have hC1 : ∀ i (h : i < ms.length), w1.cell? ⟨G, i * 7 + 6, none⟩ = w.cell? ⟨G, i * 7 + 6, none⟩ := fun i h => by
        have h9 := hb1.cell (p := ⟨G, i * 7 + 6, none⟩) (by simpa using HSR.out.lt)
        rw [h9, cell_set_ne (by omega), cell_set_ne (by omega), cell_set_ne (by omega), cell_set_ne (by omega), cell_set_ne (by omega)]
        exact HC.out i h
      obtain ⟨u5, c5⟩ := hs1.cell (j := j * 7 + 5) (by omega)
      have cf1 := hs1.frozen
      have c6 : w1.cell? ⟨G, j * 7 + 6, none⟩ = some (.slice (some ⟨H, 0, none⟩) ms[j] c9) := (hC1 j hlt).trans HLV.out
      have HW2 : Hid (Wr B E w (w1.setCell ⟨G, j * 7 + 5, none⟩ (.string x))) := Lib.hid (hW1.set hB hGE _ _)
      have HC2 : Hid (∀ i (h : i < ms.length), (w1.setCell ⟨G, j * 7 + 5, none⟩ (.string x)).cell? ⟨G, i * 7 + 6, none⟩ = w.cell? ⟨G, i * 7 + 6, none⟩) := Lib.hid (fun i h => by rw [cell_set_ne (by omega)]; exact hC1 i h)
      have HGl : Hid (G < (w1.setCell ⟨G, j * 7 + 5, none⟩ (.string x)).heap.size) := Lib.hid (by simpa using hs1.lt)
      clear hs1 hW1 hC1 hb1 c0 c1 c2 c3 c4 cf
      go_wp2_with fail
      refine (markEntryS_int H ms[j] c9 B E _ _ (HW2.out.shp _ _ _ HS9.out) hm9 hc9 hB9.1 hB9.2 (Nat.le_trans hBw HW2.out.bel.size) (by omega) (by omega)).mono ?_
      rintro e w3 ⟨rfl, hW3, hO3⟩
      have HW3 := Lib.hid (HW2.out.trans hW3)
      have HC3 : Hid (∀ i (h : i < ms.length), w3.cell? ⟨G, i * 7 + 6, none⟩ = w.cell? ⟨G, i * 7 + 6, none⟩) := Lib.hid (fun i h => by
        rw [← HC2.out i h]
        have h9 := hO3 G HGl.out (fun e => hne9 e.symm)
        unfold World.cell?
        rw [h9])
      clear hW3 hO3
      go_wp2
      go_roundw
      case rel => exact ⟨j + 1, hlt, by go_num, by rw [HT.out, HX0.out]; congr 1; push_cast; omega, HW3.out, HC3.out⟩
      case measure => simp [intOf]; omega
    · obtain rfl : j = ms.length := by omega
      have HT : Hid (ms.take ms.length = ms) := Lib.hid (List.take_of_length_le (Nat.le_refl _))
      go_wp2
      go_ret
      exact ⟨ret_int (by rw [HT.out]), HW.out⟩

theorem RowAt.shp {w : World} {G n : Nat} {T : TypeId} {F : Nat → Value} (h : RowAt w G n T F) : Shp w G n T := by
  obtain ⟨cur, hg, hs, _⟩ := h
  exact ⟨cur, hg, hs⟩
theorem cnt_le (ns : List Nod) : cntM (ns.map fun n => n.list.length) ≤ 6 * ns.length + 2 * szNs ns := by
  unfold cntM szNs szN
  induction ns with
  | nil => simp
  | cons a r ih => simp only [List.map_cons, List.sum_cons, List.length_cons] at ih ⊢; omega
set_option maxRecDepth 100000 in
set_option maxHeartbeats 2000000 in
theorem markFs_own (f : FsD) (v : Value) (B : Nat) (w0 w : World) (hO : FsOwn w0 B v f) (hb0 : Below w0.heap.size w0 w) (hB0 : B ≤ w0.heap.size) (hs : szF f ≤ 1048576) : Calls Tryz.prog 16 #[v, .int .i64 1] w fun e w' => ∃ k : Int, 0 ≤ k ∧ k ≤ 100000000 ∧ e = .returned (.int .i64 k) ∧ Below B w w' ∧ ∀ i, w0.heap.size ≤ i → i < w.heap.size → w'.heap[i]? = w.heap[i]? := by
  have hBw : B ≤ w.heap.size := Nat.le_trans hB0 hb0.size
  obtain ⟨E, hEE⟩ : ∃ E, E = w0.heap.size := ⟨_, rfl⟩
  obtain ⟨nv, rfl, G, c, ps, rfl, hlc, hcm, hBG, hps, hr, hE⟩ := hO
  have hlp : ps.length = f.nodes.length := by rw [← hps]; simp
  have hml : (f.nodes.map fun n => n.list.length).length = f.nodes.length := by simp
  have hcnt : cntM (f.nodes.map fun n => n.list.length) ≤ 80000000 := by
    have h1 := cnt_le f.nodes
    unfold szF at hs
    omega
  have HSH := Lib.hid (hr.shp.below hb0)
  have hGE : G < E := by rw [hEE]; exact hr.lt
  have HLS : Hid (∀ i (h : i < (f.nodes.map fun n => n.list.length).length), ∃ lv, w.cell? ⟨G, i * 7 + 6, none⟩ = some lv ∧ LShp w B E lv (f.nodes.map fun n => n.list.length)[i]) := Lib.hid (fun i hi => by
    rw [hml] at hi
    have hip : i < ps.length := by omega
    have hn : (ps[i]).1 = f.nodes[i] := by
      have : (ps.map Prod.fst)[i]'(by simpa using hip) = f.nodes[i] := by simp [hps]
      rw [← this]; simp
    have hcell := hr.cell (j := i * 7 + 6) (by omega)
    have e1 : (i * 7 + 6) / 7 = i := by omega
    have e2 : (i * 7 + 6) % 7 = 6 := by omega
    refine ⟨(ps[i]).2, ?_, ?_⟩
    · rw [hb0.cell (p := ⟨G, i * 7 + 6, none⟩) hr.lt, hcell]
      unfold nodsF
      rw [e1, e2, List.getElem?_eq_getElem hip]
      rfl
    · obtain ⟨H, c9, e9, h1, h2, h3, hrr⟩ := hE _ (List.getElem_mem hip)
      rw [hn] at e9 h1 hrr
      simp only [List.getElem_map]
      exact ⟨H, c9, e9, h1, h2, ⟨by omega, by rw [hEE]; exact hrr.lt⟩, hrr.shp.below hb0⟩)
  have HWA : Hid (∀ o, Wr B E w (w.alloc o)) := Lib.hid (fun o => (Wr.refl B E w).below hBw ((Below.refl _ _).alloc (Nat.le_refl _) o))
  have HCA : Hid (∀ o i, (w.alloc o).cell? ⟨G, i, none⟩ = w.cell? ⟨G, i, none⟩) := Lib.hid (fun o i => ((Below.refl _ w).alloc (Nat.le_refl _) o).cell (p := ⟨G, i, none⟩) (Nat.lt_of_lt_of_le hr.lt hb0.size))
  obtain ⟨ms, hms⟩ : ∃ ms, ms = f.nodes.map fun n => n.list.length := ⟨_, rfl⟩
  rw [← hms] at HLS hcnt hml
  have hsh : Shp w G (ms.length * 7) 52 := by rw [hml]; exact HSH.out
  have HSM := Lib.hid hsh
  rw [← hml] at hlc ⊢
  clear hr hE hps hlp hms hsh hml
  go_enter Tryz.func16, Tryz.ntmps16
  go_wp2_with fail
  refine (markNodeS_shp G c B E ms _ ((HWA.out _).shp _ _ _ HSM.out) (fun i h => by
    obtain ⟨lv, h1, H, c9, e9, h2, h3, h4, h5⟩ := HLS.out i h
    exact ⟨lv, (HCA.out _ _).trans h1, H, c9, e9, h2, h3, h4, (HWA.out _).shp _ _ _ h5⟩) hlc hcm hBG hGE (Nat.le_trans hBw (HWA.out _).bel.size) hcnt).mono ?_
  rintro e w1 ⟨rfl, hW1⟩
  have HB1 := Lib.hid (((HWA.out _).trans hW1).bel)
  have HU1 : Hid (∀ i, w0.heap.size ≤ i → i < w.heap.size → w1.heap[i]? = w.heap[i]?) := Lib.hid (by rw [← hEE]; exact ((HWA.out _).trans hW1).up)
  clear hW1
  go_wp2
  go_ret
  exact ⟨_, by omega, by omega, rfl, HB1.out, HU1.out⟩
end Go.Proofs.YtjomkjnpflebaaaGreatDoor


/-
  Contracts around NewFs: markText's users on a file system of one node without entries, and on one without nodes; NewFs of the model and of the program.
  Conditions: as each states.
-/
namespace Go.Proofs.YtjomkjnpflebaaaGreatDoor
open Go.ChangeShapes Go.WideShapes Go.ChangeAt Go.RowKit Go.Joins
set_option linter.unusedVariables false
set_option linter.unusedSimpArgs false

set_option maxHeartbeats 400000 in
theorem markEntryS_nil (k : Int) (w : World) : Calls Tryz.prog 67 #[.slice none 0 0, .int .i64 k] w fun e w' => e = .returned (.int .i64 k) ∧ w = w' := by
  go_enter Tryz.func67, Tryz.ntmps67
  go_wp2
  go_rounds 1
  go_ret
  exact ⟨rfl, rfl⟩
set_option maxHeartbeats 400000 in
theorem heldEntryS_nil (k : Int) (w : World) : Calls Tryz.prog 68 #[.slice none 0 0, .int .i64 k] w fun e w' => e = .returned (.int .i64 k) ∧ w = w' := by
  go_enter Tryz.func68, Tryz.ntmps68
  go_wp2
  go_rounds 1
  go_ret
  exact ⟨rfl, rfl⟩
set_option maxHeartbeats 400000 in
theorem markNodeS_nil (k : Int) (w : World) : Calls Tryz.prog 38 #[.slice none 0 0, .int .i64 k] w fun e w' => e = .returned (.int .i64 k) ∧ w = w' := by
  go_enter Tryz.func38, Tryz.ntmps38
  go_wp2
  go_rounds 1
  go_ret
  exact ⟨rfl, rfl⟩
set_option maxHeartbeats 400000 in
theorem heldNodeS_nil (k : Int) (w : World) : Calls Tryz.prog 39 #[.slice none 0 0, .int .i64 k] w fun e w' => e = .returned (.int .i64 k) ∧ w = w' := by
  go_enter Tryz.func39, Tryz.ntmps39
  go_wp2
  go_rounds 1
  go_ret
  exact ⟨rfl, rfl⟩

/-- The cells of one node that bears the marks from 1 on, without entries. -/
def oneF (j : Nat) : Value := nodCell ⟨1, 2, 3, 4, 5, 109 :: digs 6 [], []⟩ (.slice none 0 0) j
theorem mt6 : bs (109 :: digs 6 []) = mt 6 := rfl

/-- No block but G has turned. -/
def OnlyB (w w' : World) (G : Nat) : Prop := w.heap.size ≤ w'.heap.size ∧ ∀ b, b < w.heap.size → b ≠ G → w'.heap[b]? = w.heap[b]?
theorem OnlyB.refl (w : World) (G : Nat) : OnlyB w w G := ⟨Nat.le_refl _, fun _ _ _ => rfl⟩
theorem OnlyB.trans {a b c : World} {G : Nat} (h : OnlyB a b G) (k : OnlyB b c G) : OnlyB a c G := ⟨Nat.le_trans h.1 k.1, fun i hi hn => (k.2 i (Nat.lt_of_lt_of_le hi h.1) hn).trans (h.2 i hi hn)⟩
theorem OnlyB.below {a b : World} (G : Nat) (h : Below a.heap.size a b) : OnlyB a b G := ⟨h.size, fun i hi _ => h.block i hi⟩
theorem OnlyB.set {a b : World} {G : Nat} (h : OnlyB a b G) (j : Nat) (u : Value) : OnlyB a (b.setCell ⟨G, j, none⟩ u) G := ⟨by simpa using h.1, fun i hi hn => (Below.heap_setCell b ⟨G, j, none⟩ u i hn).trans (h.2 i hi hn)⟩

set_option maxHeartbeats 4000000 in
theorem markNodeS_one (G B : Nat) (F : Nat → Value) (w : World) (hr : RowAt w G 7 52 F) (h6 : F 6 = .slice none 0 0) (hB : B ≤ G) (hBw : B ≤ w.heap.size) : Calls Tryz.prog 38 #[.slice (some ⟨G, 0, none⟩) 1 1, .int .i64 1] w fun e w' => e = .returned (.int .i64 7) ∧ RowAt w' G 7 52 oneF ∧ Below B w w' ∧ OnlyB w w' G := by
  have b0 := hr.cell (j := 0) (by omega)
  have b1 := hr.cell (j := 1) (by omega)
  have b2 := hr.cell (j := 2) (by omega)
  have b3 := hr.cell (j := 3) (by omega)
  have b4 := hr.cell (j := 4) (by omega)
  have bf := hr.frozen
  have HR := Lib.hid hr
  have hG := hr.lt
  have HW : Hid (∀ W, W = ((((w.setCell ⟨G, 0, none⟩ (.int .i64 1)).setCell ⟨G, 1, none⟩ (.int .i64 2)).setCell ⟨G, 2, none⟩ (.int .i64 3)).setCell ⟨G, 3, none⟩ (.int .i64 4)).setCell ⟨G, 4, none⟩ (.int .i64 5) →
      RowAt W G 7 52 (fun i => if i = 4 then .int .i64 5 else if i = 3 then .int .i64 4 else if i = 2 then .int .i64 3 else if i = 1 then .int .i64 2 else if i = 0 then .int .i64 1 else F i) ∧ Below B w W ∧ OnlyB w W G) := Lib.hid (by
    rintro W rfl
    refine ⟨((((hr.set 0 _).set 1 _).set 2 _).set 3 _).set 4 _, ?_, (((((OnlyB.refl w G).set 0 _).set 1 _).set 2 _).set 3 _).set 4 _⟩
    iterate 5 refine Below.setCell ?_ (by simpa using hB) _
    exact Below.refl _ _)
  have HF6 := Lib.hid h6
  clear hr h6
  go_enter Tryz.func38, Tryz.ntmps38
  go_wp2
  go_loopw [1, 5] (fun t i wr => (t = .int .i64 1 ∧ i = .int .i64 0 ∧ wr = w) ∨ (t = .int .i64 7 ∧ i = .int .i64 1 ∧ RowAt wr G 7 52 oneF ∧ Below B w wr ∧ OnlyB w wr G)) (fun _ i _ => 1 - (intOf i).toNat)
  case atStart => exact .inl ⟨rfl, rfl, rfl⟩
  case round =>
    rcases hrel with ⟨rfl, rfl, rfl⟩ | ⟨rfl, rfl, hr2, hB2, hO2⟩
    · go_wp2_with fail
      obtain ⟨hr5, hb5, ho5⟩ := HW.out _ rfl
      obtain ⟨W5, hW5⟩ : ∃ W5, ((((wr.setCell ⟨G, 0, none⟩ (.int .i64 1)).setCell ⟨G, 1, none⟩ (.int .i64 2)).setCell ⟨G, 2, none⟩ (.int .i64 3)).setCell ⟨G, 3, none⟩ (.int .i64 4)).setCell ⟨G, 4, none⟩ (.int .i64 5) = W5 := ⟨_, rfl⟩
      rw [hW5] at hr5 hb5 ho5 ⊢
      clear hW5
      refine (markText_any 6 _ (by omega) (by omega)).mono ?_
      rintro e w6 ⟨rfl, hb6⟩
      have hr6 := hr5.below hb6 hr5.lt
      have hB6 := hb5.trans (hb6.mono (Nat.le_trans hBw hb5.size))
      have c5 := hr6.cell (j := 5) (by omega)
      have c6 := hr6.cell (j := 6) (by omega)
      have cf := hr6.frozen
      simp only [show ((6 : Nat) = 4) = False by simp, show ((6 : Nat) = 3) = False by simp, show ((6 : Nat) = 2) = False by simp, show ((6 : Nat) = 1) = False by simp, show ((6 : Nat) = 0) = False by simp, if_false, HF6.out] at c6
      have HR7 : Hid (RowAt (w6.setCell ⟨G, 5, none⟩ (.string (mt 6))) G 7 52 oneF) := Lib.hid ((hr6.set 5 (.string (mt 6))).congr (fun j hj => by
        rcases (show j = 0 ∨ j = 1 ∨ j = 2 ∨ j = 3 ∨ j = 4 ∨ j = 5 ∨ j = 6 by omega) with rfl | rfl | rfl | rfl | rfl | rfl | rfl <;> first | rfl | (simp [HF6.out, oneF, nodCell])))
      have HB7 : Hid (Below B wr (w6.setCell ⟨G, 5, none⟩ (.string (mt 6)))) := Lib.hid (hB6.setCell (p := ⟨G, 5, none⟩) hB _)
      have HO7 : Hid (OnlyB wr (w6.setCell ⟨G, 5, none⟩ (.string (mt 6))) G) := Lib.hid ((ho5.trans (OnlyB.below G hb6)).set 5 _)
      have e6 := HR7.out.cell (j := 6) (by omega)
      have e6' : (w6.setCell ⟨G, 5, none⟩ (.string (mt 6))).cell? ⟨G, 6, none⟩ = some (.slice none 0 0) := e6
      clear hr5 hb5 ho5 hr6 hb6 hB6 e6
      go_wp2_with fail
      refine (markEntryS_nil _ _).mono ?_
      rintro e w8 ⟨rfl, rfl⟩
      go_wp2
      go_roundw
      case rel => exact .inr ⟨rfl, rfl, HR7.out, HB7.out, HO7.out⟩
      case measure => simp [intOf]
    · go_wp2
      go_ret
      exact ⟨rfl, hr2, hB2, hO2⟩
end Go.Proofs.YtjomkjnpflebaaaGreatDoor


/-
  Contracts of the laws' helpers markFs and heldFs on a file system in rows of the call's own: the marks are found again.
  Conditions: at most 2^20 values and letters together.
-/
namespace Go.Proofs.YtjomkjnpflebaaaGreatDoor
open Go.ChangeShapes Go.WideShapes Go.ChangeAt Go.RowKit Go.Joins
set_option linter.unusedVariables false
set_option linter.unusedSimpArgs false

/-- What the marks from k on are in a list of entries, cell by cell. -/
def mkE (k j : Nat) : Value := if j % 2 = 0 then .string (mt (k + j)) else .int .i64 ((k + j : Nat) : Int)
theorem mkE_name (k i : Nat) : mkE k (i * 2) = .string (mt (k + i * 2)) := by unfold mkE; rw [if_pos (by omega)]
theorem mkE_node (k i : Nat) : mkE k (i * 2 + 1) = .int .i64 ((k + i * 2 : Nat) + 1 : Int) := by unfold mkE; rw [if_neg (by omega)]; congr 1
theorem some_int {a b : Int} (h : a = b) : some (Value.int .i64 a) = some (Value.int .i64 b) := by rw [h]
/-- What they are in a node. -/
def mkN (k r : Nat) : Value := if r = 5 then .string (mt (k + 5)) else .int .i64 ((k + r : Nat) : Int)

theorem mkN_int {k r : Nat} {z : Int} (hr : r ≠ 5) (h : z = (k : Int) + r) : some (Value.int .i64 z) = some (mkN k r) := by
  unfold mkN; rw [if_neg hr]; exact some_int (by omega)

set_option maxHeartbeats 2000000 in
theorem markEntryS_val (G n c B E k : Nat) (w : World) (hs : Shp w G (n * 2) 112) (hnc : n ≤ c) (hcm : c ≤ maxLen) (hB : B ≤ G) (hGE : G < E) (hBw : B ≤ w.heap.size) (hk : 1 ≤ k) (hkn : k + n * 2 ≤ 90000000) : Calls Tryz.prog 67 #[.slice (some ⟨G, 0, none⟩) n c, .int .i64 (k : Int)] w fun e w' => e = .returned (.int .i64 ((k + n * 2 : Nat) : Int)) ∧ Wr B E w w' ∧ (∀ b, b < w.heap.size → b ≠ G → w'.heap[b]? = w.heap[b]?) ∧ ∀ i, i < n * 2 → w'.cell? ⟨G, i, none⟩ = some (mkE k i) := by
  have HS := Lib.hid hs
  clear hs
  unfold maxLen at hcm
  go_enter Tryz.func67, Tryz.ntmps67
  go_wp2
  go_loopw [1, 5] (fun t i wr => ∃ j : Nat, j ≤ n ∧ i = .int .i64 j ∧ t = .int .i64 ((k + j * 2 : Nat) : Int) ∧ Wr B E w wr ∧ (∀ b, b < w.heap.size → b ≠ G → wr.heap[b]? = w.heap[b]?) ∧ ∀ i, i < j * 2 → wr.cell? ⟨G, i, none⟩ = some (mkE k i)) (fun _ i _ => n - (intOf i).toNat)
  case atStart => exact ⟨0, Nat.zero_le _, rfl, by simp, Wr.refl _ _ _, fun _ _ _ => rfl, fun i hi => absurd hi (by omega)⟩
  case round =>
    obtain ⟨j, hj, rfl, rfl, hW, hO, hM⟩ := hrel
    have HW := Lib.hid hW
    have HO := Lib.hid hO
    have HM := Lib.hid hM
    have hsz := hW.bel.size
    clear hW hO hM
    by_cases hlt : j < n
    · go_wp2_with fail
      refine (markText_any (k + j * 2) _ (by omega) (by omega)).mono ?_
      rintro e w1 ⟨rfl, hb1⟩
      have hs1 := (HW.out.shp _ _ _ HS.out).below hb1
      obtain ⟨u0, c0⟩ := hs1.cell (j := j * 2) (by omega)
      have f0 := hs1.frozen
      have HW1 := Lib.hid (HW.out.below (Nat.le_trans hBw HW.out.bel.size) hb1)
      have HO1 : Hid (∀ b, b < w.heap.size → b ≠ G → w1.heap[b]? = w.heap[b]?) := Lib.hid (fun b hb hn => (hb1.block b (by omega)).trans (HO.out b hb hn))
      have HM1 : Hid (∀ i, i < j * 2 → w1.cell? ⟨G, i, none⟩ = some (mkE k i)) := Lib.hid (fun i hi => (hb1.cell (p := ⟨G, i, none⟩) (HW.out.shp _ _ _ HS.out).lt).trans (HM.out i hi))
      obtain ⟨u1, c1⟩ := hs1.cell (j := j * 2 + 1) (by omega)
      have HC0 := Lib.hid c0
      have HC1 := Lib.hid c1
      clear hb1 hs1
      go_wp2
      go_roundw
      case rel =>
        refine ⟨j + 1, hlt, by go_num, by go_num, (HW1.out.set hB hGE _ _).set hB hGE _ _, fun b hb hn => ?_, fun i hi => ?_⟩
        · rw [Below.heap_setCell _ ⟨G, _, none⟩ _ b hn, Below.heap_setCell _ ⟨G, _, none⟩ _ b hn]
          exact HO1.out b hb hn
        · rcases (show i < j * 2 ∨ i = j * 2 ∨ i = j * 2 + 1 by omega) with h1 | rfl | rfl
          · rw [cell_set_ne (by omega), cell_set_ne (by omega)]; exact HM1.out i h1
          · rw [cell_set_ne (by omega), World.cell?_setCell_same _ _ _ HC0.out, mkE_name]
          · rw [World.cell?_setCell_same _ _ _ ((cell_set_ne (by omega)).trans HC1.out), mkE_node]
            exact some_int (by omega)
      case measure => simp [intOf]; omega
    · obtain rfl : j = n := by omega
      go_wp2
      go_ret
      exact ⟨rfl, HW.out, HO.out, HM.out⟩

/-- A list's value: none, or cells in a block between B and E. -/
def LV (w : World) (B E : Nat) (lv : Value) (m : Nat) : Prop := (lv = .slice none 0 0 ∧ m = 0) ∨ LShp w B E lv m
/-- The marks from k on are in a list of m entries. -/
def EM (w : World) (lv : Value) (m k : Nat) : Prop := (lv = .slice none 0 0 ∧ m = 0) ∨ ∃ H c, lv = .slice (some ⟨H, 0, none⟩) m c ∧ m ≤ c ∧ c ≤ maxLen ∧ H < w.heap.size ∧ ∀ j, j < m * 2 → w.cell? ⟨H, j, none⟩ = some (mkE k j)
theorem EM.below {w w' : World} {lv : Value} {m k : Nat} (h : EM w lv m k) (hb : Below w.heap.size w w') : EM w' lv m k := by
  rcases h with h | ⟨H, c, rfl, h1, h2, h3, h4⟩
  · exact .inl h
  · exact .inr ⟨H, c, rfl, h1, h2, Nat.lt_of_lt_of_le h3 hb.size, fun j hj => (hb.cell (p := ⟨H, j, none⟩) h3).trans (h4 j hj)⟩
theorem EM.other {w w' : World} {lv : Value} {m k : Nat} (h : EM w lv m k) (hs : w.heap.size ≤ w'.heap.size) (hb : ∀ b, lv.ownBlock = some b → w'.heap[b]? = w.heap[b]?) : EM w' lv m k := by
  rcases h with h | ⟨H, c, rfl, h1, h2, h3, h4⟩
  · exact .inl h
  · refine .inr ⟨H, c, rfl, h1, h2, Nat.lt_of_lt_of_le h3 hs, fun j hj => ?_⟩
    rw [← h4 j hj]
    unfold World.cell?
    rw [hb H rfl]
theorem LV.wr {w w' : World} {B E : Nat} {lv : Value} {m : Nat} (h : LV w B E lv m) (hW : Wr B E w w') : LV w' B E lv m := by
  rcases h with h | ⟨H, c, e, h1, h2, h3, h4⟩
  · exact .inl h
  · exact .inr ⟨H, c, e, h1, h2, h3, hW.shp _ _ _ h4⟩
theorem markEntryS_lv (lv : Value) (m B E k : Nat) (w : World) (h : LV w B E lv m) (hBw : B ≤ w.heap.size) (hk : 1 ≤ k) (hkn : k + m * 2 ≤ 90000000) : Calls Tryz.prog 67 #[lv, .int .i64 (k : Int)] w fun e w' => e = .returned (.int .i64 ((k + m * 2 : Nat) : Int)) ∧ Wr B E w w' ∧ (∀ b, b < w.heap.size → lv.ownBlock ≠ some b → w'.heap[b]? = w.heap[b]?) ∧ EM w' lv m k := by
  rcases h with ⟨rfl, rfl⟩ | ⟨H, c, rfl, h1, h2, h3, h4⟩
  · refine (markEntryS_nil (k : Int) w).mono ?_
    rintro e w' ⟨rfl, rfl⟩
    exact ⟨rfl, Wr.refl _ _ _, fun _ _ _ => rfl, .inl ⟨rfl, rfl⟩⟩
  · refine (markEntryS_val H m c B E k w h4 h1 h2 h3.1 h3.2 hBw hk hkn).mono ?_
    rintro e w' ⟨rfl, hW, hO, hM⟩
    exact ⟨rfl, hW, fun b hb hn => hO b hb (fun e => hn (by rw [e]; rfl)), .inr ⟨H, c, rfl, h1, h2, Nat.lt_of_lt_of_le h4.lt hW.bel.size, hM⟩⟩

set_option maxHeartbeats 2000000 in
theorem heldEntryS_val (H m c k : Nat) (w : World) (hmc : m ≤ c) (hcm : c ≤ maxLen) (hH : H < w.heap.size) (hM : ∀ j, j < m * 2 → w.cell? ⟨H, j, none⟩ = some (mkE k j)) (hk : 1 ≤ k) (hkn : k + m * 2 ≤ 90000000) : Calls Tryz.prog 68 #[.slice (some ⟨H, 0, none⟩) m c, .int .i64 (k : Int)] w fun e w' => e = .returned (.int .i64 ((k + m * 2 : Nat) : Int)) ∧ Below w.heap.size w w' := by
  have HM := Lib.hid hM
  clear hM
  unfold maxLen at hcm
  go_enter Tryz.func68, Tryz.ntmps68
  go_wp2
  go_loopw [1, 5] (fun t i wr => ∃ j : Nat, j ≤ m ∧ i = .int .i64 j ∧ t = .int .i64 ((k + j * 2 : Nat) : Int) ∧ Below w.heap.size w wr) (fun _ i _ => m - (intOf i).toNat)
  case atStart => exact ⟨0, Nat.zero_le _, rfl, by simp, Below.refl _ _⟩
  case round =>
    obtain ⟨j, hj, rfl, rfl, hB⟩ := hrel
    by_cases hlt : j < m
    · have hc0 : wr.cell? ⟨H, j * 2, none⟩ = some (.string (mt (k + j * 2))) := (hB.cell (p := ⟨H, j * 2, none⟩) hH).trans ((HM.out _ (by omega)).trans (by rw [mkE_name]))
      have hc1 : wr.cell? ⟨H, j * 2 + 1, none⟩ = some (.int .i64 ((k + j * 2 : Nat) + 1 : Int)) := (hB.cell (p := ⟨H, j * 2 + 1, none⟩) hH).trans ((HM.out _ (by omega)).trans (by rw [mkE_node]))
      go_wp2
      have z0 := fun d os => cell_regrown (w := wr) hc0 d os
      refine wp_region_quiet_below (by kernel_rfl) (by kernel_rfl) ?_
      repeat (first | go_big_quiet_step ((go_at_call 66; exact Calls.regrown_of (markText_any (k + j * 2) _ (by omega) (by omega)))) | quiet_step ((go_at_call 66; exact Calls.regrown_of (markText_any (k + j * 2) _ (by omega) (by omega)))))
      refine wpQuiet_nil ?_
      intro w5 hwq
      have hb5 : Below wr.heap.size wr w5 := by
        obtain ⟨pp, rfl⟩ := hwq
        exact below_regrown _ _ _
      have hc5 : w5.cell? ⟨H, j * 2 + 1, none⟩ = some (.int .i64 ((k + j * 2 : Nat) + 1 : Int)) := (hb5.cell (p := ⟨H, j * 2 + 1, none⟩) (Nat.lt_of_lt_of_le hH hB.size)).trans hc1
      clear hwq z0 hc0 hc1
      go_wp2
      go_roundw
      case rel => exact ⟨j + 1, hlt, by go_num, by go_num, hB.trans (hb5.mono hB.size)⟩
      case measure => simp [intOf]; omega
    · obtain rfl : j = m := by omega
      go_wp2
      go_ret
      exact ⟨rfl, hB⟩
theorem heldEntryS_lv (lv : Value) (m k : Nat) (w : World) (h : EM w lv m k) (hk : 1 ≤ k) (hkn : k + m * 2 ≤ 90000000) : Calls Tryz.prog 68 #[lv, .int .i64 (k : Int)] w fun e w' => e = .returned (.int .i64 ((k + m * 2 : Nat) : Int)) ∧ Below w.heap.size w w' := by
  rcases h with ⟨rfl, rfl⟩ | ⟨H, c, rfl, h1, h2, h3, h4⟩
  · refine (heldEntryS_nil (k : Int) w).mono ?_
    rintro e w' ⟨rfl, rfl⟩
    exact ⟨rfl, Below.refl _ _⟩
  · exact heldEntryS_val H m c k w h1 h2 h3 h4 hk hkn
end Go.Proofs.YtjomkjnpflebaaaGreatDoor


/-
  Contracts of the laws' helpers markNodeS, heldNodeS, markFs and heldFs on a file system in rows of the call's own: the marks are found again.
  Conditions: at most 2^20 values and letters together.
-/
namespace Go.Proofs.YtjomkjnpflebaaaGreatDoor
open Go.ChangeShapes Go.WideShapes Go.ChangeAt Go.RowKit Go.Joins
set_option linter.unusedVariables false
set_option linter.unusedSimpArgs false

theorem markText_z (z : Int) (m : Nat) (w : World) (hz : z = (m : Int)) (h0 : 1 ≤ m) (h1 : m ≤ 100000000) : Calls Tryz.prog 66 #[.int .i64 z] w fun e w' => e = .returned (.string (mt m)) ∧ Below w.heap.size w w' := by
  subst hz; exact markText_any m w h0 h1
theorem markEntryS_z (z : Int) (lv : Value) (m B E k : Nat) (w : World) (hz : z = (k : Int)) (h : LV w B E lv m) (hBw : B ≤ w.heap.size) (hk : 1 ≤ k) (hkn : k + m * 2 ≤ 90000000) : Calls Tryz.prog 67 #[lv, .int .i64 z] w fun e w' => e = .returned (.int .i64 ((k + m * 2 : Nat) : Int)) ∧ Wr B E w w' ∧ (∀ b, b < w.heap.size → lv.ownBlock ≠ some b → w'.heap[b]? = w.heap[b]?) ∧ EM w' lv m k := by
  subst hz; exact markEntryS_lv lv m B E k w h hBw hk hkn
theorem heldEntryS_z (z : Int) (lv : Value) (m k : Nat) (w : World) (hz : z = (k : Int)) (h : EM w lv m k) (hk : 1 ≤ k) (hkn : k + m * 2 ≤ 90000000) : Calls Tryz.prog 68 #[lv, .int .i64 z] w fun e w' => e = .returned (.int .i64 ((k + m * 2 : Nat) : Int)) ∧ Below w.heap.size w w' := by
  subst hz; exact heldEntryS_lv lv m k w h hk hkn
theorem LV.below {w w' : World} {B E : Nat} {lv : Value} {m : Nat} (h : LV w B E lv m) (hb : Below w.heap.size w w') : LV w' B E lv m := by
  rcases h with h | ⟨H, c, e, h1, h2, h3, h4⟩
  · exact .inl h
  · exact .inr ⟨H, c, e, h1, h2, h3, h4.below hb⟩
theorem LV.lt {w : World} {B E : Nat} {lv : Value} {m b : Nat} (h : LV w B E lv m) (hb : lv.ownBlock = some b) : b < w.heap.size := by
  rcases h with ⟨rfl, -⟩ | ⟨H, c, rfl, h1, h2, h3, h4⟩
  · simp [Value.ownBlock] at hb
  · simp [Value.ownBlock] at hb; subst hb; exact h4.lt

set_option maxHeartbeats 8000000 in
theorem markNodeS_val (G c B E : Nat) (ms : List Nat) (L : Nat → Value) (w : World) (hs : Shp w G (ms.length * 7) 52) (hL : ∀ i (h : i < ms.length), w.cell? ⟨G, i * 7 + 6, none⟩ = some (L i) ∧ LV w B E (L i) ms[i] ∧ (L i).ownBlock ≠ some G)
    (hD : ∀ i j, i < ms.length → j < ms.length → i ≠ j → (L i).ownBlock = none ∨ (L i).ownBlock ≠ (L j).ownBlock) (hnc : ms.length ≤ c) (hcm : c ≤ maxLen) (hB : B ≤ G) (hGE : G < E) (hBw : B ≤ w.heap.size) (hkn : cntM ms ≤ 80000000) :
    Calls Tryz.prog 38 #[.slice (some ⟨G, 0, none⟩) ms.length c, .int .i64 1] w fun e w' => e = .returned (.int .i64 ((1 + cntM ms : Nat) : Int)) ∧ Wr B E w w' ∧
      (∀ i (h : i < ms.length), w'.cell? ⟨G, i * 7 + 6, none⟩ = some (L i) ∧ (∀ r, r < 6 → w'.cell? ⟨G, i * 7 + r, none⟩ = some (mkN (1 + cntM (ms.take i)) r)) ∧ EM w' (L i) ms[i] (1 + cntM (ms.take i) + 6)) := by
  have HS := Lib.hid hs
  have HL := Lib.hid hL
  have HD := Lib.hid hD
  clear hL hs hD
  unfold maxLen at hcm
  go_enter Tryz.func38, Tryz.ntmps38
  go_wp2
  go_loopw [1, 5] (fun t i wr => ∃ j : Nat, j ≤ ms.length ∧ i = .int .i64 j ∧ t = .int .i64 ((1 + cntM (ms.take j) : Nat) : Int) ∧ Wr B E w wr ∧ (∀ i (h : i < ms.length), wr.cell? ⟨G, i * 7 + 6, none⟩ = some (L i)) ∧ ∀ i (h : i < ms.length), i < j → (∀ r, r < 6 → wr.cell? ⟨G, i * 7 + r, none⟩ = some (mkN (1 + cntM (ms.take i)) r)) ∧ EM wr (L i) ms[i] (1 + cntM (ms.take i) + 6)) (fun _ i _ => ms.length - (intOf i).toNat)
  case atStart => exact ⟨0, Nat.zero_le _, rfl, by simp [cntM], Wr.refl _ _ _, fun i h => (HL.out i h).1, fun i _ h => absurd h (by omega)⟩
  case round =>
    obtain ⟨j, hj, rfl, rfl, hW, hC, hM⟩ := hrel
    have HW := Lib.hid hW
    have HC := Lib.hid hC
    have HM := Lib.hid hM
    have hsz := hW.bel.size
    clear hW hC hM
    by_cases hlt : j < ms.length
    · obtain ⟨hlv, hLV, hnG⟩ := HL.out j hlt
      have HT := Lib.hid (cntM_take hlt)
      have hpre := cntM_pre ms (j + 1)
      rw [HT.out] at hpre
      have hsr := HW.out.shp _ _ _ HS.out
      obtain ⟨u0, c0⟩ := hsr.cell (j := j * 7) (by omega)
      obtain ⟨u1, c1⟩ := hsr.cell (j := j * 7 + 1) (by omega)
      obtain ⟨u2, c2⟩ := hsr.cell (j := j * 7 + 2) (by omega)
      obtain ⟨u3, c3⟩ := hsr.cell (j := j * 7 + 3) (by omega)
      obtain ⟨u4, c4⟩ := hsr.cell (j := j * 7 + 4) (by omega)
      have cf := hsr.frozen
      have HSR := Lib.hid hsr
      have HLV := Lib.hid (hLV.wr HW.out)
      have HNG := Lib.hid hnG
      obtain ⟨s, hs⟩ : ∃ s, s = 1 + cntM (ms.take j) := ⟨_, rfl⟩
      have HSS := Lib.hid hs
      have hx1 : 1 ≤ s := by omega
      have hx2 : s + 6 + ms[j] * 2 ≤ 80000001 := by rw [hs]; omega
      rw [← hs]
      have HC0 := Lib.hid c0
      have HC1 := Lib.hid c1
      have HC2 := Lib.hid c2
      have HC3 := Lib.hid c3
      have HC4 := Lib.hid c4
      clear hsr hlv hLV hnG hs
      go_wp2_with fail
      refine (markText_z _ (s + 5) _ (by push_cast; omega) (by omega) (by omega)).mono ?_
      rintro e w1 ⟨rfl, hb1⟩
      have hs1 := (((((HSR.out.set G _ _).set G _ _).set G _ _).set G _ _).set G _ _).below hb1
      have hW1 := (((((HW.out.set hB hGE _ _).set hB hGE _ _).set hB hGE _ _).set hB hGE _ _).set hB hGE _ _).below (by simp; omega) hb1
      have h9 : ∀ i, w1.cell? ⟨G, i, none⟩ = _ := fun i => hb1.cell (p := ⟨G, i, none⟩) (by simpa using HSR.out.lt)
      have HN1 : Hid (∀ r, r < 5 → w1.cell? ⟨G, j * 7 + r, none⟩ = some (mkN s r)) := Lib.hid (by
        intro r hr
        rcases (show r = 0 ∨ r = 1 ∨ r = 2 ∨ r = 3 ∨ r = 4 by omega) with rfl | rfl | rfl | rfl | rfl
        · rw [h9, cell_set_ne (by omega), cell_set_ne (by omega), cell_set_ne (by omega), cell_set_ne (by omega)]
          refine (World.cell?_setCell_same _ _ _ HC0.out).trans ?_
          exact mkN_int (by decide) (by omega)
        · rw [h9, cell_set_ne (by omega), cell_set_ne (by omega), cell_set_ne (by omega)]
          refine (World.cell?_setCell_same _ _ _ ((cell_set_ne (by omega)).trans HC1.out)).trans ?_
          exact mkN_int (by decide) (by omega)
        · rw [h9, cell_set_ne (by omega), cell_set_ne (by omega)]
          refine (World.cell?_setCell_same _ _ _ ((cell_set_ne (by omega)).trans ((cell_set_ne (by omega)).trans HC2.out))).trans ?_
          exact mkN_int (by decide) (by omega)
        · rw [h9, cell_set_ne (by omega)]
          refine (World.cell?_setCell_same _ _ _ ((cell_set_ne (by omega)).trans ((cell_set_ne (by omega)).trans ((cell_set_ne (by omega)).trans HC3.out)))).trans ?_
          exact mkN_int (by decide) (by omega)
        · rw [h9]
          refine (World.cell?_setCell_same _ _ _ ((cell_set_ne (by omega)).trans ((cell_set_ne (by omega)).trans ((cell_set_ne (by omega)).trans ((cell_set_ne (by omega)).trans HC4.out))))).trans ?_
          exact mkN_int (by decide) (by omega))
      have hK1 : ∀ i, (i < j * 7 ∨ j * 7 + 5 ≤ i) → w1.cell? ⟨G, i, none⟩ = wr.cell? ⟨G, i, none⟩ := fun i h => by
        rw [h9, cell_set_ne (by omega), cell_set_ne (by omega), cell_set_ne (by omega), cell_set_ne (by omega), cell_set_ne (by omega)]
      have hbl1 : ∀ b, b < wr.heap.size → b ≠ G → w1.heap[b]? = wr.heap[b]? := fun b hb hn => by
        rw [hb1.block b (by simpa using hb), Below.heap_setCell _ ⟨G, _, none⟩ _ b hn, Below.heap_setCell _ ⟨G, _, none⟩ _ b hn, Below.heap_setCell _ ⟨G, _, none⟩ _ b hn, Below.heap_setCell _ ⟨G, _, none⟩ _ b hn, Below.heap_setCell _ ⟨G, _, none⟩ _ b hn]
      obtain ⟨u5, c5⟩ := hs1.cell (j := j * 7 + 5) (by omega)
      have cf1 := hs1.frozen
      have c6 : w1.cell? ⟨G, j * 7 + 6, none⟩ = some (L j) := (hK1 _ (by omega)).trans (HC.out j hlt)
      have HC5 := Lib.hid c5
      obtain ⟨w2, hw2⟩ : ∃ w2, w1.setCell ⟨G, j * 7 + 5, none⟩ (.string (mt (s + 5))) = w2 := ⟨_, rfl⟩
      have HW2e := Lib.hid hw2
      have HW2 : Hid (Wr B E w w2) := Lib.hid (hw2 ▸ hW1.set hB hGE _ _)
      have hszr : wr.heap.size ≤ w2.heap.size := by rw [← hw2]; have := hb1.size; simp at this ⊢; omega
      have HK2 : Hid (∀ i, (i < j * 7 ∨ j * 7 + 6 ≤ i) → w2.cell? ⟨G, i, none⟩ = wr.cell? ⟨G, i, none⟩) := Lib.hid (fun i h => by rw [← hw2, cell_set_ne (by omega)]; exact hK1 i (by omega))
      have HBL2 : Hid (∀ b, b < wr.heap.size → b ≠ G → w2.heap[b]? = wr.heap[b]?) := Lib.hid (fun b hb hn => by rw [← hw2, Below.heap_setCell _ ⟨G, _, none⟩ _ b hn]; exact hbl1 b hb hn)
      have HN2 : Hid (∀ r, r < 6 → w2.cell? ⟨G, j * 7 + r, none⟩ = some (mkN s r)) := Lib.hid (fun r hr => by
        rw [← hw2]
        by_cases h5 : r = 5
        · subst h5; rw [World.cell?_setCell_same _ _ _ HC5.out]; rfl
        · rw [cell_set_ne (by omega)]; exact HN1.out r (by omega))
      have HGl : Hid (G < w2.heap.size) := Lib.hid (Nat.lt_of_lt_of_le HSR.out.lt hszr)
      have HSZ := Lib.hid hszr
      have HLV2 : Hid (LV w2 B E (L j) ms[j]) := Lib.hid ((HL.out j hlt).2.1.wr HW2.out)
      clear hs1 hW1 hK1 hbl1 hb1 h9 c0 c1 c2 c3 c4 cf hszr hw2
      go_wp2_with fail
      rw [HW2e.out]
      refine (markEntryS_z _ (L j) ms[j] B E (s + 6) _ (by push_cast; omega) HLV2.out (Nat.le_trans hBw HW2.out.bel.size) (by omega) (by omega)).mono ?_
      rintro e w3 ⟨rfl, hW3, hO3, hE3⟩
      have HW3 := Lib.hid (HW2.out.trans hW3)
      have HG3 : Hid (∀ i, w3.cell? ⟨G, i, none⟩ = w2.cell? ⟨G, i, none⟩) := Lib.hid (fun i => by
        have h9 := hO3 G HGl.out HNG.out
        unfold World.cell?
        rw [h9])
      have HE3 := Lib.hid hE3
      have HB3 : Hid (∀ b, b < wr.heap.size → b ≠ G → (L j).ownBlock ≠ some b → w3.heap[b]? = wr.heap[b]?) := Lib.hid (fun b hb hn h => (hO3 b (Nat.lt_of_lt_of_le hb HSZ.out) h).trans (HBL2.out b hb hn))
      have HS3 : Hid (wr.heap.size ≤ w3.heap.size) := Lib.hid (Nat.le_trans HSZ.out hW3.bel.size)
      clear hW3 hO3 hE3
      go_wp2
      go_roundw
      case rel =>
        refine ⟨j + 1, hlt, by go_num, ?_, HW3.out, fun i h => ?_, fun i h hij => ?_⟩
        · rw [HT.out]; congr 1; rw [HSS.out]; push_cast; omega
        · rw [HG3.out, HK2.out _ (by omega)]; exact HC.out i h
        · by_cases hj2 : i = j
          · subst hj2
            rw [← HSS.out]
            exact ⟨fun r hr => by rw [HG3.out]; exact HN2.out r hr, HE3.out⟩
          · obtain ⟨k1, k2⟩ := HM.out i h (by omega)
            refine ⟨fun r hr => by rw [HG3.out, HK2.out _ (by omega)]; exact k1 r hr, k2.other HS3.out fun b hb => ?_⟩
            refine HB3.out b ((HL.out i h).2.1.wr HW.out |>.lt hb) (fun e => (HL.out i h).2.2 (by rw [hb, e])) (fun e => ?_)
            rcases HD.out i j h hlt hj2 with h7 | h7
            · rw [hb] at h7; cases h7
            · exact h7 (by rw [hb, e])
      case measure => simp [intOf]; omega
    · obtain rfl : j = ms.length := by omega
      have HT : Hid (ms.take ms.length = ms) := Lib.hid (List.take_of_length_le (Nat.le_refl _))
      go_wp2
      go_ret
      exact ⟨ret_int (by rw [HT.out]), HW.out, fun i h => ⟨HC.out i h, HM.out i h h⟩⟩

set_option maxHeartbeats 8000000 in
theorem heldNodeS_val (G c : Nat) (ms : List Nat) (L : Nat → Value) (w : World) (hG : G < w.heap.size) (hL : ∀ i (h : i < ms.length), w.cell? ⟨G, i * 7 + 6, none⟩ = some (L i) ∧ (∀ r, r < 6 → w.cell? ⟨G, i * 7 + r, none⟩ = some (mkN (1 + cntM (ms.take i)) r)) ∧ EM w (L i) ms[i] (1 + cntM (ms.take i) + 6))
    (hnc : ms.length ≤ c) (hcm : c ≤ maxLen) (hkn : cntM ms ≤ 80000000) :
    Calls Tryz.prog 39 #[.slice (some ⟨G, 0, none⟩) ms.length c, .int .i64 1] w fun e w' => e = .returned (.int .i64 ((1 + cntM ms : Nat) : Int)) ∧ Below w.heap.size w w' := by
  have HL := Lib.hid hL
  clear hL
  unfold maxLen at hcm
  go_enter Tryz.func39, Tryz.ntmps39
  go_wp2
  go_loopw [1, 5] (fun t i wr => ∃ j : Nat, j ≤ ms.length ∧ i = .int .i64 j ∧ t = .int .i64 ((1 + cntM (ms.take j) : Nat) : Int) ∧ Below w.heap.size w wr) (fun _ i _ => ms.length - (intOf i).toNat)
  case atStart => exact ⟨0, Nat.zero_le _, rfl, by simp [cntM], Below.refl _ _⟩
  case round =>
    obtain ⟨j, hj, rfl, rfl, hB⟩ := hrel
    by_cases hlt : j < ms.length
    · obtain ⟨hlv, hN, hE⟩ := HL.out j hlt
      have HT := Lib.hid (cntM_take hlt)
      have hpre := cntM_pre ms (j + 1)
      rw [HT.out] at hpre
      have HE := Lib.hid (hE.below hB)
      have hG2 : G < wr.heap.size := Nat.lt_of_lt_of_le hG hB.size
      obtain ⟨s, hs⟩ : ∃ s, s = 1 + cntM (ms.take j) := ⟨_, rfl⟩
      rw [← hs] at hN HE ⊢
      have HSS := Lib.hid hs
      have hx1 : 1 ≤ s := by omega
      have hx2 : s + 6 + ms[j] * 2 ≤ 80000001 := by rw [hs]; omega
      have b0 : wr.cell? ⟨G, j * 7, none⟩ = some (.int .i64 (s : Int)) := (hB.cell (p := ⟨G, j * 7, none⟩) hG).trans (hN 0 (by decide))
      have b1 : wr.cell? ⟨G, j * 7 + 1, none⟩ = some (.int .i64 ((s : Int) + 1)) := (hB.cell (p := ⟨G, j * 7 + 1, none⟩) hG).trans (hN 1 (by decide))
      have b2 : wr.cell? ⟨G, j * 7 + 2, none⟩ = some (.int .i64 ((s : Int) + 2)) := (hB.cell (p := ⟨G, j * 7 + 2, none⟩) hG).trans (hN 2 (by decide))
      have b3 : wr.cell? ⟨G, j * 7 + 3, none⟩ = some (.int .i64 ((s : Int) + 3)) := (hB.cell (p := ⟨G, j * 7 + 3, none⟩) hG).trans (hN 3 (by decide))
      have b4 : wr.cell? ⟨G, j * 7 + 4, none⟩ = some (.int .i64 ((s : Int) + 4)) := (hB.cell (p := ⟨G, j * 7 + 4, none⟩) hG).trans (hN 4 (by decide))
      have b5 : wr.cell? ⟨G, j * 7 + 5, none⟩ = some (.string (mt (s + 5))) := (hB.cell (p := ⟨G, j * 7 + 5, none⟩) hG).trans (hN 5 (by decide))
      have b6 : wr.cell? ⟨G, j * 7 + 6, none⟩ = some (L j) := (hB.cell (p := ⟨G, j * 7 + 6, none⟩) hG).trans hlv
      clear hs hN hE hlv
      go_wp2
      have z5 := fun d os => cell_regrown (w := wr) b5 d os
      refine wp_region_quiet_below (by kernel_rfl) (by kernel_rfl) ?_
      repeat (first | go_big_quiet_step ((go_at_call 66; exact Calls.regrown_of (markText_z _ (s + 5) _ (by push_cast; omega) (by omega) (by omega)))) | quiet_step ((go_at_call 66; exact Calls.regrown_of (markText_z _ (s + 5) _ (by push_cast; omega) (by omega) (by omega)))))
      refine wpQuiet_nil ?_
      intro w5 hwq
      have hb5 : Below wr.heap.size wr w5 := by
        obtain ⟨pp, rfl⟩ := hwq
        exact below_regrown _ _ _
      have d6 := (hb5.cell (p := ⟨G, j * 7 + 6, none⟩) hG2).trans b6
      have HB5 := Lib.hid (hB.trans (hb5.mono hB.size))
      have HE5 := Lib.hid (HE.out.below hb5)
      clear hwq z5 b0 b1 b2 b3 b4 b5 b6 hb5
      go_wp2_with fail
      refine (heldEntryS_z _ (L j) ms[j] (s + 6) _ (by push_cast; omega) HE5.out (by omega) (by omega)).mono ?_
      rintro e w8 ⟨rfl, hb8⟩
      have HB8 := Lib.hid (HB5.out.trans (hb8.mono HB5.out.size))
      clear hb8
      go_wp2
      go_roundw
      case rel => exact ⟨j + 1, hlt, by go_num, by rw [HT.out]; congr 1; rw [HSS.out]; push_cast; omega, HB8.out⟩
      case measure => simp [intOf]; omega
    · obtain rfl : j = ms.length := by omega
      have HT : Hid (ms.take ms.length = ms) := Lib.hid (List.take_of_length_le (Nat.le_refl _))
      go_wp2
      go_ret
      exact ⟨ret_int (by rw [HT.out]), hB⟩
end Go.Proofs.YtjomkjnpflebaaaGreatDoor


/-
  Contracts of the laws' helpers markFs and heldFs on a file system in rows of the call's own: the marks are found again.
  Conditions: at most 80000000 marks.
-/
namespace Go.Proofs.YtjomkjnpflebaaaGreatDoor
open Go.ChangeShapes Go.WideShapes Go.ChangeAt Go.RowKit Go.Joins
set_option linter.unusedVariables false
set_option linter.unusedSimpArgs false

theorem Ents.lv {w : World} {R : Nat} {lv : Value} {es : List Ent} (h : Ents w R lv es) : LV w R w.heap.size lv es.length := by
  rcases h.2 with ⟨rfl, h0⟩ | ⟨g, cap, cur, rfl, hB, hg, hn, hm, hs, ht⟩
  · exact .inl ⟨rfl, h0⟩
  · refine .inr ⟨g, cap, rfl, hn, hm, ⟨hB, (Array.getElem?_eq_some_iff.1 hg).1⟩, cur, hg, ?_⟩
    rw [hs]; exact Nat.mul_le_mul_right 2 hn
/-- The marks are in a file system, as many as said. -/
def Mkd (w : World) (v : Value) (k : Nat) : Prop := ∃ nv r, v = .agg #[nv, .int .i64 r] ∧ ((nv = .slice none 0 0 ∧ k = 1) ∨ ∃ (G c : Nat) (ms : List Nat) (L : Nat → Value), nv = .slice (some ⟨G, 0, none⟩) ms.length c ∧ ms.length ≤ c ∧ c ≤ maxLen ∧ G < w.heap.size ∧ cntM ms ≤ 80000000 ∧ k = 1 + cntM ms ∧
  ∀ i (h : i < ms.length), w.cell? ⟨G, i * 7 + 6, none⟩ = some (L i) ∧ (∀ r, r < 6 → w.cell? ⟨G, i * 7 + r, none⟩ = some (mkN (1 + cntM (ms.take i)) r)) ∧ EM w (L i) ms[i] (1 + cntM (ms.take i) + 6))
theorem Mkd.below {w w' : World} {v : Value} {k : Nat} (h : Mkd w v k) (hb : Below w.heap.size w w') : Mkd w' v k := by
  obtain ⟨nv, r, rfl, h | ⟨G, c, ms, L, rfl, h1, h2, h3, h4, h5, h6⟩⟩ := h
  · exact ⟨nv, r, rfl, .inl h⟩
  · refine ⟨_, r, rfl, .inr ⟨G, c, ms, L, rfl, h1, h2, Nat.lt_of_lt_of_le h3 hb.size, h4, h5, fun i hi => ?_⟩⟩
    obtain ⟨k1, k2, k3⟩ := h6 i hi
    exact ⟨(hb.cell (p := ⟨G, i * 7 + 6, none⟩) h3).trans k1, fun r hr => (hb.cell (p := ⟨G, i * 7 + r, none⟩) h3).trans (k2 r hr), k3.below hb⟩
theorem markNodeS_nil1 (w : World) : Calls Tryz.prog 38 #[.slice none 0 0, .int .i64 1] w fun e w' => e = .returned (.int .i64 1) ∧ w = w' := markNodeS_nil 1 w

set_option maxHeartbeats 2000000 in
theorem markFs_of (nv : Value) (ps : List (Nod × Value)) (r : Int) (B : Nat) (w : World) (h : Own w B nv ps) (hB : B ≤ w.heap.size) (hk : cntM (ps.map fun p => p.1.list.length) ≤ 80000000) :
    Calls Tryz.prog 16 #[.agg #[nv, .int .i64 r], .int .i64 1] w fun e w' => ∃ k : Nat, 1 ≤ k ∧ k ≤ 90000000 ∧ e = .returned (.int .i64 (k : Int)) ∧ Mkd w' (.agg #[nv, .int .i64 r]) k ∧ Below B w w' := by
  obtain ⟨on, cn, rfl, hon⟩ := owns_form h.row
  have HW : Hid (∀ o, Below w.heap.size w (w.alloc o)) := Lib.hid (fun o => (Below.refl _ _).alloc (Nat.le_refl _) o)
  cases on with
  | none =>
    have hz : ps.length = 0 ∧ cn = 0 := by
      rcases h.row.2 with ⟨e, h0⟩ | ⟨g, cap, cur, e, _⟩
      · simp only [Value.slice.injEq, true_and] at e; exact e
      · cases e
    obtain ⟨hz1, rfl⟩ := hz
    rw [hz1]
    clear h hk hon hz1
    go_enter Tryz.func16, Tryz.ntmps16
    go_wp2_with fail
    refine (markNodeS_nil1 _).mono ?_
    rintro e w1 ⟨rfl, rfl⟩
    go_wp2
    go_ret
    exact ⟨1, by omega, by omega, rfl, ⟨_, r, rfl, .inl ⟨rfl, rfl⟩⟩, (HW.out _).mono hB⟩
  | some a =>
    obtain ⟨G, rfl, hBG, hGl⟩ := hon a rfl
    have hlen : (ps.map fun p => p.1.list.length).length = ps.length := by simp
    have hrow := h.row
    rcases hrow.2 with ⟨e, h0⟩ | ⟨g, cap, cur, e, hB9, hg, hn, hm, hs, ht⟩
    · cases e
    simp only [Value.slice.injEq, Option.some.injEq, Addr.mk.injEq, and_true, true_and] at e
    obtain ⟨rfl, rfl⟩ := e
    have HSH : Hid (Shp w G (ps.length * 7) 52) := Lib.hid ⟨cur, hg, by rw [hs]; exact Nat.mul_le_mul_right 7 hn⟩
    have HLS : Hid (∀ i (hi : i < ps.length), w.cell? ⟨G, i * 7 + 6, none⟩ = some ps[i].2 ∧ LV w B w.heap.size ps[i].2 ps[i].1.list.length ∧ ps[i].2.ownBlock ≠ some G) := Lib.hid (fun i hi => by
      have h9 := h.at hi
      obtain ⟨g2, c2, e2, -, -, -, -, hc, -⟩ := h9
      simp only [Value.slice.injEq, Option.some.injEq, Addr.mk.injEq, and_true, true_and] at e2
      obtain ⟨rfl, -⟩ := e2
      refine ⟨hc.c6, (h.ent _ (List.getElem_mem hi)).lv, fun e => ?_⟩
      rcases ents_ne hrow (h.ent _ (List.getElem_mem hi)) rfl with h7 | h7
      · rw [h7] at e; cases e
      · exact h7 e)
    have HD := Lib.hid h.dist
    obtain ⟨ms, hms⟩ : ∃ ms, ms = ps.map fun p => p.1.list.length := ⟨_, rfl⟩
    obtain ⟨L, hL⟩ : ∃ L : Nat → Value, L = fun i => (ps.getD i (nod0, .slice none 0 0)).2 := ⟨_, rfl⟩
    have hLi : ∀ i (hi : i < ps.length), L i = ps[i].2 := fun i hi => by rw [hL]; simp [List.getD, hi]
    have hmi : ∀ i (hi : i < ms.length), ms[i] = (ps[i]'(by rw [hms] at hi; simpa using hi)).1.list.length := fun i hi => by subst hms; simp
    rw [← hms] at hk hlen
    have HA : Hid (∀ o, Shp (w.alloc o) G (ms.length * 7) 52) := Lib.hid (fun o => by rw [hlen]; exact HSH.out.below (HW.out o))
    have HLA : Hid (∀ o i (hi : i < ms.length), (w.alloc o).cell? ⟨G, i * 7 + 6, none⟩ = some (L i) ∧ LV (w.alloc o) B w.heap.size (L i) ms[i] ∧ (L i).ownBlock ≠ some G) := Lib.hid (fun o i hi => by
      have hi2 : i < ps.length := by omega
      obtain ⟨k1, k2, k3⟩ := HLS.out i hi2
      rw [hLi i hi2, hmi i hi]
      exact ⟨((HW.out o).cell (p := ⟨G, i * 7 + 6, none⟩) hGl).trans k1, k2.below (HW.out o), k3⟩)
    have HDA : Hid (∀ i j, i < ms.length → j < ms.length → i ≠ j → (L i).ownBlock = none ∨ (L i).ownBlock ≠ (L j).ownBlock) := Lib.hid (fun i j hi hj hne => by
      rw [hLi i (by omega), hLi j (by omega)]
      exact HD.out i j (by omega) (by omega) hne)
    rw [← hlen] at hn ⊢
    clear hL hLi hmi hms hlen hg hs ht hrow h hon
    go_enter Tryz.func16, Tryz.ntmps16
    go_wp2_with fail
    refine (markNodeS_val G cn B w.heap.size ms L _ (HA.out _) (HLA.out _) HDA.out hn hm hBG hGl (Nat.le_trans hB (HW.out _).size) hk).mono ?_
    rintro e w1 ⟨rfl, hW1, hM1⟩
    have HB1 : Hid (Below B w w1) := Lib.hid (((HW.out _).mono hB).trans hW1.bel)
    have HM1 := Lib.hid hM1
    have hG1 : G < w1.heap.size := Nat.lt_of_lt_of_le hGl (Nat.le_trans (HW.out _).size hW1.bel.size)
    clear hW1 hM1
    go_wp2
    go_ret
    exact ⟨1 + cntM ms, by omega, by omega, rfl, ⟨_, r, rfl, .inr ⟨G, cn, ms, L, rfl, hn, hm, hG1, hk, rfl, HM1.out⟩⟩, HB1.out⟩

set_option maxHeartbeats 1000000 in
theorem heldFs_nilG (r : Int) (w : World) : Calls Tryz.prog 17 #[.agg #[.slice none 0 0, .int .i64 r], .int .i64 1] w fun e w' => e = .returned (.int .i64 ((1 : Nat) : Int)) ∧ Below w.heap.size w w' := by
  have HW : Hid (∀ o, Below w.heap.size w (w.alloc o)) := Lib.hid (fun o => (Below.refl _ _).alloc (Nat.le_refl _) o)
  go_enter Tryz.func17, Tryz.ntmps17
  go_wp2_with fail
  refine (heldNodeS_nil 1 _).mono ?_
  rintro e w1 ⟨rfl, rfl⟩
  go_wp2
  go_ret
  exact ⟨rfl, HW.out _⟩
set_option maxHeartbeats 2000000 in
theorem heldFs_of (v : Value) (k : Nat) (w : World) (h : Mkd w v k) :
    Calls Tryz.prog 17 #[v, .int .i64 1] w fun e w' => e = .returned (.int .i64 (k : Int)) ∧ Below w.heap.size w w' := by
  have HW : Hid (∀ o, Below w.heap.size w (w.alloc o)) := Lib.hid (fun o => (Below.refl _ _).alloc (Nat.le_refl _) o)
  obtain ⟨nv, r, rfl, ⟨rfl, rfl⟩ | ⟨G, c, ms, L, rfl, h1, h2, h3, h4, rfl, h6⟩⟩ := h
  · exact heldFs_nilG r w
  · have HL : Hid (∀ o i (h : i < ms.length), (w.alloc o).cell? ⟨G, i * 7 + 6, none⟩ = some (L i) ∧ (∀ r, r < 6 → (w.alloc o).cell? ⟨G, i * 7 + r, none⟩ = some (mkN (1 + cntM (ms.take i)) r)) ∧ EM (w.alloc o) (L i) ms[i] (1 + cntM (ms.take i) + 6)) := Lib.hid (fun o i hi => by
      obtain ⟨k1, k2, k3⟩ := h6 i hi
      exact ⟨((HW.out o).cell (p := ⟨G, i * 7 + 6, none⟩) h3).trans k1, fun r hr => ((HW.out o).cell (p := ⟨G, i * 7 + r, none⟩) h3).trans (k2 r hr), k3.below (HW.out o)⟩)
    clear h6
    go_enter Tryz.func17, Tryz.ntmps17
    go_wp2_with fail
    refine (heldNodeS_val G c ms L _ (Nat.lt_of_lt_of_le h3 (HW.out _).size) (HL.out _) h1 h2 h4).mono ?_
    rintro e w1 ⟨rfl, hb1⟩
    have HB1 := Lib.hid ((HW.out _).trans (hb1.mono (HW.out _).size))
    have hz1 : ¬ ((1 + cntM ms : Nat) : Int) < 0 := by omega
    clear hb1
    go_wp2
    go_ret
    exact ⟨ret_int rfl, HB1.out⟩
end Go.Proofs.YtjomkjnpflebaaaGreatDoor


/-
  An answer that lies in a box: a file system of the call's own and its box; the steps of a drawn region that lays the box beside calls; marks on it.
  Conditions: as each states.
-/
namespace Go.Proofs.YtjomkjnpflebaaaGreatDoor
open Go.ChangeShapes Go.WideShapes Go.ChangeAt Go.RowKit Go.Joins
set_option linter.unusedVariables false
set_option linter.unusedSimpArgs false

theorem blk_step {a b : World} (hb : Below a.heap.size a b) {G : Nat} {o : Obj} (h : a.heap[G]? = some o) : b.heap[G]? = some o := (hb.block G (lt_of_heap h)).trans h
theorem bel_step {w a b : World} (h : Below w.heap.size w a) (hb : Below a.heap.size a b) : Below w.heap.size w b := h.trans (hb.mono h.size)
theorem bel_both {w a b : World} (h : Below w.heap.size w a) (hb : Below a.heap.size a b) : Below w.heap.size w a ∧ Below w.heap.size w b := ⟨h, bel_step h hb⟩
theorem bel_al {w a : World} {o : Obj} (h : Below w.heap.size w a) : Below w.heap.size w (a.alloc o) := h.alloc h.size _
theorem bel_dr {w a : World} (h : Below w.heap.size w a) : Below w.heap.size w a.drew := h.drew
theorem bel_ald {w a : World} {o : Obj} (h : Below w.heap.size w a) : Below w.heap.size w (a.alloc o).drew := (h.alloc h.size _).drew
theorem bel_set2 {w a : World} {G : Nat} {x y : Value} (h : Below w.heap.size w a) (hG : w.heap.size ≤ G) : Below w.heap.size w ((a.setCell ⟨G, 0, none⟩ x).setCell ⟨G, 1, none⟩ y) := (h.setCell (p := ⟨G, 0, none⟩) hG x).setCell (p := ⟨G, 1, none⟩) hG y
/-- A box that was laid since world w, and is there from world a on; at b it holds o. -/
structure BoxIn (w a b : World) (G : Nat) (o : Obj) : Prop where
  blk : b.heap[G]? = some o
  lt : G < a.heap.size
  ge : w.heap.size ≤ G
theorem box_new {w a b : World} {o : Obj} (h : Below w.heap.size w a) (hb : Below (a.alloc o).heap.size (a.alloc o) b) : BoxIn w (a.alloc o) b a.heap.size o := ⟨blk_step hb (heap_alloc_new a o), by simp, h.size⟩
theorem box_newd {w a b : World} {o : Obj} (h : Below w.heap.size w a) (hb : Below (a.alloc o).drew.heap.size (a.alloc o).drew b) : BoxIn w (a.alloc o).drew b a.heap.size o := ⟨blk_step hb (show (a.alloc o).heap[a.heap.size]? = some o from heap_alloc_new a o), by show a.heap.size < (a.alloc o).heap.size; simp, h.size⟩
theorem box_old {w a b c : World} {G : Nat} {o : Obj} (h : BoxIn w a b G o) (hb : Below b.heap.size b c) : BoxIn w b c G o := ⟨blk_step hb h.blk, lt_of_heap h.blk, h.ge⟩

/-- The rows of a file system lie below E. -/
def OwnLt (E : Nat) (nv : Value) (ps : List (Nod × Value)) : Prop := (∀ b, nv.ownBlock = some b → b < E) ∧ ∀ p ∈ ps, ∀ b, p.2.ownBlock = some b → b < E
theorem rows_lt {w : World} {B : Nat} {T : TypeId} {sz n : Nat} {v : Value} {xs : List Value} (h : w.ownsRow B T sz v n xs) (b : Nat) (hb : v.ownBlock = some b) : b < w.heap.size := by
  rcases h.2 with ⟨rfl, _⟩ | ⟨g, cap, cur, rfl, hB, hg, _⟩
  · simp [Value.ownBlock] at hb
  · simp [Value.ownBlock] at hb
    subst hb
    exact (Array.getElem?_eq_some_iff.1 hg).1
theorem Own.ltE {w : World} {R : Nat} {nv : Value} {ps : List (Nod × Value)} (h : Own w R nv ps) : OwnLt w.heap.size nv ps := ⟨rows_lt h.row, fun p hp => rows_lt (h.ent p hp)⟩
theorem Own.besides {w : World} {R : Nat} {nv : Value} {ps : List (Nod × Value)} (h : Own w R nv ps) {b : Nat} (hb : b < R) (j : Nat) (u : Value) : Own (w.setCell ⟨b, j, none⟩ u) R nv ps :=
  h.up fun i hi _ => Below.heap_setCell w ⟨b, j, none⟩ u i (by simp only; omega)
/-- In box G lies a file system of the call's own, all of it laid from B on. -/
structure Ans (w : World) (B G : Nat) (nv : Value) (ps : List (Nod × Value)) (room : Int) : Prop where
  box : w.heap[G]? = some (.cells #[nv, .int .i64 room] 30)
  ge : B ≤ G
  own : ∃ R E, B ≤ R ∧ Own w R nv ps ∧ OwnLt E nv ps ∧ E ≤ w.heap.size ∧ (G < R ∨ E ≤ G)
theorem Ans.below {w w' : World} {B G : Nat} {nv : Value} {ps : List (Nod × Value)} {room : Int} (h : Ans w B G nv ps room) (hb : Below w.heap.size w w') : Ans w' B G nv ps room := by
  obtain ⟨h1, h2, R, E, h3, h4, h5, h6, h7⟩ := h
  exact ⟨blk_step hb h1, h2, R, E, h3, h4.below hb, h5, Nat.le_trans h6 hb.size, h7⟩
theorem Ans.up {w w' : World} {B G : Nat} {nv : Value} {ps : List (Nod × Value)} {room : Int} (h : Ans w B G nv ps room) (hs : w.heap.size ≤ w'.heap.size) (hu : ∀ i, B ≤ i → i < w.heap.size → w'.heap[i]? = w.heap[i]?) : Ans w' B G nv ps room := by
  obtain ⟨h1, h2, R, E, h3, h4, h5, h6, h7⟩ := h
  exact ⟨(hu G h2 (lt_of_heap h1)).trans h1, h2, R, E, h3, h4.up fun i hi hl => hu i (Nat.le_trans h3 hi) hl, h5, Nat.le_trans h6 hs, h7⟩
theorem Ans.read {w : World} {B G : Nat} {nv : Value} {ps : List (Nod × Value)} {F : FsD} (h : Ans w B G nv ps F.room) (hp : ps.map Prod.fst = F.nodes) (hf : NodsFit F.nodes) : FsA w (.agg #[nv, .int .i64 F.room]) F := by
  obtain ⟨h1, h2, R, E, h3, h4, h5, h6, h7⟩ := h
  have h := h4.read F.room (by rw [hp]; exact hf)
  rw [hp] at h
  exact h
theorem two_set {w : World} {G : Nat} {x y : Value} {T : TypeId} (h : w.heap[G]? = some (.cells #[x, y] T (0, 0))) (a b : Value) : ((w.setCell ⟨G, 0, none⟩ a).setCell ⟨G, 1, none⟩ b).heap[G]? = some (.cells #[a, b] T (0, 0)) :=
  heap_setCell_same _ G 1 _ T b (heap_setCell_same w G 0 _ T a h)
theorem ans_set {w a c : World} {G : Nat} {x y nv : Value} {ps : List (Nod × Value)} {room : Int} (hz : BoxIn w a c G (.cells #[x, y] 30)) (hO : Own c a.heap.size nv ps) (ha : Below w.heap.size w a) :
    Ans ((c.setCell ⟨G, 0, none⟩ nv).setCell ⟨G, 1, none⟩ (.int .i64 room)) w.heap.size G nv ps room :=
  ⟨two_set hz.blk _ _, hz.ge, a.heap.size, c.heap.size, ha.size, (hO.besides hz.lt _ _).besides hz.lt _ _, hO.ltE, by simp, .inl hz.lt⟩
theorem ans_new {w a c : World} {nv : Value} {ps : List (Nod × Value)} {room : Int} (hO : Own c a.heap.size nv ps) (ha : Below w.heap.size w a) (hb : Below a.heap.size a c) :
    Ans (c.alloc (.cells #[nv, .int .i64 room] 30)) w.heap.size c.heap.size nv ps room :=
  ⟨heap_alloc_new c _, Nat.le_trans ha.size hb.size, a.heap.size, c.heap.size, ha.size, hO.below ((Below.refl _ c).alloc (Nat.le_refl _) _), hO.ltE, by simp, .inr (Nat.le_refl _)⟩
theorem Ents.lvE {w : World} {R E : Nat} {lv : Value} {es : List Ent} (h : Ents w R lv es) (hE : ∀ b, lv.ownBlock = some b → b < E) : LV w R E lv es.length := by
  rcases h.2 with ⟨rfl, h0⟩ | ⟨g, cap, cur, rfl, hB, hg, hn, hm, hs, ht⟩
  · exact .inl ⟨rfl, h0⟩
  · refine .inr ⟨g, cap, rfl, hn, hm, ⟨hB, hE g (by simp [Value.ownBlock])⟩, cur, hg, ?_⟩
    rw [hs]; exact Nat.mul_le_mul_right 2 hn

set_option maxHeartbeats 2000000 in
theorem markFs_ofE (nv : Value) (ps : List (Nod × Value)) (r : Int) (B E : Nat) (w : World) (h : Own w B nv ps) (hE : OwnLt E nv ps) (hEw : E ≤ w.heap.size) (hB : B ≤ w.heap.size) (hk : cntM (ps.map fun p => p.1.list.length) ≤ 80000000) :
    Calls Tryz.prog 16 #[.agg #[nv, .int .i64 r], .int .i64 1] w fun e w' => ∃ k : Nat, 1 ≤ k ∧ k ≤ 90000000 ∧ e = .returned (.int .i64 (k : Int)) ∧ Mkd w' (.agg #[nv, .int .i64 r]) k ∧ Below B w w' ∧ ∀ i, E ≤ i → i < w.heap.size → w'.heap[i]? = w.heap[i]? := by
  obtain ⟨on, cn, rfl, hon⟩ := owns_form h.row
  have HW : Hid (∀ o, Below w.heap.size w (w.alloc o)) := Lib.hid (fun o => (Below.refl _ _).alloc (Nat.le_refl _) o)
  cases on with
  | none =>
    have hz : ps.length = 0 ∧ cn = 0 := by
      rcases h.row.2 with ⟨e, h0⟩ | ⟨g, cap, cur, e, _⟩
      · simp only [Value.slice.injEq, true_and] at e; exact e
      · cases e
    obtain ⟨hz1, rfl⟩ := hz
    rw [hz1]
    clear h hk hon hz1 hE
    go_enter Tryz.func16, Tryz.ntmps16
    go_wp2_with fail
    refine (markNodeS_nil1 _).mono ?_
    rintro e w1 ⟨rfl, rfl⟩
    go_wp2
    go_ret
    exact ⟨1, by omega, by omega, rfl, ⟨_, r, rfl, .inl ⟨rfl, rfl⟩⟩, (HW.out _).mono hB, fun i _ hi => (HW.out _).block i hi⟩
  | some a =>
    obtain ⟨G, rfl, hBG, hGl⟩ := hon a rfl
    have hGE : G < E := hE.1 G (by simp [Value.ownBlock])
    have HE2 := Lib.hid hE.2
    have hlen : (ps.map fun p => p.1.list.length).length = ps.length := by simp
    have hrow := h.row
    rcases hrow.2 with ⟨e, h0⟩ | ⟨g, cap, cur, e, hB9, hg, hn, hm, hs, ht⟩
    · cases e
    simp only [Value.slice.injEq, Option.some.injEq, Addr.mk.injEq, and_true, true_and] at e
    obtain ⟨rfl, rfl⟩ := e
    have HSH : Hid (Shp w G (ps.length * 7) 52) := Lib.hid ⟨cur, hg, by rw [hs]; exact Nat.mul_le_mul_right 7 hn⟩
    have HLS : Hid (∀ i (hi : i < ps.length), w.cell? ⟨G, i * 7 + 6, none⟩ = some ps[i].2 ∧ LV w B E ps[i].2 ps[i].1.list.length ∧ ps[i].2.ownBlock ≠ some G) := Lib.hid (fun i hi => by
      have h9 := h.at hi
      obtain ⟨g2, c2, e2, -, -, -, -, hc, -⟩ := h9
      simp only [Value.slice.injEq, Option.some.injEq, Addr.mk.injEq, and_true, true_and] at e2
      obtain ⟨rfl, -⟩ := e2
      refine ⟨hc.c6, (h.ent _ (List.getElem_mem hi)).lvE (HE2.out _ (List.getElem_mem hi)), fun e => ?_⟩
      rcases ents_ne hrow (h.ent _ (List.getElem_mem hi)) rfl with h7 | h7
      · rw [h7] at e; cases e
      · exact h7 e)
    have HD := Lib.hid h.dist
    obtain ⟨ms, hms⟩ : ∃ ms, ms = ps.map fun p => p.1.list.length := ⟨_, rfl⟩
    obtain ⟨L, hL⟩ : ∃ L : Nat → Value, L = fun i => (ps.getD i (nod0, .slice none 0 0)).2 := ⟨_, rfl⟩
    have hLi : ∀ i (hi : i < ps.length), L i = ps[i].2 := fun i hi => by rw [hL]; simp [List.getD, hi]
    have hmi : ∀ i (hi : i < ms.length), ms[i] = (ps[i]'(by rw [hms] at hi; simpa using hi)).1.list.length := fun i hi => by subst hms; simp
    rw [← hms] at hk hlen
    have HA : Hid (∀ o, Shp (w.alloc o) G (ms.length * 7) 52) := Lib.hid (fun o => by rw [hlen]; exact HSH.out.below (HW.out o))
    have HLA : Hid (∀ o i (hi : i < ms.length), (w.alloc o).cell? ⟨G, i * 7 + 6, none⟩ = some (L i) ∧ LV (w.alloc o) B E (L i) ms[i] ∧ (L i).ownBlock ≠ some G) := Lib.hid (fun o i hi => by
      have hi2 : i < ps.length := by omega
      obtain ⟨k1, k2, k3⟩ := HLS.out i hi2
      rw [hLi i hi2, hmi i hi]
      exact ⟨((HW.out o).cell (p := ⟨G, i * 7 + 6, none⟩) hGl).trans k1, k2.below (HW.out o), k3⟩)
    have HDA : Hid (∀ i j, i < ms.length → j < ms.length → i ≠ j → (L i).ownBlock = none ∨ (L i).ownBlock ≠ (L j).ownBlock) := Lib.hid (fun i j hi hj hne => by
      rw [hLi i (by omega), hLi j (by omega)]
      exact HD.out i j (by omega) (by omega) hne)
    rw [← hlen] at hn ⊢
    clear hL hLi hmi hms hlen hg hs ht hrow h hon hE
    go_enter Tryz.func16, Tryz.ntmps16
    go_wp2_with fail
    refine (markNodeS_val G cn B E ms L _ (HA.out _) (HLA.out _) HDA.out hn hm hBG hGE (Nat.le_trans hB (HW.out _).size) hk).mono ?_
    rintro e w1 ⟨rfl, hW1, hM1⟩
    have HB1 : Hid (Below B w w1) := Lib.hid (((HW.out _).mono hB).trans hW1.bel)
    have HM1 := Lib.hid hM1
    have HU1 : Hid (∀ i, E ≤ i → i < w.heap.size → w1.heap[i]? = w.heap[i]?) := Lib.hid (fun i h1 h2 => (hW1.up i h1 (Nat.lt_of_lt_of_le h2 (HW.out _).size)).trans ((HW.out _).block i h2))
    have hG1 : G < w1.heap.size := Nat.lt_of_lt_of_le hGl (Nat.le_trans (HW.out _).size hW1.bel.size)
    clear hW1 hM1
    go_wp2
    go_ret
    exact ⟨1 + cntM ms, by omega, by omega, rfl, ⟨_, r, rfl, .inr ⟨G, cn, ms, L, rfl, hn, hm, hG1, hk, rfl, HM1.out⟩⟩, HB1.out, HU1.out⟩

theorem markFs_ans {w : World} {B G : Nat} {nv : Value} {ps : List (Nod × Value)} {room : Int} (h : Ans w B G nv ps room) (hk : cntM (ps.map fun p => p.1.list.length) ≤ 80000000) :
    Calls Tryz.prog 16 #[.agg #[nv, .int .i64 room], .int .i64 1] w fun e w' => ∃ k : Nat, 1 ≤ k ∧ k ≤ 90000000 ∧ e = .returned (.int .i64 (k : Int)) ∧ Mkd w' (.agg #[nv, .int .i64 room]) k ∧ Below B w w' ∧ w'.heap[G]? = some (.cells #[nv, .int .i64 room] 30) := by
  obtain ⟨h1, h2, R, E, h3, h4, h5, h6, h7⟩ := h
  have hG := lt_of_heap h1
  by_cases hR : R ≤ w.heap.size
  · refine (markFs_ofE nv ps room R E w h4 h5 h6 hR hk).mono ?_
    rintro e w' ⟨k, k1, k2, rfl, hM, hb, hu⟩
    refine ⟨k, k1, k2, rfl, hM, hb.mono h3, ?_⟩
    rcases h7 with h7 | h7
    · exact (hb.block G h7).trans h1
    · exact (hu G h7 hG).trans h1
  · have h4' : Own w w.heap.size nv ps := h4.low (by omega)
    refine (markFs_ofE nv ps room w.heap.size E w h4' h5 h6 (Nat.le_refl _) hk).mono ?_
    rintro e w' ⟨k, k1, k2, rfl, hM, hb, hu⟩
    exact ⟨k, k1, k2, rfl, hM, hb.mono (by omega), (hb.block G hG).trans h1⟩
end Go.Proofs.YtjomkjnpflebaaaGreatDoor
