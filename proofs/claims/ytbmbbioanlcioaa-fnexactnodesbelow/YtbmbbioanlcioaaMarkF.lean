
/-
  Contracts of the laws' helpers markEntryS, markNodeS, markFs on a file system of the call's own: they return a number that is not negative, and write into the file system's own blocks alone.
  Conditions: at most 2^20 values and letters together.
-/
import Derived.Test.YtbmbbioanlcioaaFsR
import Derived.Test.YtbmbbioanlcioaaMarkC
namespace Go.Proofs.Ytbmbbioanlcioaa
open Go.ChangeShapes Go.WideShapes Go.ChangeAt Go.RowKit Go.Joins
set_option linter.unusedVariables false
set_option linter.unusedSimpArgs false

/-- Block G holds n cells at least, of elements of type T, none frozen. -/
def Shp (w : World) (G n : Nat) (T : TypeId) : Prop := ∃ cs, w.heap[G]? = some (.cells cs T (0, 0)) ∧ n ≤ cs.size
theorem Shp.lt {w : World} {G n : Nat} {T : TypeId} (h : Shp w G n T) : G < w.heap.size := by
  obtain ⟨cs, hg, _⟩ := h
  exact (Array.getElem?_eq_some_iff.1 hg).1
theorem Shp.set {w : World} {G n : Nat} {T : TypeId} (h : Shp w G n T) (H j : Nat) (u : Value) : Shp (w.setCell ⟨H, j, none⟩ u) G n T := by
  obtain ⟨cs, hg, hs⟩ := h
  by_cases e : G = H
  · subst e
    exact ⟨_, heap_setCell_same w G j cs T u hg, by simpa using hs⟩
  · exact ⟨cs, (Below.heap_setCell w ⟨H, j, none⟩ u G e).trans hg, hs⟩
theorem Shp.below {w w' : World} {G n : Nat} {T : TypeId} (h : Shp w G n T) (hb : Below w.heap.size w w') : Shp w' G n T := by
  obtain ⟨cs, hg, hs⟩ := h
  exact ⟨cs, (hb.block G (Array.getElem?_eq_some_iff.1 hg).1).trans hg, hs⟩
theorem Shp.cell {w : World} {G n : Nat} {T : TypeId} (h : Shp w G n T) {j : Nat} (hj : j < n) : ∃ u, w.cell? ⟨G, j, none⟩ = some u := by
  obtain ⟨cs, hg, hs⟩ := h
  exact ⟨cs[j], by simp [World.cell?, hg, show j < cs.size by omega]⟩
theorem Shp.frozen {w : World} {G n : Nat} {T : TypeId} (h : Shp w G n T) (j : Nat) : w.frozen? ⟨G, j, none⟩ = false := by
  obtain ⟨cs, hg, _⟩ := h
  exact frozen_of_row w G j cs T hg
theorem Shp.ne {w : World} {G H n m : Nat} {T U : TypeId} (h : Shp w G n T) (k : Shp w H m U) (hT : T ≠ U) : G ≠ H := by
  rintro rfl
  obtain ⟨cs, hg, _⟩ := h
  obtain ⟨ds, hd, _⟩ := k
  rw [hg] at hd
  cases hd
  exact hT rfl
theorem cell_set_ne {w : World} {G i j : Nat} {u : Value} (h : i ≠ j) : (w.setCell ⟨G, j, none⟩ u).cell? ⟨G, i, none⟩ = w.cell? ⟨G, i, none⟩ :=
  World.cell?_setCell_other _ _ _ _ (fun e => h (by cases e; rfl))
/-- From B on and ahead of E alone something was written; every block keeps its shape. -/
structure Wr (B E : Nat) (w w' : World) : Prop where
  bel : Below B w w'
  up : ∀ i, E ≤ i → i < w.heap.size → w'.heap[i]? = w.heap[i]?
  shp : ∀ G n T, Shp w G n T → Shp w' G n T
theorem Wr.refl (B E : Nat) (w : World) : Wr B E w w := ⟨Below.refl _ _, fun _ _ _ => rfl, fun _ _ _ h => h⟩
theorem Wr.trans {B E : Nat} {a b c : World} (h : Wr B E a b) (k : Wr B E b c) : Wr B E a c := ⟨h.bel.trans k.bel, fun i h1 h2 => (k.up i h1 (Nat.lt_of_lt_of_le h2 h.bel.size)).trans (h.up i h1 h2), fun G n T x => k.shp G n T (h.shp G n T x)⟩
theorem Wr.set {B E : Nat} {a b : World} (h : Wr B E a b) {H : Nat} (hH : B ≤ H) (hE : H < E) (j : Nat) (u : Value) : Wr B E a (b.setCell ⟨H, j, none⟩ u) := ⟨h.bel.setCell (p := ⟨H, j, none⟩) hH u, fun i h1 h2 => (Below.heap_setCell b ⟨H, j, none⟩ u i (by simp only; omega)).trans (h.up i h1 h2), fun G n T x => (h.shp G n T x).set H j u⟩
theorem Wr.below {B E : Nat} {a b c : World} (h : Wr B E a b) (hB : B ≤ b.heap.size) (k : Below b.heap.size b c) : Wr B E a c := ⟨h.bel.trans (k.mono hB), fun i h1 h2 => (k.block i (Nat.lt_of_lt_of_le h2 h.bel.size)).trans (h.up i h1 h2), fun G n T x => (h.shp G n T x).below k⟩

set_option maxHeartbeats 2000000 in
theorem markEntryS_shp (G n c B E k : Nat) (w : World) (hs : Shp w G (n * 2) 67) (hnc : n ≤ c) (hcm : c ≤ maxLen) (hB : B ≤ G) (hGE : G < E) (hBw : B ≤ w.heap.size) (hk : 1 ≤ k) (hkn : k + n * 2 ≤ 90000000) : Calls Try.prog 49 #[.slice (some ⟨G, 0, none⟩) n c, .int .i64 (k : Int)] w fun e w' => e = .returned (.int .i64 ((k + n * 2 : Nat) : Int)) ∧ Wr B E w w' ∧ ∀ b, b < w.heap.size → b ≠ G → w'.heap[b]? = w.heap[b]? := by
  have HS := Lib.hid hs
  clear hs
  unfold maxLen at hcm
  go_enter Try.func49, Try.ntmps49
  go_wp2
  go_loopw [1, 5] (fun t i wr => ∃ j : Nat, j ≤ n ∧ i = .int .i64 j ∧ t = .int .i64 ((k + j * 2 : Nat) : Int) ∧ Wr B E w wr ∧ ∀ b, b < w.heap.size → b ≠ G → wr.heap[b]? = w.heap[b]?) (fun _ i _ => n - (intOf i).toNat)
  case atStart => exact ⟨0, Nat.zero_le _, rfl, by simp, Wr.refl _ _ _, fun _ _ _ => rfl⟩
  case round =>
    obtain ⟨j, hj, rfl, rfl, hW, hO⟩ := hrel
    have HW := Lib.hid hW
    have HO := Lib.hid hO
    have hsz := hW.bel.size
    clear hW hO
    by_cases hlt : j < n
    · go_wp2_with fail
      refine (markText_any (k + j * 2) _ (by omega) (by omega)).mono ?_
      rintro e w1 ⟨rfl, hb1⟩
      have hs1 := (HW.out.shp _ _ _ HS.out).below hb1
      obtain ⟨u0, c0⟩ := hs1.cell (j := j * 2) (by omega)
      have f0 := hs1.frozen
      have HW1 := Lib.hid (HW.out.below (Nat.le_trans hBw HW.out.bel.size) hb1)
      have HO1 : Hid (∀ b, b < w.heap.size → b ≠ G → w1.heap[b]? = w.heap[b]?) := Lib.hid (fun b hb hn => (hb1.block b (by omega)).trans (HO.out b hb hn))
      have hs2 := hs1.set G (j * 2) (.string (mt (k + j * 2)))
      obtain ⟨u1, c1⟩ := hs1.cell (j := j * 2 + 1) (by omega)
      clear hb1 hs1 hs2
      go_wp2
      go_roundw
      case rel =>
        refine ⟨j + 1, hlt, by go_num, by go_num, (HW1.out.set hB hGE _ _).set hB hGE _ _, fun b hb hn => ?_⟩
        rw [Below.heap_setCell _ ⟨G, _, none⟩ _ b hn, Below.heap_setCell _ ⟨G, _, none⟩ _ b hn]
        exact HO1.out b hb hn
      case measure => simp [intOf]; omega
    · obtain rfl : j = n := by omega
      go_wp2
      go_ret
      exact ⟨rfl, HW.out, HO.out⟩
theorem markText_int (z : Int) (w : World) (h0 : 1 ≤ z) (h1 : z ≤ 100000000) : Calls Try.prog 33 #[.int .i64 z] w fun e w' => ∃ x, e = .returned (.string x) ∧ Below w.heap.size w w' := by
  obtain ⟨m, rfl⟩ : ∃ m : Nat, z = m := ⟨z.toNat, by omega⟩
  exact (markText_any m w (by omega) (by omega)).mono fun e w' ⟨h, h'⟩ => ⟨_, h, h'⟩
theorem markEntryS_int (G n c B E : Nat) (z : Int) (w : World) (hs : Shp w G (n * 2) 67) (hnc : n ≤ c) (hcm : c ≤ maxLen) (hB : B ≤ G) (hGE : G < E) (hBw : B ≤ w.heap.size) (hk : 1 ≤ z) (hkn : z + n * 2 ≤ 90000000) : Calls Try.prog 49 #[.slice (some ⟨G, 0, none⟩) n c, .int .i64 z] w fun e w' => e = .returned (.int .i64 (z + n * 2)) ∧ Wr B E w w' ∧ ∀ b, b < w.heap.size → b ≠ G → w'.heap[b]? = w.heap[b]? := by
  obtain ⟨m, rfl⟩ : ∃ m : Nat, z = m := ⟨z.toNat, by omega⟩
  exact (markEntryS_shp G n c B E m w hs hnc hcm hB hGE hBw (by omega) (by omega)).mono fun e w' ⟨h, h'⟩ => ⟨by rw [h]; rfl, h'⟩
/-- A list's value whose cells lie in a block from B on. -/
def LShp (w : World) (B E : Nat) (lv : Value) (m : Nat) : Prop := ∃ H c, lv = .slice (some ⟨H, 0, none⟩) m c ∧ m ≤ c ∧ c ≤ maxLen ∧ (B ≤ H ∧ H < E) ∧ Shp w H (m * 2) 67
def cntM (ms : List Nat) : Nat := (ms.map fun m => 6 + m * 2).sum
theorem cntM_take {ms : List Nat} {k : Nat} (h : k < ms.length) : cntM (ms.take (k + 1)) = cntM (ms.take k) + (6 + ms[k] * 2) := by
  unfold cntM; rw [List.take_succ_eq_append_getElem h]; simp only [List.map_append, List.sum_append, List.map_cons, List.map_nil, List.sum_cons, List.sum_nil, Nat.add_zero]
theorem cntM_pre (ms : List Nat) (k : Nat) : cntM (ms.take k) ≤ cntM ms := by
  conv => rhs; rw [← List.take_append_drop k ms]
  unfold cntM; rw [List.map_append, List.sum_append]; omega

set_option maxHeartbeats 4000000 in
theorem markNodeS_shp (G c B E : Nat) (ms : List Nat) (w : World) (hs : Shp w G (ms.length * 7) 65) (hL : ∀ i (h : i < ms.length), ∃ lv, w.cell? ⟨G, i * 7 + 6, none⟩ = some lv ∧ LShp w B E lv ms[i]) (hnc : ms.length ≤ c) (hcm : c ≤ maxLen) (hB : B ≤ G) (hGE : G < E) (hBw : B ≤ w.heap.size) (hkn : cntM ms ≤ 80000000) : Calls Try.prog 32 #[.slice (some ⟨G, 0, none⟩) ms.length c, .int .i64 1] w fun e w' => e = .returned (.int .i64 (1 + (cntM ms : Int))) ∧ Wr B E w w' := by
  have HS := Lib.hid hs
  have HL := Lib.hid hL
  clear hL hs
  unfold maxLen at hcm
  go_enter Try.func32, Try.ntmps32
  go_wp2
  go_loopw [1, 5] (fun t i wr => ∃ j : Nat, j ≤ ms.length ∧ i = .int .i64 j ∧ t = .int .i64 (1 + (cntM (ms.take j) : Int)) ∧ Wr B E w wr ∧ ∀ i (h : i < ms.length), wr.cell? ⟨G, i * 7 + 6, none⟩ = w.cell? ⟨G, i * 7 + 6, none⟩) (fun _ i _ => ms.length - (intOf i).toNat)
  case atStart => exact ⟨0, Nat.zero_le _, rfl, by simp [cntM], Wr.refl _ _ _, fun _ _ => rfl⟩
  case round =>
    obtain ⟨j, hj, rfl, rfl, hW, hC⟩ := hrel
    have HW := Lib.hid hW
    have HC := Lib.hid hC
    have hsz := hW.bel.size
    clear hW hC
    by_cases hlt : j < ms.length
    · obtain ⟨lv, hlv, H, c9, rfl, hm9, hc9, hB9, hS9⟩ := HL.out j hlt
      have HT := Lib.hid (cntM_take hlt)
      have hpre := cntM_pre ms (j + 1)
      rw [HT.out] at hpre
      have hsr := HW.out.shp _ _ _ HS.out
      obtain ⟨u0, c0⟩ := hsr.cell (j := j * 7) (by omega)
      obtain ⟨u1, c1⟩ := hsr.cell (j := j * 7 + 1) (by omega)
      obtain ⟨u2, c2⟩ := hsr.cell (j := j * 7 + 2) (by omega)
      obtain ⟨u3, c3⟩ := hsr.cell (j := j * 7 + 3) (by omega)
      obtain ⟨u4, c4⟩ := hsr.cell (j := j * 7 + 4) (by omega)
      have cf := hsr.frozen
      have hne9 : H ≠ G := fun e => (Shp.ne HS.out hS9 (by decide)) e.symm
      have HSR := Lib.hid hsr
      have HS9 := Lib.hid hS9
      have HLV := Lib.hid hlv
      obtain ⟨x0, hx0⟩ : ∃ x0 : Int, x0 = 1 + (cntM (ms.take j) : Int) := ⟨_, rfl⟩
      have HX0 := Lib.hid hx0
      have hx1 : 1 ≤ x0 := by omega
      have hx2 : x0 + 6 + ms[j] * 2 ≤ 80000001 := by rw [hx0]; omega
      rw [← hx0]
      clear hsr hS9 hlv hx0
      go_wp2_with fail
      refine (markText_int _ _ (by omega) (by omega)).mono ?_
      rintro e w1 ⟨x, rfl, hb1⟩
      have hs1 := (((((HSR.out.set G _ _).set G _ _).set G _ _).set G _ _).set G _ _).below hb1
      have hW1 := (((((HW.out.set hB hGE _ _).set hB hGE _ _).set hB hGE _ _).set hB hGE _ _).set hB hGE _ _).below (by simp; omega) hb1
      have hC1 : ∀ i (h : i < ms.length), w1.cell? ⟨G, i * 7 + 6, none⟩ = w.cell? ⟨G, i * 7 + 6, none⟩ := fun i h => by
        have h9 := hb1.cell (p := ⟨G, i * 7 + 6, none⟩) (by simpa using HSR.out.lt)
        rw [h9, cell_set_ne (by omega), cell_set_ne (by omega), cell_set_ne (by omega), cell_set_ne (by omega), cell_set_ne (by omega)]
        exact HC.out i h
      obtain ⟨u5, c5⟩ := hs1.cell (j := j * 7 + 5) (by omega)
      have cf1 := hs1.frozen
      have c6 : w1.cell? ⟨G, j * 7 + 6, none⟩ = some (.slice (some ⟨H, 0, none⟩) ms[j] c9) := (hC1 j hlt).trans HLV.out
      have HW2 : Hid (Wr B E w (w1.setCell ⟨G, j * 7 + 5, none⟩ (.string x))) := Lib.hid (hW1.set hB hGE _ _)
      have HC2 : Hid (∀ i (h : i < ms.length), (w1.setCell ⟨G, j * 7 + 5, none⟩ (.string x)).cell? ⟨G, i * 7 + 6, none⟩ = w.cell? ⟨G, i * 7 + 6, none⟩) := Lib.hid (fun i h => by rw [cell_set_ne (by omega)]; exact hC1 i h)
      have HGl : Hid (G < (w1.setCell ⟨G, j * 7 + 5, none⟩ (.string x)).heap.size) := Lib.hid (by simpa using hs1.lt)
      clear hs1 hW1 hC1 hb1 c0 c1 c2 c3 c4 cf
      go_wp2_with fail
      refine (markEntryS_int H ms[j] c9 B E _ _ (HW2.out.shp _ _ _ HS9.out) hm9 hc9 hB9.1 hB9.2 (Nat.le_trans hBw HW2.out.bel.size) (by omega) (by omega)).mono ?_
      rintro e w3 ⟨rfl, hW3, hO3⟩
      have HW3 := Lib.hid (HW2.out.trans hW3)
      have HC3 : Hid (∀ i (h : i < ms.length), w3.cell? ⟨G, i * 7 + 6, none⟩ = w.cell? ⟨G, i * 7 + 6, none⟩) := Lib.hid (fun i h => by
        rw [← HC2.out i h]
        have h9 := hO3 G HGl.out (fun e => hne9 e.symm)
        unfold World.cell?
        rw [h9])
      clear hW3 hO3
      go_wp2
      go_roundw
      case rel => exact ⟨j + 1, hlt, by go_num, by rw [HT.out, HX0.out]; congr 1; push_cast; omega, HW3.out, HC3.out⟩
      case measure => simp [intOf]; omega
    · obtain rfl : j = ms.length := by omega
      have HT : Hid (ms.take ms.length = ms) := Lib.hid (List.take_of_length_le (Nat.le_refl _))
      go_wp2
      go_ret
      exact ⟨ret_int (by rw [HT.out]), HW.out⟩

theorem RowAt.shp {w : World} {G n : Nat} {T : TypeId} {F : Nat → Value} (h : RowAt w G n T F) : Shp w G n T := by
  obtain ⟨cur, hg, hs, _⟩ := h
  exact ⟨cur, hg, hs⟩
theorem cnt_le (ns : List Nod) : cntM (ns.map fun n => n.list.length) ≤ 6 * ns.length + 2 * szNs ns := by
  unfold cntM szNs szN
  induction ns with
  | nil => simp
  | cons a r ih => simp only [List.map_cons, List.sum_cons, List.length_cons] at ih ⊢; omega
set_option maxRecDepth 100000 in
set_option maxHeartbeats 2000000 in
theorem markFs_own (f : FsD) (v : Value) (B : Nat) (w0 w : World) (hO : FsOwn w0 B v f) (hb0 : Below w0.heap.size w0 w) (hB0 : B ≤ w0.heap.size) (hs : szF f ≤ 1048576) : Calls Try.prog 13 #[v, .int .i64 1] w fun e w' => ∃ k : Int, 0 ≤ k ∧ k ≤ 100000000 ∧ e = .returned (.int .i64 k) ∧ Below B w w' ∧ ∀ i, w0.heap.size ≤ i → i < w.heap.size → w'.heap[i]? = w.heap[i]? := by
  have hBw : B ≤ w.heap.size := Nat.le_trans hB0 hb0.size
  obtain ⟨E, hEE⟩ : ∃ E, E = w0.heap.size := ⟨_, rfl⟩
  obtain ⟨nv, rfl, G, c, ps, rfl, hlc, hcm, hBG, hps, hr, hE⟩ := hO
  have hlp : ps.length = f.nodes.length := by rw [← hps]; simp
  have hml : (f.nodes.map fun n => n.list.length).length = f.nodes.length := by simp
  have hcnt : cntM (f.nodes.map fun n => n.list.length) ≤ 80000000 := by
    have h1 := cnt_le f.nodes
    unfold szF at hs
    omega
  have HSH := Lib.hid (hr.shp.below hb0)
  have hGE : G < E := by rw [hEE]; exact hr.lt
  have HLS : Hid (∀ i (h : i < (f.nodes.map fun n => n.list.length).length), ∃ lv, w.cell? ⟨G, i * 7 + 6, none⟩ = some lv ∧ LShp w B E lv (f.nodes.map fun n => n.list.length)[i]) := Lib.hid (fun i hi => by
    rw [hml] at hi
    have hip : i < ps.length := by omega
    have hn : (ps[i]).1 = f.nodes[i] := by
      have : (ps.map Prod.fst)[i]'(by simpa using hip) = f.nodes[i] := by simp [hps]
      rw [← this]; simp
    have hcell := hr.cell (j := i * 7 + 6) (by omega)
    have e1 : (i * 7 + 6) / 7 = i := by omega
    have e2 : (i * 7 + 6) % 7 = 6 := by omega
    refine ⟨(ps[i]).2, ?_, ?_⟩
    · rw [hb0.cell (p := ⟨G, i * 7 + 6, none⟩) hr.lt, hcell]
      unfold nodsF
      rw [e1, e2, List.getElem?_eq_getElem hip]
      rfl
    · obtain ⟨H, c9, e9, h1, h2, h3, hrr⟩ := hE _ (List.getElem_mem hip)
      rw [hn] at e9 h1 hrr
      simp only [List.getElem_map]
      exact ⟨H, c9, e9, h1, h2, ⟨by omega, by rw [hEE]; exact hrr.lt⟩, hrr.shp.below hb0⟩)
  have HWA : Hid (∀ o, Wr B E w (w.alloc o)) := Lib.hid (fun o => (Wr.refl B E w).below hBw ((Below.refl _ _).alloc (Nat.le_refl _) o))
  have HCA : Hid (∀ o i, (w.alloc o).cell? ⟨G, i, none⟩ = w.cell? ⟨G, i, none⟩) := Lib.hid (fun o i => ((Below.refl _ w).alloc (Nat.le_refl _) o).cell (p := ⟨G, i, none⟩) (Nat.lt_of_lt_of_le hr.lt hb0.size))
  obtain ⟨ms, hms⟩ : ∃ ms, ms = f.nodes.map fun n => n.list.length := ⟨_, rfl⟩
  rw [← hms] at HLS hcnt hml
  have hsh : Shp w G (ms.length * 7) 65 := by rw [hml]; exact HSH.out
  have HSM := Lib.hid hsh
  rw [← hml] at hlc ⊢
  clear hr hE hps hlp hms hsh hml
  go_enter Try.func13, Try.ntmps13
  go_wp2_with fail
  refine (markNodeS_shp G c B E ms _ ((HWA.out _).shp _ _ _ HSM.out) (fun i h => by
    obtain ⟨lv, h1, H, c9, e9, h2, h3, h4, h5⟩ := HLS.out i h
    exact ⟨lv, (HCA.out _ _).trans h1, H, c9, e9, h2, h3, h4, (HWA.out _).shp _ _ _ h5⟩) hlc hcm hBG hGE (Nat.le_trans hBw (HWA.out _).bel.size) hcnt).mono ?_
  rintro e w1 ⟨rfl, hW1⟩
  have HB1 := Lib.hid (((HWA.out _).trans hW1).bel)
  have HU1 : Hid (∀ i, w0.heap.size ≤ i → i < w.heap.size → w1.heap[i]? = w.heap[i]?) := Lib.hid (by rw [← hEE]; exact ((HWA.out _).trans hW1).up)
  clear hW1
  go_wp2
  go_ret
  exact ⟨_, by omega, by omega, rfl, HB1.out, HU1.out⟩
end Go.Proofs.Ytbmbbioanlcioaa
