
/-
  The model's l7Walk.
  Conditions: a good file system of at most 2^20 values and letters together.
-/
import Derived.Test.YtbmbbioanlcioaaWayM
import Derived.Test.YtbmbbioanlcioaaAppG
import Derived.Test.YtbmbbioanlcioaaListC
import Derived.Test.YtbmbbioanlcioaaMarkC
namespace Go.Proofs.Ytbmbbioanlcioaa
open Go.ChangeShapes Go.WideShapes Go.ChangeAt Go.RowKit Go.Joins
set_option linter.unusedVariables false
set_option linter.unusedSimpArgs false

theorem lst_joinW {w : World} {B : Nat} {v : Value} {ps qs : List (List UInt8)} (h : w.ownsRow B 9 1 v (ps.length + qs.length) (strs ps ++ strs qs)) : Lst w B v (ps ++ qs) := by
  unfold Lst
  rw [List.length_append]
  simpa [strs] using h
theorem strs_oneW (r : List (List UInt8)) : ∀ u ∈ strs r, u.oneCell' = true := by
  intro u hu
  simp only [strs, List.mem_map] at hu
  obtain ⟨p, _, rfl⟩ := hu
  rfl
theorem strs_len (r : List (List UInt8)) : (strs r).length = r.length * 1 := by simp [strs]
theorem rd_srcW {w : World} {v : Value} {ps : List (List UInt8)} (h : Rd w v ps) : ∃ o c, v = .slice o ps.length c ∧ SrcC w o ps.length (strs ps) := by
  obtain ⟨o, c, rfl, h1, h2, h3⟩ := h
  refine ⟨o, c, rfl, fun hm => ?_⟩
  have hp : 0 < ps.length := by omega
  obtain ⟨g, off, rfl, hg, -⟩ := h3 0 hp
  refine ⟨g, off, rfl, fun j u hj => ?_⟩
  simp only [strs, List.getElem?_map] at hj
  obtain ⟨p, hp1, rfl⟩ := Option.map_eq_some_iff.1 hj
  obtain ⟨hjl, rfl⟩ := List.getElem?_eq_some_iff.1 hp1
  obtain ⟨g2, off2, e, -, hc⟩ := h3 j hjl
  simp only [Option.some.injEq, Addr.mk.injEq, and_true] at e
  obtain ⟨rfl, rfl⟩ := e
  exact hc
theorem wyS_pre (ns : List Nod) (post : Bool) (k : Nat) (ps : List (List UInt8)) (es : List Ent) (j : Nat) : (wyS ns post k ps (es.take j)).length ≤ (wyS ns post k ps es).length := by
  conv => rhs; rw [← List.take_append_drop j es]
  unfold wyS
  rw [List.flatMap_append, List.length_append]; omega
theorem wyF_len (ns : List Nod) (post : Bool) (k k2 i : Nat) (ps : List (List UInt8)) (h : (k = 0 ∧ lsAt ns i = []) ∨ k = k2 + 1) : (wyF ns post k i ps).length = (wyS ns post k2 ps (lsAt ns i)).length + 1 := by
  rw [wyF_val ns post k k2 i ps h]; cases post <;> simp
theorem made_one (w : World) (x : ByteArray) : (w.alloc (.cells #[.string x] 9)).ownsRow w.heap.size 9 1 (.slice (some ⟨w.heap.size, 0, none⟩) 1 1) 1 [.string x] :=
  ⟨rfl, .inr ⟨w.heap.size, 1, #[.string x], rfl, Nat.le_refl _, heap_alloc_new w _, Nat.le_refl _, by unfold maxLen; omega, rfl, rfl⟩⟩

theorem src_oneW (w : World) (x : ByteArray) : SrcC (w.alloc (.cells #[.string x] 9)) (some ⟨w.heap.size, 0, none⟩) 1 [.string x] := fun _ => ⟨w.heap.size, 0, rfl, fun j u h => by
  have h2 := heap_alloc_new w (.cells #[.string x] 9)
  cases j with
  | zero =>
    simp at h; subst h
    simp only [World.cell?, h2]
    rfl
  | succ j => simp at h⟩
def WaySays (f : FsD) (post : Bool) (k : Nat) : Prop := ∀ (i : Nat) (v : Value) (ps : List (List UInt8)) (x : ByteArray) (w : World), FsA w v f → i < f.nodes.length → Down f.nodes k i → k ≤ 41 → ps.length + k ≤ 41 → (∀ p ∈ ps, p ≠ [46] ∧ p.length ≤ 8) → x = bs (wayB ps) →
  Calls Try.prog 27 #[v, .int .i64 (i : Int), .string x, .bool post] w fun e w' => ∃ v', e = .returned v' ∧ Lst w' w.heap.size v' (wyF f.nodes post k i ps) ∧ Below w.heap.size w w'
set_option maxRecDepth 100000 in
set_option maxHeartbeats 8000000 in
theorem l7WalkF_step (f : FsD) (hg : goodF f = true) (hs : szF f ≤ 1048576) (k : Nat) (ih : ∀ k2, k2 < k → WaySays f false k2) : WaySays f false k := by
  intro i v ps x w hR hi hD hk hkp hps hx
  have IH := Lib.hid ih
  have HR := Lib.hid hR
  have HPS := Lib.hid hps
  obtain ⟨i0, hi0, hz0, hz1, hz2⟩ := info_parts strInfo
  obtain ⟨nv, rfl, hN⟩ := hR
  obtain ⟨o, c, rfl, hm, hH⟩ := hN
  unfold maxLen at hm
  have hl : f.nodes.length ≤ 1048576 := (lists_small hs).1
  have hll : (lsAt f.nodes i).length ≤ 1048576 := by rw [lsAt_is hi]; exact ((lists_small hs).2 _ (List.getElem_mem hi)).1
  have hsm := wy_small hg hs hi hk false ps
  obtain ⟨g3, f3, lv3, rfl, hg3, hc3, he3, -⟩ := hH i hi
  rw [← lsAt_is hi] at he3
  have hb0 : Below w.heap.size w (w.alloc (.cells #[.slice (some ⟨g3, f3, none⟩) f.nodes.length c, .int .i64 f.room] 31)) := (Below.refl _ _).alloc (Nat.le_refl _) _
  have HB0 := Lib.hid hb0
  have HK0 := Lib.hid (heap_alloc_new w (.cells #[.slice (some ⟨g3, f3, none⟩) f.nodes.length c, .int .i64 f.room] 31))
  have c6 := (hc3.below hb0 hg3).c6
  obtain ⟨o5, c5, rfl, -, hH5⟩ := he3
  have HH5 := Lib.hid hH5
  obtain ⟨k2, hk2, hk3, hv3, hk4⟩ : ∃ k2, k ≤ k2 + 1 ∧ k2 ≤ k ∧ ((k = 0 ∧ lsAt f.nodes i = []) ∨ k = k2 + 1) ∧ ∀ e ∈ lsAt f.nodes i, k = k2 + 1 ∧ (0 ≤ e.node ∧ e.node < f.nodes.length) ∧ Down f.nodes k2 e.node.toNat ∧ e.name ≠ [46] ∧ e.name.length ≤ 8 := by
    cases k with
    | zero => exact ⟨0, by omega, by omega, .inl ⟨rfl, hD⟩, fun e he => by rw [show lsAt f.nodes i = [] from hD] at he; cases he⟩
    | succ k => exact ⟨k, by omega, by omega, .inr rfl, fun e he => ⟨rfl, (hD e he).1, (hD e he).2, name_facts hg he⟩⟩
  rw [wyF_len _ _ _ _ _ _ hv3] at hsm
  have hval := wyF_val f.nodes false k k2 i ps hv3
  obtain ⟨es, hes⟩ : ∃ es, es = lsAt f.nodes i := ⟨_, rfl⟩
  rw [← hes] at HH5 c6 hll hsm hval hk4
  have HV := Lib.hid hval
  have HK4 := Lib.hid hk4
  have HX := Lib.hid hx
  have HSM := Lib.hid hsm
  have hxs : x.size ≤ 500 := by
    have := wayB_size (fun p hp => (hps p hp).2)
    rw [hx, bs_size]
    omega
  have hb0s : w.heap.size < (w.alloc (.cells #[.slice (some ⟨g3, f3, none⟩) f.nodes.length c, .int .i64 f.room] 31)).heap.size := lt_of_heap HK0.out
  clear hH hb0 hD hk4 hc3 hH5 hes ih hv3 hval hx hps
  go_enter Try.func27, Try.ntmps27
  go_wp2
  go_loopw [9, 20] (fun t5 i9 wr => ∃ j : Nat, j ≤ es.length ∧ i9 = .int .i64 j ∧ Lst wr (w.heap.size + 1) t5 (wyS f.nodes false k2 ps (es.take j)) ∧ Below w.heap.size w wr ∧ wr.heap[w.heap.size]? = some (.cells #[.slice (some ⟨g3, f3, none⟩) f.nodes.length c, .int .i64 f.room] 31)) (fun _ i9 _ => es.length - (intOf i9).toNat)
  case atStart => exact ⟨0, Nat.zero_le _, rfl, Lst.nil _ _, HB0.out, HK0.out⟩
  case round =>
    obtain ⟨j, hj, rfl, hL, hB, hX⟩ := hrel
    have HL := Lib.hid hL
    have HB := Lib.hid hB
    have HX2 := Lib.hid hX
    have hsx := lt_of_heap hX
    have hsz := hB.size
    have hpr := wyS_pre f.nodes false k2 ps es j
    obtain ⟨WL, hWL⟩ : ∃ WL, WL = wyS f.nodes false k2 ps (es.take j) := ⟨_, rfl⟩
    rw [← hWL] at hpr HL
    obtain ⟨oo5, cap5, rfl, hoo5⟩ := owns_form HL.out
    by_cases hlt : j < es.length
    · obtain ⟨g9, f9, rfl, q9, y1, y2, -⟩ := HH5.out j hlt
      obtain ⟨he1, ⟨he2, he3⟩, he4, he5, he6⟩ := HK4.out _ (List.getElem_mem hlt)
      obtain ⟨cc, hcc⟩ : ∃ cc : Nat, es[j].node = cc := ⟨es[j].node.toNat, by omega⟩
      have HT := Lib.hid (wyS_take (ns := f.nodes) (post := false) (k := k2) (ps := ps) hlt)
      have HPN := wyS_pre f.nodes false k2 ps es (j + 1)
      rw [HT.out, ← hWL] at HPN
      rw [← hWL, hcc] at HT
      rw [hcc] at y2 he4 he3 HPN
      rw [show ((cc : Int)).toNat = cc by simp] at he4 HT HPN
      have a1 := (hB.cell (p := ⟨g9, f9 + j * 2, none⟩) q9).trans y1
      have a2 := (hB.cell (p := ⟨g9, f9 + j * 2 + 1, none⟩) q9).trans y2
      obtain ⟨nm, hnm⟩ : ∃ nm, nm = es[j].name := ⟨_, rfl⟩
      rw [← hnm] at a1 he5 he6 HT HPN
      obtain ⟨hsn1, hsn2⟩ := wayB_snoc (fun p hp => (HPS.out p hp).1) nm
      obtain ⟨y, hy⟩ : ∃ y, y = bs nm := ⟨_, rfl⟩
      rw [← hy] at a1
      have hys : y.size ≤ 8 := by rw [hy, bs_size]; exact he6
      have HPS2 : Hid (∀ p ∈ ps ++ [nm], p ≠ [46] ∧ p.length ≤ 8) := Lib.hid (fun p hp => by
        rcases List.mem_append.1 hp with h | h
        · exact HPS.out p h
        · rw [List.mem_singleton.1 h]; exact ⟨he5, he6⟩)
      have hBa := hB.alloc hB.size (.cells #[.string y, .int .i64 (cc : Int)] 67)
      have HBa := Lib.hid hBa
      have HXa := Lib.hid ((Below.heap_alloc wr (.cells #[.string y, .int .i64 (cc : Int)] 67) _ hsx).trans hX)
      have HLa := Lib.hid (Lst.alloc HL.out (.cells #[.string y, .int .i64 (cc : Int)] 67))
      have k0 : wr.cell? ⟨w.heap.size, 0, none⟩ = some (.slice (some ⟨g3, f3, none⟩) f.nodes.length c) := cell_blk hX 0
      have k1 : wr.cell? ⟨w.heap.size, 1, none⟩ = some (.int .i64 f.room) := cell_blk hX 1
      have HD4 := Lib.hid he4
      have hnx : ∃ d : Bool, (x.toList == [46]) = d ∧ (d = true → y = bs (wayB (ps ++ [nm]))) ∧ (d = false → x ++ ⟨#[47]⟩ ++ y = bs (wayB (ps ++ [nm]))) := by
        refine ⟨_, rfl, fun h => ?_, fun h => ?_⟩
        · rw [HX.out, ByteArray.toList_eq, bs_list] at h
          rw [hsn2 (by simpa using h), hy]
        · rw [HX.out, ByteArray.toList_eq, bs_list] at h
          rw [hsn1 (by simpa using h), hy, HX.out, show (⟨#[47]⟩ : ByteArray) = bs [47] from rfl, bs_app, bs_app]
      obtain ⟨d, hd, hd1, hd2⟩ := hnx
      have HD1 := Lib.hid hd1
      have HD2 := Lib.hid hd2
      clear hB hX y1 y2 hcc hBa he4 hL hd1 hd2 hsn1 hsn2 hy hnm hWL
      cases d
      · have HN := Lib.hid (HD2.out rfl)
        go_wp2_with fail
        refine (IH.out k2 (by omega) cc _ (ps ++ [nm]) _ _ (HR.out.below HBa.out) (by omega) HD4.out (by omega) (by simp; omega) HPS2.out HN.out).mono ?_
        rintro e w2 ⟨v2, rfl, hL2, hb2⟩
        have HB2 := Lib.hid (HBa.out.trans (hb2.mono HBa.out.size))
        have HX3 := Lib.hid ((hb2.block _ (lt_of_heap HXa.out)).trans HXa.out)
        have hL1 := lst_below HLa.out hb2
        obtain ⟨o2, c2, rfl, hsrc⟩ := rd_srcW hL2.read
        have HSR := Lib.hid hsrc
        have HL1 := Lib.hid hL1
        have HS2 : Hid (w.heap.size + 1 ≤ w2.heap.size) := Lib.hid (Nat.le_trans (lt_of_heap HXa.out) hb2.size)
        clear hL2 hb2 hL1 hsrc
        go_wp2_with (at_builtin; go_loud (refine wpList_append_src _ rfl _ _ 26 rfl (w.heap.size + 1) 9 i0 (.string ⟨#[]⟩) 1 16 Try.underlying26 hi0 hz0 hz1 hz2 rfl (by decide) _ _ _ rfl HL1.out o2 _ c2 _ rfl (strs_len _) HSR.out (strs_oneW _) (by unfold maxLen; simp at HPN; omega) (by simp at HPN; omega) HS2.out ?_))
        intro v3 w3 hown3 hgrow3 _
        have hL3 := lst_joinW hown3
        rw [← HT.out] at hL3
        have hx3 := (hgrow3.block w.heap.size (Nat.lt_of_succ_le HS2.out) (fun e => by have := (World.ownsRow.lt HL1.out _ e.symm).1; omega)).trans HX3.out
        have hb3 := HB2.out.grown hgrow3 HB2.out.size (fun b eb => by have := (World.ownsRow.lt HL1.out _ eb).1; omega)
        have HL3 := Lib.hid hL3
        have HX4 := Lib.hid hx3
        have HB3 := Lib.hid hb3
        clear hown3 hgrow3 hL3 hx3 hb3
        go_wp2
        go_roundw
        case rel => exact ⟨j + 1, hlt, by go_num, HL3.out, HB3.out, HX4.out⟩
        case measure => simp [intOf]; omega
      · have HN := Lib.hid (HD1.out rfl)
        go_wp2_with fail
        refine (IH.out k2 (by omega) cc _ (ps ++ [nm]) _ _ (HR.out.below HBa.out) (by omega) HD4.out (by omega) (by simp; omega) HPS2.out HN.out).mono ?_
        rintro e w2 ⟨v2, rfl, hL2, hb2⟩
        have HB2 := Lib.hid (HBa.out.trans (hb2.mono HBa.out.size))
        have HX3 := Lib.hid ((hb2.block _ (lt_of_heap HXa.out)).trans HXa.out)
        have hL1 := lst_below HLa.out hb2
        obtain ⟨o2, c2, rfl, hsrc⟩ := rd_srcW hL2.read
        have HSR := Lib.hid hsrc
        have HL1 := Lib.hid hL1
        have HS2 : Hid (w.heap.size + 1 ≤ w2.heap.size) := Lib.hid (Nat.le_trans (lt_of_heap HXa.out) hb2.size)
        clear hL2 hb2 hL1 hsrc
        go_wp2_with (at_builtin; go_loud (refine wpList_append_src _ rfl _ _ 26 rfl (w.heap.size + 1) 9 i0 (.string ⟨#[]⟩) 1 16 Try.underlying26 hi0 hz0 hz1 hz2 rfl (by decide) _ _ _ rfl HL1.out o2 _ c2 _ rfl (strs_len _) HSR.out (strs_oneW _) (by unfold maxLen; simp at HPN; omega) (by simp at HPN; omega) HS2.out ?_))
        intro v3 w3 hown3 hgrow3 _
        have hL3 := lst_joinW hown3
        rw [← HT.out] at hL3
        have hx3 := (hgrow3.block w.heap.size (Nat.lt_of_succ_le HS2.out) (fun e => by have := (World.ownsRow.lt HL1.out _ e.symm).1; omega)).trans HX3.out
        have hb3 := HB2.out.grown hgrow3 HB2.out.size (fun b eb => by have := (World.ownsRow.lt HL1.out _ eb).1; omega)
        have HL3 := Lib.hid hL3
        have HX4 := Lib.hid hx3
        have HB3 := Lib.hid hb3
        clear hown3 hgrow3 hL3 hx3 hb3
        go_wp2
        go_roundw
        case rel => exact ⟨j + 1, hlt, by go_num, HL3.out, HB3.out, HX4.out⟩
        case measure => simp [intOf]; omega
    · have HT : Hid (es.take j = es) := Lib.hid (List.take_of_length_le (by omega))
      rw [HT.out] at hWL
      have HWL := Lib.hid hWL
      clear hL hB hX hWL
      obtain ⟨o2, c2, e2, hsrc⟩ := rd_srcW (Lst.read (Lst.alloc HL.out (.cells #[.string x] 9)))
      simp only [Value.slice.injEq, true_and] at e2
      obtain ⟨rfl, rfl⟩ := e2
      have HSR := Lib.hid hsrc
      clear hsrc
      go_wp2_with (at_builtin; go_loud (refine wpList_append_src _ rfl _ _ 26 rfl wr.heap.size 9 i0 (.string ⟨#[]⟩) 1 16 Try.underlying26 hi0 hz0 hz1 hz2 rfl (by decide) _ _ _ rfl (made_one wr x) oo5 _ cap5 _ rfl (strs_len _) HSR.out (strs_oneW _) (by unfold maxLen; omega) (by omega) (by simp) ?_))
      intro v3 w3 hown3 hgrow3 _
      have hL3 := lst_joinW (ps := [wayB ps]) (qs := WL) (by rw [show strs [wayB ps] = [.string x] by rw [HX.out]; rfl]; exact hown3)
      have hb3 := (HB.out.alloc hsz (.cells #[.string x] 9)).grown hgrow3 (Nat.le_trans hsz (by simp)) (fun b eb => by simp [Value.ownBlock] at eb; omega)
      have HL3 := Lib.hid hL3
      have HB3 := Lib.hid hb3
      clear hown3 hgrow3 hL3 hb3
      go_wp2
      go_ret
      exact ⟨_, rfl, by rw [HV.out, ← HWL.out]; exact lst_mono HL3.out hsz, HB3.out⟩

set_option maxRecDepth 100000 in
set_option maxHeartbeats 8000000 in
theorem l7WalkT_step (f : FsD) (hg : goodF f = true) (hs : szF f ≤ 1048576) (k : Nat) (ih : ∀ k2, k2 < k → WaySays f true k2) : WaySays f true k := by
  intro i v ps x w hR hi hD hk hkp hps hx
  have IH := Lib.hid ih
  have HR := Lib.hid hR
  have HPS := Lib.hid hps
  obtain ⟨i0, hi0, hz0, hz1, hz2⟩ := info_parts strInfo
  obtain ⟨nv, rfl, hN⟩ := hR
  obtain ⟨o, c, rfl, hm, hH⟩ := hN
  unfold maxLen at hm
  have hl : f.nodes.length ≤ 1048576 := (lists_small hs).1
  have hll : (lsAt f.nodes i).length ≤ 1048576 := by rw [lsAt_is hi]; exact ((lists_small hs).2 _ (List.getElem_mem hi)).1
  have hsm := wy_small hg hs hi hk true ps
  obtain ⟨g3, f3, lv3, rfl, hg3, hc3, he3, -⟩ := hH i hi
  rw [← lsAt_is hi] at he3
  have hb0 : Below w.heap.size w (w.alloc (.cells #[.slice (some ⟨g3, f3, none⟩) f.nodes.length c, .int .i64 f.room] 31)) := (Below.refl _ _).alloc (Nat.le_refl _) _
  have HB0 := Lib.hid hb0
  have HK0 := Lib.hid (heap_alloc_new w (.cells #[.slice (some ⟨g3, f3, none⟩) f.nodes.length c, .int .i64 f.room] 31))
  have c6 := (hc3.below hb0 hg3).c6
  obtain ⟨o5, c5, rfl, -, hH5⟩ := he3
  have HH5 := Lib.hid hH5
  obtain ⟨k2, hk2, hk3, hv3, hk4⟩ : ∃ k2, k ≤ k2 + 1 ∧ k2 ≤ k ∧ ((k = 0 ∧ lsAt f.nodes i = []) ∨ k = k2 + 1) ∧ ∀ e ∈ lsAt f.nodes i, k = k2 + 1 ∧ (0 ≤ e.node ∧ e.node < f.nodes.length) ∧ Down f.nodes k2 e.node.toNat ∧ e.name ≠ [46] ∧ e.name.length ≤ 8 := by
    cases k with
    | zero => exact ⟨0, by omega, by omega, .inl ⟨rfl, hD⟩, fun e he => by rw [show lsAt f.nodes i = [] from hD] at he; cases he⟩
    | succ k => exact ⟨k, by omega, by omega, .inr rfl, fun e he => ⟨rfl, (hD e he).1, (hD e he).2, name_facts hg he⟩⟩
  rw [wyF_len _ _ _ _ _ _ hv3] at hsm
  have hval := wyF_val f.nodes true k k2 i ps hv3
  obtain ⟨es, hes⟩ : ∃ es, es = lsAt f.nodes i := ⟨_, rfl⟩
  rw [← hes] at HH5 c6 hll hsm hval hk4
  have HV := Lib.hid hval
  have HK4 := Lib.hid hk4
  have HX := Lib.hid hx
  have HSM := Lib.hid hsm
  have hxs : x.size ≤ 500 := by
    have := wayB_size (fun p hp => (hps p hp).2)
    rw [hx, bs_size]
    omega
  have hb0s : w.heap.size < (w.alloc (.cells #[.slice (some ⟨g3, f3, none⟩) f.nodes.length c, .int .i64 f.room] 31)).heap.size := lt_of_heap HK0.out
  clear hH hb0 hD hk4 hc3 hH5 hes ih hv3 hval hx hps
  go_enter Try.func27, Try.ntmps27
  go_wp2
  go_loopw [9, 20] (fun t5 i9 wr => ∃ j : Nat, j ≤ es.length ∧ i9 = .int .i64 j ∧ Lst wr (w.heap.size + 1) t5 (wyS f.nodes true k2 ps (es.take j)) ∧ Below w.heap.size w wr ∧ wr.heap[w.heap.size]? = some (.cells #[.slice (some ⟨g3, f3, none⟩) f.nodes.length c, .int .i64 f.room] 31)) (fun _ i9 _ => es.length - (intOf i9).toNat)
  case atStart => exact ⟨0, Nat.zero_le _, rfl, Lst.nil _ _, HB0.out, HK0.out⟩
  case round =>
    obtain ⟨j, hj, rfl, hL, hB, hX⟩ := hrel
    have HL := Lib.hid hL
    have HB := Lib.hid hB
    have HX2 := Lib.hid hX
    have hsx := lt_of_heap hX
    have hsz := hB.size
    have hpr := wyS_pre f.nodes true k2 ps es j
    obtain ⟨WL, hWL⟩ : ∃ WL, WL = wyS f.nodes true k2 ps (es.take j) := ⟨_, rfl⟩
    rw [← hWL] at hpr HL
    obtain ⟨oo5, cap5, rfl, hoo5⟩ := owns_form HL.out
    by_cases hlt : j < es.length
    · obtain ⟨g9, f9, rfl, q9, y1, y2, -⟩ := HH5.out j hlt
      obtain ⟨he1, ⟨he2, he3⟩, he4, he5, he6⟩ := HK4.out _ (List.getElem_mem hlt)
      obtain ⟨cc, hcc⟩ : ∃ cc : Nat, es[j].node = cc := ⟨es[j].node.toNat, by omega⟩
      have HT := Lib.hid (wyS_take (ns := f.nodes) (post := true) (k := k2) (ps := ps) hlt)
      have HPN := wyS_pre f.nodes true k2 ps es (j + 1)
      rw [HT.out, ← hWL] at HPN
      rw [← hWL, hcc] at HT
      rw [hcc] at y2 he4 he3 HPN
      rw [show ((cc : Int)).toNat = cc by simp] at he4 HT HPN
      have a1 := (hB.cell (p := ⟨g9, f9 + j * 2, none⟩) q9).trans y1
      have a2 := (hB.cell (p := ⟨g9, f9 + j * 2 + 1, none⟩) q9).trans y2
      obtain ⟨nm, hnm⟩ : ∃ nm, nm = es[j].name := ⟨_, rfl⟩
      rw [← hnm] at a1 he5 he6 HT HPN
      obtain ⟨hsn1, hsn2⟩ := wayB_snoc (fun p hp => (HPS.out p hp).1) nm
      obtain ⟨y, hy⟩ : ∃ y, y = bs nm := ⟨_, rfl⟩
      rw [← hy] at a1
      have hys : y.size ≤ 8 := by rw [hy, bs_size]; exact he6
      have HPS2 : Hid (∀ p ∈ ps ++ [nm], p ≠ [46] ∧ p.length ≤ 8) := Lib.hid (fun p hp => by
        rcases List.mem_append.1 hp with h | h
        · exact HPS.out p h
        · rw [List.mem_singleton.1 h]; exact ⟨he5, he6⟩)
      have hBa := hB.alloc hB.size (.cells #[.string y, .int .i64 (cc : Int)] 67)
      have HBa := Lib.hid hBa
      have HXa := Lib.hid ((Below.heap_alloc wr (.cells #[.string y, .int .i64 (cc : Int)] 67) _ hsx).trans hX)
      have HLa := Lib.hid (Lst.alloc HL.out (.cells #[.string y, .int .i64 (cc : Int)] 67))
      have k0 : wr.cell? ⟨w.heap.size, 0, none⟩ = some (.slice (some ⟨g3, f3, none⟩) f.nodes.length c) := cell_blk hX 0
      have k1 : wr.cell? ⟨w.heap.size, 1, none⟩ = some (.int .i64 f.room) := cell_blk hX 1
      have HD4 := Lib.hid he4
      have hnx : ∃ d : Bool, (x.toList == [46]) = d ∧ (d = true → y = bs (wayB (ps ++ [nm]))) ∧ (d = false → x ++ ⟨#[47]⟩ ++ y = bs (wayB (ps ++ [nm]))) := by
        refine ⟨_, rfl, fun h => ?_, fun h => ?_⟩
        · rw [HX.out, ByteArray.toList_eq, bs_list] at h
          rw [hsn2 (by simpa using h), hy]
        · rw [HX.out, ByteArray.toList_eq, bs_list] at h
          rw [hsn1 (by simpa using h), hy, HX.out, show (⟨#[47]⟩ : ByteArray) = bs [47] from rfl, bs_app, bs_app]
      obtain ⟨d, hd, hd1, hd2⟩ := hnx
      have HD1 := Lib.hid hd1
      have HD2 := Lib.hid hd2
      clear hB hX y1 y2 hcc hBa he4 hL hd1 hd2 hsn1 hsn2 hy hnm hWL
      cases d
      · have HN := Lib.hid (HD2.out rfl)
        go_wp2_with fail
        refine (IH.out k2 (by omega) cc _ (ps ++ [nm]) _ _ (HR.out.below HBa.out) (by omega) HD4.out (by omega) (by simp; omega) HPS2.out HN.out).mono ?_
        rintro e w2 ⟨v2, rfl, hL2, hb2⟩
        have HB2 := Lib.hid (HBa.out.trans (hb2.mono HBa.out.size))
        have HX3 := Lib.hid ((hb2.block _ (lt_of_heap HXa.out)).trans HXa.out)
        have hL1 := lst_below HLa.out hb2
        obtain ⟨o2, c2, rfl, hsrc⟩ := rd_srcW hL2.read
        have HSR := Lib.hid hsrc
        have HL1 := Lib.hid hL1
        have HS2 : Hid (w.heap.size + 1 ≤ w2.heap.size) := Lib.hid (Nat.le_trans (lt_of_heap HXa.out) hb2.size)
        clear hL2 hb2 hL1 hsrc
        go_wp2_with (at_builtin; go_loud (refine wpList_append_src _ rfl _ _ 26 rfl (w.heap.size + 1) 9 i0 (.string ⟨#[]⟩) 1 16 Try.underlying26 hi0 hz0 hz1 hz2 rfl (by decide) _ _ _ rfl HL1.out o2 _ c2 _ rfl (strs_len _) HSR.out (strs_oneW _) (by unfold maxLen; simp at HPN; omega) (by simp at HPN; omega) HS2.out ?_))
        intro v3 w3 hown3 hgrow3 _
        have hL3 := lst_joinW hown3
        rw [← HT.out] at hL3
        have hx3 := (hgrow3.block w.heap.size (Nat.lt_of_succ_le HS2.out) (fun e => by have := (World.ownsRow.lt HL1.out _ e.symm).1; omega)).trans HX3.out
        have hb3 := HB2.out.grown hgrow3 HB2.out.size (fun b eb => by have := (World.ownsRow.lt HL1.out _ eb).1; omega)
        have HL3 := Lib.hid hL3
        have HX4 := Lib.hid hx3
        have HB3 := Lib.hid hb3
        clear hown3 hgrow3 hL3 hx3 hb3
        go_wp2
        go_roundw
        case rel => exact ⟨j + 1, hlt, by go_num, HL3.out, HB3.out, HX4.out⟩
        case measure => simp [intOf]; omega
      · have HN := Lib.hid (HD1.out rfl)
        go_wp2_with fail
        refine (IH.out k2 (by omega) cc _ (ps ++ [nm]) _ _ (HR.out.below HBa.out) (by omega) HD4.out (by omega) (by simp; omega) HPS2.out HN.out).mono ?_
        rintro e w2 ⟨v2, rfl, hL2, hb2⟩
        have HB2 := Lib.hid (HBa.out.trans (hb2.mono HBa.out.size))
        have HX3 := Lib.hid ((hb2.block _ (lt_of_heap HXa.out)).trans HXa.out)
        have hL1 := lst_below HLa.out hb2
        obtain ⟨o2, c2, rfl, hsrc⟩ := rd_srcW hL2.read
        have HSR := Lib.hid hsrc
        have HL1 := Lib.hid hL1
        have HS2 : Hid (w.heap.size + 1 ≤ w2.heap.size) := Lib.hid (Nat.le_trans (lt_of_heap HXa.out) hb2.size)
        clear hL2 hb2 hL1 hsrc
        go_wp2_with (at_builtin; go_loud (refine wpList_append_src _ rfl _ _ 26 rfl (w.heap.size + 1) 9 i0 (.string ⟨#[]⟩) 1 16 Try.underlying26 hi0 hz0 hz1 hz2 rfl (by decide) _ _ _ rfl HL1.out o2 _ c2 _ rfl (strs_len _) HSR.out (strs_oneW _) (by unfold maxLen; simp at HPN; omega) (by simp at HPN; omega) HS2.out ?_))
        intro v3 w3 hown3 hgrow3 _
        have hL3 := lst_joinW hown3
        rw [← HT.out] at hL3
        have hx3 := (hgrow3.block w.heap.size (Nat.lt_of_succ_le HS2.out) (fun e => by have := (World.ownsRow.lt HL1.out _ e.symm).1; omega)).trans HX3.out
        have hb3 := HB2.out.grown hgrow3 HB2.out.size (fun b eb => by have := (World.ownsRow.lt HL1.out _ eb).1; omega)
        have HL3 := Lib.hid hL3
        have HX4 := Lib.hid hx3
        have HB3 := Lib.hid hb3
        clear hown3 hgrow3 hL3 hx3 hb3
        go_wp2
        go_roundw
        case rel => exact ⟨j + 1, hlt, by go_num, HL3.out, HB3.out, HX4.out⟩
        case measure => simp [intOf]; omega
    · have HT : Hid (es.take j = es) := Lib.hid (List.take_of_length_le (by omega))
      rw [HT.out] at hWL
      have HWL := Lib.hid hWL
      clear hL hB hX hWL
      go_wp2_with (at_builtin; go_loud (refine wpList_append_src _ rfl _ _ 26 rfl (w.heap.size + 1) 9 i0 (.string ⟨#[]⟩) 1 16 Try.underlying26 hi0 hz0 hz1 hz2 rfl (by decide) _ _ _ rfl (Lst.alloc HL.out (.cells #[.string x] 9)) _ 1 1 [.string x] rfl rfl (src_oneW wr x) (by simp [Value.oneCell']) (by unfold maxLen; omega) (by omega) (by simp; omega) ?_))
      intro v3 w3 hown3 hgrow3 _
      have hL3 := Lst.snoc HX.out hown3
      have hb3 := (HB.out.alloc hsz (.cells #[.string x] 9)).grown hgrow3 (Nat.le_trans hsz (by simp)) (fun b eb => by have := (World.ownsRow.lt HL.out _ eb).1; omega)
      have HL3 := Lib.hid hL3
      have HB3 := Lib.hid hb3
      clear hown3 hgrow3 hL3 hb3
      go_wp2
      go_ret
      exact ⟨_, rfl, by rw [HV.out, ← HWL.out]; exact lst_mono HL3.out (Nat.le_succ _), HB3.out⟩
theorem l7WalkF_any (f : FsD) (hg : goodF f = true) (hs : szF f ≤ 1048576) (k : Nat) : WaySays f false k := by
  induction k using Nat.strongRecOn with
  | ind k ih => exact l7WalkF_step f hg hs k ih
theorem l7WalkT_any (f : FsD) (hg : goodF f = true) (hs : szF f ≤ 1048576) (k : Nat) : WaySays f true k := by
  induction k using Nat.strongRecOn with
  | ind k ih => exact l7WalkT_step f hg hs k ih
end Go.Proofs.Ytbmbbioanlcioaa
