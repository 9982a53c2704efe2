
/-
  The program's walkPre with the closure of NodesBelow.
  Conditions: a good file system of at most 2^20 values and letters together.
-/
import Derived.Test.YtbmbbioanlcioaaWayC
import Derived.Test.YtbmbbioanlcioaaBelI
namespace Go.Proofs.Ytbmbbioanlcioaa
open Go.ChangeShapes Go.WideShapes Go.ChangeAt Go.RowKit Go.Joins
set_option linter.unusedVariables false
set_option linter.unusedSimpArgs false

/-- The nodes below, as often as there are ways. -/
def biF (ns : List Nod) : Nat → Nat → List Int
  | 0, i => [(i : Int)]
  | k + 1, i => (i : Int) :: (lsAt ns i).flatMap fun e => biF ns k e.node.toNat
def biS (ns : List Nod) (k : Nat) (es : List Ent) : List Int := es.flatMap fun e => biF ns k e.node.toNat
theorem biS_take {ns : List Nod} {k : Nat} {es : List Ent} {j : Nat} (h : j < es.length) : biS ns k (es.take (j + 1)) = biS ns k (es.take j) ++ biF ns k es[j].node.toNat := by
  unfold biS; rw [List.take_succ_eq_append_getElem h, List.flatMap_append]; simp
theorem biF_val (ns : List Nod) (k k2 i : Nat) (h : (k = 0 ∧ lsAt ns i = []) ∨ k = k2 + 1) : biF ns k i = (i : Int) :: biS ns k2 (lsAt ns i) := by
  rcases h with ⟨rfl, h⟩ | rfl
  · rw [h]; rfl
  · rfl
theorem biF_len (ns : List Nod) (k k2 i : Nat) (h : (k = 0 ∧ lsAt ns i = []) ∨ k = k2 + 1) : (biF ns k i).length = (biS ns k2 (lsAt ns i)).length + 1 := by
  rw [biF_val ns k k2 i h]; simp
theorem biS_pre (ns : List Nod) (k : Nat) (es : List Ent) (j : Nat) : (biS ns k (es.take j)).length ≤ (biS ns k es).length := by
  conv => rhs; rw [← List.take_append_drop j es]
  unfold biS
  rw [List.flatMap_append, List.length_append]; omega
theorem bi_wy (ns : List Nod) : ∀ (k i : Nat) (ps : List (List UInt8)), (biF ns k i).length = (wyF ns false k i ps).length
  | 0, _, _ => rfl
  | k + 1, i, ps => by
    show ((i : Int) :: (lsAt ns i).flatMap fun e => biF ns k e.node.toNat).length = (wayB ps :: (lsAt ns i).flatMap fun e => wyF ns false k e.node.toNat (ps ++ [e.name])).length
    rw [List.length_cons, List.length_cons, len_flat, len_flat]
    congr 2
    exact List.map_congr_left fun e _ => bi_wy ns k _ _
theorem row_ne_boxA {w : World} {B d n : Nat} {e T : TypeId} {v : Value} {xs : List Value} {z : Value} (h : w.ownsRow B e 1 v n xs) (hb : w.heap[d]? = some (.cells #[z] T)) (hne : e ≠ T) : v.ownBlock ≠ some d := by
  rcases h.2 with ⟨rfl, _⟩ | ⟨g, cap, cur, rfl, hB, hg, _⟩
  · simp [Value.ownBlock]
  · intro e2
    simp [Value.ownBlock] at e2
    subst e2
    rw [hg] at hb
    simp at hb
    exact hne hb.2
theorem lstI_lt {w : World} {B : Nat} {v : Value} {xs : List Int} (h : LstI w B v xs) : ∀ g, v.ownBlock = some g → B ≤ g ∧ g < w.heap.size := fun g e => World.ownsRow.lt h g e
theorem LstI.snoc {w : World} {B : Nat} {v : Value} {ps : List Int} {p : Int} (h : w.ownsRow B 3 1 v (ps.length + 1) (ints ps ++ [.int .i64 p])) : LstI w B v (ps ++ [p]) := by
  unfold LstI
  simpa [ints] using h
set_option maxHeartbeats 2000000 in
theorem met_visit (bd i : Nat) (ws : List Int) (nm v : Value) (B : Nat) (w : World) (hB : B ≤ bd) (hbd : w.heap[bd]? = some (.cells #[v] 38)) (hL : LstI w B v ws) (hws : ws.length ≤ 50000000) :
    Calls Try.prog 37 #[.int .i64 (i : Int), nm, .pointer (some ⟨bd, 0, none⟩)] w fun e w' => e = .returned (.tuple #[]) ∧ ∃ v', w'.heap[bd]? = some (.cells #[v'] 38) ∧ LstI w' B v' (ws ++ [(i : Int)]) ∧ Eff w w' bd v.ownBlock ∧ NewB w.heap.size v v' := by
  obtain ⟨i0, hi0, hz0, hz1, hz2⟩ := info_parts intInfo
  have HBX := Lib.hid hbd
  have HL := Lib.hid hL
  have HNE := Lib.hid (row_ne_boxA hL hbd (by decide))
  have hbl := lt_of_heap hbd
  have k0 : w.cell? ⟨bd, 0, none⟩ = some v := cell_blk hbd 0
  obtain ⟨oo, cc, rfl, hoo⟩ := owns_form hL
  clear hbd hL hoo
  go_enter Try.func37, Try.ntmps37
  go_wp2_with (at_builtin; go_loud (refine wpList_append_keep _ rfl _ _ 38 rfl B 3 i0 (.int .i64 0) 1 8 Try.underlying38 hi0 hz0 hz1 hz2 rfl (by decide) _ _ _ rfl (World.ownsRow.alloc HL.out (.cells #[.int .i64 (i : Int)] 3)) ⟨w.heap.size, 0, none⟩ 1 1 [.int .i64 (i : Int)] (by decide) rfl rfl (cell_one_new w (.int .i64 (i : Int)) 3) (by simp [Value.oneCell']) (by unfold maxLen; omega) (by omega) (by simp; omega) ?_))
  intro v6 w6 hown6 hgrow6 hkeep6 hsame6
  obtain ⟨oo6, cc6, rfl, -⟩ := owns_form hown6
  have HO6 := Lib.hid hown6
  have HS6 : Hid ((Value.slice oo6 (ws.length + 1) cc6).ownBlock = (Value.slice oo ws.length cc).ownBlock ∨ (Value.slice oo6 (ws.length + 1) cc6).ownBlock = some (w.heap.size + 1)) := Lib.hid (by
    rcases hsame6 with ⟨g, cap, ⟨rfl, rfl⟩, e9⟩ | h
    · exact .inl (by rw [e9]; rfl)
    · exact .inr h)
  have HG6 := Lib.hid hgrow6
  have HX6 := Lib.hid ((hgrow6.block bd (by simp; omega) (fun e => HNE.out e.symm)).trans ((Below.heap_alloc w _ _ hbl).trans HBX.out))
  have e6 : w6.cell? ⟨bd, 0, none⟩ = some (.slice oo ws.length cc) := cell_blk HX6.out 0
  have f6 := frozen_blk HX6.out 0
  clear hown6 hgrow6 hkeep6 hsame6
  go_wp2
  go_end0
  refine ⟨rfl, _, heap_setCell_same w6 bd 0 _ _ _ HX6.out, ?_, ?_, ?_⟩
  · have h7 := LstI.snoc (ps := ws) (p := (i : Int)) HO6.out
    refine World.ownsRow.kept h7 (row := some bd) ⟨rfl, rfl, rfl, by simp, fun j _ hj => Below.heap_setCell w6 ⟨bd, 0, none⟩ _ j (fun e => hj (by simp [e]))⟩ (.inr ?_)
    exact row_ne_boxA h7 HX6.out (by decide)
  · exact eff_set ((Eff.of_below _ _ ((Below.refl _ w).alloc (Nat.le_refl _) (.cells #[.int .i64 (i : Int)] 3))).trans (Eff.of_grown bd HG6.out)) _
  · rcases HS6.out with h8 | h8
    · exact .inl h8
    · exact .inr ⟨_, h8, by simp⟩

def BSays (f : FsD) (nv : Value) (w0 : World) (k : Nat) : Prop := ∀ (i : Nat) (ps : List (List UInt8)) (ws : List Int) (nm v : Value) (B bd : Nat) (w : World), w0.heap.size ≤ B → Below w0.heap.size w0 w → i < f.nodes.length → Down f.nodes k i → ps.length + k ≤ 41 → (∀ p ∈ ps, p ≠ [46] ∧ p.length ≤ 8) → ws.length + (biF f.nodes k i).length ≤ 50000000 → B ≤ bd →
  w.heap[bd]? = some (.cells #[v] 38) → LstI w B v ws → Lst w B nm ps → Dis nm v →
  Calls Try.prog 30 #[nv, .int .i64 (i : Int), .func (.func 37) #[] #[.pointer (some ⟨bd, 0, none⟩)], nm] w fun e w' => e = .returned (.tuple #[]) ∧ ∃ v', w'.heap[bd]? = some (.cells #[v'] 38) ∧ LstI w' B v' (ws ++ biF f.nodes k i) ∧ Lst w' B nm ps ∧ Eff2 w w' bd nm.ownBlock v.ownBlock ∧ NewB w.heap.size v v'
set_option maxRecDepth 100000 in
set_option maxHeartbeats 8000000 in
theorem walkBel_step (f : FsD) (hg : goodF f = true) (hs : szF f ≤ 1048576) (nv : Value) (w0 : World) (hN : NodsA w0 nv f.nodes) (k : Nat) (ih : ∀ k2, k2 < k → BSays f nv w0 k2) : BSays f nv w0 k := by
  intro i ps ws nm v B bd w hwB hbw hi hD hkL hps hcnt hBd hbd hLv hown hdis
  have IH := Lib.hid ih
  obtain ⟨i0, hi0, hz0, hz1, hz2⟩ := info_parts strInfo
  obtain ⟨oo, cc, rfl, hoo⟩ := owns_form hown
  obtain ⟨o, c, rfl, hm, hH⟩ := hN
  unfold maxLen at hm
  have hl : f.nodes.length ≤ 1048576 := (lists_small hs).1
  have hll : (lsAt f.nodes i).length ≤ 1048576 := by rw [lsAt_is hi]; exact ((lists_small hs).2 _ (List.getElem_mem hi)).1
  obtain ⟨g3, f3, lv3, rfl, hg3, hc3, he3, -⟩ := hH i hi
  rw [← lsAt_is hi] at he3
  obtain ⟨o5, c5, rfl, -, hH5⟩ := he3
  have HH5 := Lib.hid hH5
  obtain ⟨k2, hk2, hk3, hv3, hk4⟩ : ∃ k2, k ≤ k2 + 1 ∧ k2 ≤ k ∧ ((k = 0 ∧ lsAt f.nodes i = []) ∨ k = k2 + 1) ∧ ∀ e ∈ lsAt f.nodes i, k = k2 + 1 ∧ (0 ≤ e.node ∧ e.node < f.nodes.length) ∧ Down f.nodes k2 e.node.toNat ∧ e.name ≠ [46] ∧ e.name.length ≤ 8 := by
    cases k with
    | zero => exact ⟨0, by omega, by omega, .inl ⟨rfl, hD⟩, fun e he => by rw [show lsAt f.nodes i = [] from hD] at he; cases he⟩
    | succ k => exact ⟨k, by omega, by omega, .inr rfl, fun e he => ⟨rfl, (hD e he).1, (hD e he).2, name_facts hg he⟩⟩
  rw [biF_len _ _ _ _ hv3] at hcnt
  have hval := biF_val f.nodes k k2 i hv3
  obtain ⟨es, hes⟩ : ∃ es, es = lsAt f.nodes i := ⟨_, rfl⟩
  rw [← hes] at HH5 hll hcnt hval hk4
  have hc6 := hc3.c6
  rw [← hes] at hc6
  have HV := Lib.hid hval
  have HK4 := Lib.hid hk4
  have HPS := Lib.hid hps
  have HBD := Lib.hid hbd
  have HOWN := Lib.hid hown
  have HLV := Lib.hid hLv
  have HDIS := Lib.hid hdis
  have HBW := Lib.hid hbw
  have hbl := lt_of_heap hbd
  have hBs : B ≤ w.heap.size := by omega
  have HNE : Hid ((Value.slice oo ps.length cc).ownBlock ≠ some bd) := Lib.hid (row_ne_boxA hown hbd (by decide))
  have HR1 : Hid (∀ g, (Value.slice oo ps.length cc).ownBlock = some g → B ≤ g) := Lib.hid (fun g e => (lst_lt HOWN.out g e).1)
  have HR2 : Hid (∀ g, v.ownBlock = some g → B ≤ g) := Lib.hid (fun g e => (lstI_lt HLV.out g e).1)
  have hLps : ps.length ≤ 41 := by omega
  have HC6 := Lib.hid hc6
  clear hH hD hval hv3 hk4 hc3 hH5 hes ih hps hbd hown hLv hdis hbw hoo hc6
  go_enter Try.func30, Try.ntmps30
  go_wp2_with fail
  refine (met_visit bd i ws (.slice oo ps.length cc) v B w hBd HBD.out HLV.out (by omega)).mono ?_
  rintro e w1 ⟨rfl, v1, hX1, hL1, hE1, hN1⟩
  have HX1 := Lib.hid hX1
  have HL1 := Lib.hid hL1
  have HE1 := Lib.hid (Eff2.of_eff (Value.slice oo ps.length cc).ownBlock hE1)
  have HN1 := Lib.hid hN1
  have HO1 : Hid (Lst w1 B (.slice oo ps.length cc) ps) := Lib.hid (own_eff HOWN.out hE1 HNE.out (by
    by_cases h : (Value.slice oo ps.length cc).ownBlock = none
    · exact .inl h
    · obtain ⟨g, hg⟩ := Option.ne_none_iff_exists'.1 h
      exact .inr (by rw [hg]; exact fun e => HDIS.out g hg e.symm)))
  have HBW1 := Lib.hid (HBW.out.trans ((HE1.out.below hBd HR1.out HR2.out hBs).mono hwB))
  have c6 := (HBW1.out.cell (p := ⟨g3, f3 + i * 7 + 6, none⟩) hg3).trans HC6.out
  obtain ⟨us, hus⟩ : ∃ us, us = ws ++ [(i : Int)] := ⟨_, rfl⟩
  have HUS := Lib.hid hus
  have hul : us.length ≤ ws.length + 1 := by rw [hus]; simp
  rw [← hus] at HL1
  clear hX1 hL1 hE1 hN1 hus
  go_wp2
  go_loopw [20] (fun i9 wr => ∃ (j : Nat) (vr : Value), j ≤ es.length ∧ i9 = .int .i64 j ∧ Eff2 w wr bd (Value.slice oo ps.length cc).ownBlock v.ownBlock ∧ wr.heap[bd]? = some (.cells #[vr] 38) ∧ LstI wr B vr (us ++ biS f.nodes k2 (es.take j)) ∧ Lst wr B (.slice oo ps.length cc) ps ∧ NewB w.heap.size v vr) (fun i9 _ => es.length - (intOf i9).toNat)
  case atStart => exact ⟨0, _, Nat.zero_le _, rfl, HE1.out, HX1.out, by simpa [biS] using HL1.out, HO1.out, HN1.out⟩
  case round =>
    obtain ⟨j, vr, hj, rfl, hE, hX, hL, hO, hN⟩ := hrel
    have HE := Lib.hid hE
    have HX := Lib.hid hX
    have HL := Lib.hid hL
    have HO := Lib.hid hO
    have HN := Lib.hid hN
    have hsz := hE.size
    have hBw := hE.below hBd HR1.out HR2.out hBs
    have hpr := biS_pre f.nodes k2 es j
    by_cases hlt : j < es.length
    · obtain ⟨g9, f9, rfl, q9, y1, y2, -⟩ := HH5.out j hlt
      obtain ⟨he1, ⟨he2, he3⟩, he4, he5, he6⟩ := HK4.out _ (List.getElem_mem hlt)
      obtain ⟨c9, hcc⟩ : ∃ c9 : Nat, es[j].node = c9 := ⟨es[j].node.toNat, by omega⟩
      have HT := Lib.hid (biS_take (ns := f.nodes) (k := k2) hlt)
      have HPN := biS_pre f.nodes k2 es (j + 1)
      rw [HT.out] at HPN
      rw [hcc] at y2 he4 he3 HT HPN
      rw [show ((c9 : Int)).toNat = c9 by simp] at he4 HT HPN
      have hbwr := HBW.out.trans (hBw.mono hwB)
      have a1 := (hbwr.cell (p := ⟨g9, f9 + j * 2, none⟩) q9).trans y1
      have a2 := (hbwr.cell (p := ⟨g9, f9 + j * 2 + 1, none⟩) q9).trans y2
      obtain ⟨nn, hnn⟩ : ∃ nn, nn = es[j].name := ⟨_, rfl⟩
      rw [← hnn] at a1 he5 he6
      obtain ⟨x, hx⟩ : ∃ x, x = bs nn := ⟨_, rfl⟩
      rw [← hx] at a1
      have HXN := Lib.hid hx
      have HPS2 : Hid (∀ p ∈ ps ++ [nn], p ≠ [46] ∧ p.length ≤ 8) := Lib.hid (fun p hp => by
        rcases List.mem_append.1 hp with h | h
        · exact HPS.out p h
        · rw [List.mem_singleton.1 h]; exact ⟨he5, he6⟩)
      have HD4 := Lib.hid he4
      have HLw : Hid (w.heap.size ≤ wr.heap.size) := Lib.hid hsz
      have hbdw : bd < wr.heap.size := by omega
      have hal : Below wr.heap.size wr (wr.alloc (.cells #[.string x, .int .i64 (c9 : Int)] 67)) := (Below.refl _ _).alloc (Nat.le_refl _) _
      obtain ⟨W2, hW2⟩ : ∃ W2, wr.alloc (.cells #[.string x, .int .i64 (c9 : Int)] 67) = W2 := ⟨_, rfl⟩
      have hEN : W2.heap[wr.heap.size]? = some (.cells #[.string x, .int .i64 (c9 : Int)] 67) := by rw [← hW2]; exact heap_alloc_new wr _
      rw [hW2] at hal
      have hs2 := lt_of_heap hEN
      have h23 : Below W2.heap.size W2 (W2.alloc (.cells #[.string x] 9)).drew := ((Below.refl _ W2).alloc (Nat.le_refl _) _).drew
      have h13 : Below wr.heap.size wr (W2.alloc (.cells #[.string x] 9)).drew := hal.trans (h23.mono (Nat.le_of_lt hs2))
      have HEF3 : Hid (Eff2 w (W2.alloc (.cells #[.string x] 9)).drew bd (Value.slice oo ps.length cc).ownBlock v.ownBlock) := Lib.hid (HE.out.trans (Eff2.of_below _ _ _ h13))
      have HXB : Hid (((W2.alloc (.cells #[.string x] 9)).drew).heap[bd]? = _) := Lib.hid ((h13.block bd hbdw).trans HX.out)
      have HEB : Hid (((W2.alloc (.cells #[.string x] 9)).drew).heap[wr.heap.size]? = some (.cells #[.string x, .int .i64 (c9 : Int)] 67)) := Lib.hid ((h23.block _ hs2).trans hEN)
      have HLB : Hid (LstI ((W2.alloc (.cells #[.string x] 9)).drew) B vr (us ++ biS f.nodes k2 (es.take j))) := Lib.hid (lstI_below HL.out h13)
      have HOX3 : Hid (((W2.alloc (.cells #[.string x] 9)).drew).ownsRow B 9 1 (.slice oo ps.length cc) ps.length (strs ps)) := Lib.hid (lst_below HO.out h13)
      have HNW : Hid (∀ j u, [Value.string x][j]? = some u → ((W2.alloc (.cells #[.string x] 9)).drew).cell? ((⟨W2.heap.size, 0, none⟩ : Addr).add j) = some u) := Lib.hid (cell_one_new W2 (.string x) 9)
      have HBX3 : Hid (B ≤ ((W2.alloc (.cells #[.string x] 9)).drew).heap.size) := Lib.hid (Nat.le_trans (by omega) h13.size)
      have HL3 : Hid (bd < ((W2.alloc (.cells #[.string x] 9)).drew).heap.size) := Lib.hid (lt_of_heap HXB.out)
      have HL4 : Hid (wr.heap.size < ((W2.alloc (.cells #[.string x] 9)).drew).heap.size) := Lib.hid (lt_of_heap HEB.out)
      have HRW : Hid (some wr.heap.size ≠ (Value.slice oo ps.length cc).ownBlock) := Lib.hid (fun e => by
        have h9 := (lst_lt HOWN.out wr.heap.size e.symm).2
        omega)
      have HRV : Hid (∀ g, vr.ownBlock = some g → B ≤ g ∧ g < wr.heap.size) := Lib.hid (lstI_lt HL.out)
      have HVB : Hid (vr.ownBlock ≠ some bd) := Lib.hid (row_ne_boxA HL.out HX.out (by decide))
      have HDR : Hid (Dis (.slice oo ps.length cc) vr) := Lib.hid (fun g e e2 => by
        rcases HN.out.of g e2 with h | h
        · exact HDIS.out g e h
        · have := (lst_lt HOWN.out g e).2; omega)
      have e20 : W2.cell? ⟨wr.heap.size, 0, none⟩ = some (.string x) := cell_blk hEN 0
      have e21 : W2.cell? ⟨wr.heap.size, 1, none⟩ = some (.int .i64 (c9 : Int)) := cell_blk hEN 1
      have d20 : W2.drew.cell? ⟨wr.heap.size, 0, none⟩ = some (.string x) := e20
      have d21 : W2.drew.cell? ⟨wr.heap.size, 1, none⟩ = some (.int .i64 (c9 : Int)) := e21
      have d30 : ((W2.alloc (.cells #[.string x] 9)).drew).cell? ⟨wr.heap.size, 0, none⟩ = some (.string x) := cell_blk HEB.out 0
      have d31 : ((W2.alloc (.cells #[.string x] 9)).drew).cell? ⟨wr.heap.size, 1, none⟩ = some (.int .i64 (c9 : Int)) := cell_blk HEB.out 1
      have HW2 := Lib.hid hW2
      have hcn : (us ++ biS f.nodes k2 (es.take j)).length + (biF f.nodes k2 c9).length ≤ 50000000 := by
        simp only [List.length_append] at HPN ⊢; omega
      have HCN := Lib.hid hcn
      clear hE hX hL hO hN y1 y2 hx hcc he4 hbwr hBw hal hEN h23 h13 hW2 hnn HPN hpr hcn
      go_wp2
      rw [HW2.out]
      go_region_held3 (fun w' => w'.cell? ⟨wr.heap.size, 0, none⟩ = some (.string x) ∧ w'.cell? ⟨wr.heap.size, 1, none⟩ = some (.int .i64 (c9 : Int))) (first | (with_reducible exact ⟨d20, d21⟩) | (with_reducible exact ⟨d30, d31⟩) | (with_reducible exact ⟨e60, e61⟩) | (with_reducible exact ⟨e70, e71⟩))
        (first
          | (refine step_append_keep _ rfl (.tmp 28) (.tmp 31) 26 rfl B 9 i0 (.string ⟨#[]⟩) 1 16 Try.underlying26 hi0 hz0 hz1 hz2 rfl (by decide) (.slice oo ps.length cc) ps.length (strs ps) (by simp [Act.eval, Act.put]) HOX3.out ⟨W2.heap.size, 0, none⟩ 1 1 [.string x] (by decide) (by simp [Act.eval, Act.put]) rfl HNW.out (by simp [Value.oneCell']) (by unfold maxLen; omega) (by omega) HBX3.out ?_; intro v6 w6 hown6 hgrow6 hkeep6 hsame6; have HO6 : Hid (Lst w6 B v6 (ps ++ [nn])) := Lib.hid (Lst.snoc HXN.out hown6); have HK6 : Hid (Lst w6 B (.slice oo ps.length cc) ps) := Lib.hid hkeep6; have HS6 := Lib.hid (same_cases hsame6); have HQ6 := Lib.hid hsame6; obtain ⟨oo6, cc6, rfl, -⟩ := owns_form hown6; have HE6 := Lib.hid (HEF3.out.trans (Eff2.of_grown bd _ hgrow6)); have HX6 := Lib.hid ((hgrow6.block _ HL3.out (fun e => HNE.out e.symm)).trans HXB.out); have HL6 : Hid (LstI w6 B vr (us ++ biS f.nodes k2 (es.take j))) := Lib.hid (World.ownsRow.kept HLB.out hgrow6 (by cases hvr : vr.ownBlock with | none => exact .inl rfl | some g => exact .inr (fun e => HDR.out g e.symm hvr))); have HE61 := Lib.hid ((hgrow6.block _ HL4.out HRW.out).trans HEB.out); have HG6 := Lib.hid hgrow6.size; have e60 : w6.cell? ⟨wr.heap.size, 0, none⟩ = some (.string x) := cell_blk HE61.out 0; have e61 : w6.cell? ⟨wr.heap.size, 1, none⟩ = some (.int .i64 (c9 : Int)) := cell_blk HE61.out 1; have HBW6 : Hid (Below w0.heap.size w0 w6) := Lib.hid (HBW.out.trans ((HE6.out.below hBd HR1.out HR2.out hBs).mono hwB)); have HN7 : Hid (some wr.heap.size ≠ (Value.slice oo6 (ps.length + 1) cc6).ownBlock) := Lib.hid (fun e => by rcases HS6.out with h8 | h8 <;> rw [h8] at e <;> first | exact HRW.out e | (have h9 := HL4.out; simp only [Option.some.injEq] at e; omega)); have HD6 : Hid (Dis (.slice oo6 (ps.length + 1) cc6) vr) := Lib.hid (fun g e e2 => by rcases HS6.out with h8 | h8 <;> rw [h8] at e <;> first | exact HDR.out g e e2 | (have h9 := (HRV.out g e2).2; have h10 := HL4.out; simp only [Option.some.injEq] at e; omega)); clear hown6 hgrow6 hkeep6 hsame6)
          | (go_at_call 30; refine (IH.out k2 (by omega) c9 (ps ++ [nn]) (us ++ biS f.nodes k2 (es.take j)) (.slice oo6 (ps.length + 1) cc6) vr B bd w6 hwB HBW6.out (by omega) HD4.out (by simp; omega) HPS2.out HCN.out hBd HX6.out HL6.out HO6.out HD6.out).mono ?_; rintro e w7 ⟨rfl, v7, hX7, hL7, hO7, hE7, hN7⟩; have HE7 := Lib.hid hE7; have HX7 := Lib.hid hX7; have HL7 := Lib.hid hL7; have HO7 := Lib.hid hO7; have HNB7 := Lib.hid hN7; have h71 := (hE7.block _ (lt_of_heap HE61.out) (by omega) HN7.out (fun e => by have := (HRV.out _ e.symm).2; omega)).trans HE61.out; have e70 : w7.cell? ⟨wr.heap.size, 0, none⟩ = some (.string x) := cell_blk h71 0; have e71 : w7.cell? ⟨wr.heap.size, 1, none⟩ = some (.int .i64 (c9 : Int)) := cell_blk h71 1; clear hE7 hX7 hL7 hO7 hN7 h71))
      all_goals
        go_wp2
        go_roundw
        case rel =>
          refine ⟨j + 1, v7, hlt, by go_num, HE6.out.fresh HE7.out (fun g hg => ?_) HN.out.of, HX7.out, ?_, ?_, HN.out.trans HNB7.out (Nat.le_trans HLw.out (Nat.le_trans (Nat.le_of_lt HL4.out) HG6.out))⟩
          · rcases HS6.out with h8 | h8
            · exact .inl (h8.symm.trans hg)
            · rw [h8] at hg
              have h9 := HL4.out
              have h10 := HLw.out
              simp only [Option.some.injEq] at hg
              exact .inr (by omega)
          · rw [HT.out, ← List.append_assoc]
            exact HL7.out
          · rcases HQ6.out with ⟨g8, cap8, e8, e9⟩ | h8
            · simp only [Value.slice.injEq, true_and] at e8 e9
              obtain ⟨rfl, rfl⟩ := e8
              obtain ⟨rfl, rfl⟩ := e9
              exact lst_cut HO7.out
            · refine lst_eff2 HK6.out HE7.out HNE.out (fun g e => ?_) (fun g e e2 => HDR.out g e e2.symm)
              rw [h8]
              intro e2
              have h9 := (lst_lt HOWN.out _ e).2
              have h10 := HL4.out
              have h11 := HLw.out
              simp only [Option.some.injEq] at e2
              omega
        case measure => simp [intOf]; omega
    · have HT : Hid (es.take j = es) := Lib.hid (List.take_of_length_le (by omega))
      rw [HT.out] at hL
      have HL := Lib.hid hL
      clear hE hX hL hO hN hpr hBw
      go_wp2
      go_end0
      refine ⟨rfl, vr, HX.out, ?_, HO.out, HE.out, HN.out⟩
      have h7 := HL.out
      rw [HUS.out, List.append_assoc] at h7
      rw [HV.out]
      exact h7
theorem walkBel_any (f : FsD) (hg : goodF f = true) (hs : szF f ≤ 1048576) (nv : Value) (w0 : World) (hN : NodsA w0 nv f.nodes) (k : Nat) : BSays f nv w0 k := by
  induction k using Nat.strongRecOn with
  | ind k ih => exact walkBel_step f hg hs nv w0 hN k ih
end Go.Proofs.Ytbmbbioanlcioaa
